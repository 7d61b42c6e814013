/- Texts of the walks, merged. -/
import Derived.Test.YtnaflaokhldfnaaQ24
import Derived.Test.YtnaflaokhldfnaaQ28
namespace Go.Proofs.Ytnaflaokhldfnaa
set_option linter.unusedSimpArgs false
set_option linter.unusedVariables false
open Go.RowKit

theorem rq_fr (X Y u v p q : Nat) (half : Bool) (h : u + q = v + p) (hle : p ≤ u) : rq (X * 10 ^ u) (Y * 10 ^ v) half = rq (X * 10 ^ p) (Y * 10 ^ q) half := by
  obtain ⟨k, rfl⟩ : ∃ k, u = p + k := ⟨u - p, by omega⟩
  obtain rfl : v = q + k := by omega
  rw [Nat.pow_add, Nat.pow_add, ← Nat.mul_assoc, ← Nat.mul_assoc]
  exact rq_scale half (Nat.pow_pos (by omega))
theorem rq_zero (d : Nat) (half : Bool) (hd : 0 < d) : rq 0 d half = 0 := by
  unfold rq
  rw [Nat.zero_div, Nat.zero_mod, if_neg (by omega)]
theorem pN_zero (b b' : Bool) (l : Int) : pN b 0 l = pN b' 0 l := by
  unfold pN
  split
  · rfl
  · cases b <;> cases b' <;> rfl
theorem absI_nat (n : Int) : absI n = (n.natAbs : Int) := by unfold absI; split <;> omega
theorem up_int (n : Int) (d : Nat) : absI n * 10 ^ d = ((n.natAbs * 10 ^ d : Nat) : Int) := by rw [absI_nat]; push_cast; rfl

/-- The reference's fraction of an operation fits the program's. -/
def FrOk (op n s m t sc : Int) (neg : Bool) (v b : Int) : Prop :=
  0 < b ∧ v < 10 ^ 90 ∧ b < 10 ^ 90 ∧ (∀ half, rq (v.toNat * 10 ^ sc.toNat) b.toNat half = caZ op n s m t sc half) ∧ (neg = frB op n s m t ∨ frO op n s m t = 0)

theorem ten_lt {a b : Nat} (h : a < b) : (10 : Int) ^ a < 10 ^ b := by
  have h1 : (10 : Nat) ^ a < 10 ^ b := Nat.pow_lt_pow_right (by omega) h
  exact_mod_cast h1

theorem put_fr {op n s m t k l sc : Int} {half : Bool} (h : caErr op n s m t k l sc = 0) {neg : Bool} {v b : Int} (hf : FrOk op n s m t sc neg v b) :
    ∀ wz p g c q d xs ys j, Sl wz p g c xs → Cn xs → vl xs = v → Sl wz q j d ys → Cn ys → vl ys = b → Calls Try.prog 30 #[.agg #[.bool neg, .slice p g c, .slice q j d], .agg #[.int .i64 k, .int .i64 l, .int .i64 sc], .bool half] wz fun e w' => e = .returned (.tuple #[.int .i64 (caN op n s m t k l sc half), .int .i64 (caE op n s m t k l sc half)]) ∧ Gr wz w' := by
  intro wz p g c q d xs ys j g1 g2 g3 g4 g5 g6
  obtain ⟨f1, f2, f3, f4, f5⟩ := hf
  obtain ⟨-, hcv, -, -⟩ := caErr_ok h
  obtain ⟨n0, n1, s0, s1, l0, l1, c0, c1, k0, k1⟩ := cvErr_ok hcv
  have hm : g ≤ 90 := by rw [← g1.len]; exact (g2.len_le 90).2 (by rw [g3]; exact f2)
  have hj : j ≤ 90 := by rw [← g4.len]; exact (g5.len_le 90).2 (by rw [g6]; exact f3)
  have hp := Put_any neg k l sc half (by omega) (by omega) (by omega) (by omega) g1 g4 g2 g5 (by rw [g6]; exact f1) (by omega) (by omega)
  rw [g3, g6, f4 half] at hp
  have hE : caE op n s m t k l sc half = pE (caZ op n s m t sc half) l := by unfold caE; rw [if_neg (by simp [h])]
  have hN : caN op n s m t k l sc half = pN (frB op n s m t) (caZ op n s m t sc half) l := by unfold caN; rw [if_neg (by simp [h])]
  have hNN : pN neg (caZ op n s m t sc half) l = pN (frB op n s m t) (caZ op n s m t sc half) l := by
    rcases f5 with rfl | f5
    · rfl
    · have hz : caZ op n s m t sc half = 0 := by
        unfold caZ
        rw [f5, Nat.zero_mul]
        exact rq_zero _ _ (fr_bd h).2.1
      rw [hz]
      exact pN_zero _ _ _
  rw [hE, hN, ← hNN]
  exact hp

theorem sum_fr (a b : Bool) (A B : Nat) : (absI (sgv a A + sgv b B)) = (sO a b A B : Nat) ∧ (smB a A b B = sB a b A B ∨ sO a b A B = 0) := by
  have f : ∀ x, sgv false x = x := fun _ => rfl
  have t : ∀ x, sgv true x = -x := fun _ => rfl
  unfold absI sO smB sB
  cases a <;> cases b <;> simp only [f, t, if_true, if_false, reduceCtorEq, Bool.false_eq_true] <;> (repeat' split) <;> simp <;> omega
theorem sO_zero (a b : Bool) (A : Nat) : sO a b A 0 = A := by unfold sO; (repeat' split) <;> omega
theorem sB_zero (a b : Bool) (A : Nat) : sB a b A 0 = a := by unfold sB; rw [if_neg (Nat.not_lt_zero A)]; split <;> rfl

theorem result_fr {op n s m t k l sc : Int} (h : caErr op n s m t k l sc = 0) :
    ∃ neg v b, FrOk op n s m t sc neg v b ∧ ∀ w, Calls Try.prog 29 #[.int .i64 op, .agg #[.int .i64 n, .int .i64 s], .agg #[.int .i64 m, .int .i64 t]] w (RsR neg v b 0 w) := by
  obtain ⟨ho, hcv, hm, hdv⟩ := caErr_ok h
  obtain ⟨n0, n1, s0, s1, l0, l1, c0, c1, k0, k1⟩ := cvErr_ok hcv
  obtain ⟨m0, m1, t0, t1⟩ := numErr_ok hm
  have hAl := fun w => aligned_any n m s t (by omega) (by omega) (by omega) (by omega) (by omega) (by omega) w
  have bn : n.natAbs ≤ 999999999999999 := by omega
  have bm : m.natAbs ≤ 999999999999999 := by omega
  have hA : n.natAbs * 10 ^ (max s t - s).toNat ≤ 999999999999999 * 1000000000000000 := Nat.mul_le_mul bn (pow10_le _ (by omega)).2
  have hB : m.natAbs * 10 ^ (max s t - t).toNat ≤ 999999999999999 * 1000000000000000 := Nat.mul_le_mul bm (pow10_le _ (by omega)).2
  have e60 : (10 : Int) ^ 60 = 1000000000000000000000000000000000000000000000000000000000000 := by decide
  have e90 : (10 : Int) ^ 90 = 1000000000000000000000000000000000000000000000000000000000000000000000000000000000000000000 := by decide
  have hM : 0 ≤ max s t ∧ max s t ≤ 15 := by omega
  have p10 : ∀ j : Nat, j ≤ 30 → 0 < (10 : Int) ^ j ∧ (10 : Int) ^ j < 10 ^ 90 := fun j hj => ⟨ten_pos _, ten_lt (by omega)⟩
  have tn : ∀ j : Nat, ((10 : Int) ^ j).toNat = 10 ^ j := fun j => by
    have : ((10 : Int) ^ j) = ((10 ^ j : Nat) : Int) := by push_cast; rfl
    rw [this]; rfl
  simp only [up_int] at hAl
  rcases (show op = 0 ∨ op = 1 ∨ op = 2 ∨ op = 3 ∨ op = 4 by omega) with rfl | rfl | rfl | rfl | rfl
  · have hs := sum_fr (decide (n < 0)) (decide (m < 0)) (n.natAbs * 10 ^ (max s t - s).toNat) (m.natAbs * 10 ^ (max s t - t).toNat)
    have hO : sO (decide (n < 0)) (decide (m < 0)) (n.natAbs * 10 ^ (max s t - s).toNat) (m.natAbs * 10 ^ (max s t - t).toNat) ≤ 2 * (999999999999999 * 1000000000000000) := by unfold sO; (repeat' split) <;> omega
    refine ⟨_, _, _, ⟨(p10 _ (by omega)).1, ?_, (p10 _ (by omega)).2, fun half => ?_, ?_⟩, fun w => Result_add n s m t _ _ _ _ _ (by omega) hAl (by omega) (by omega) w⟩
    · rw [hs.1]; omega
    · rw [hs.1, tn, Int.toNat_natCast]
      have := rq_fr (sO (decide (n < 0)) (decide (m < 0)) (n.natAbs * 10 ^ (max s t - s).toNat) (m.natAbs * 10 ^ (max s t - t).toNat)) 1 sc.toNat (max s t).toNat (sc - max s t).toNat (max s t - sc).toNat half (by omega) (by omega)
      rw [Nat.one_mul] at this
      exact this
    · exact hs.2
  · have hs := sum_fr (decide (n < 0)) (!decide (m < 0)) (n.natAbs * 10 ^ (max s t - s).toNat) (m.natAbs * 10 ^ (max s t - t).toNat)
    have hO : sO (decide (n < 0)) (!decide (m < 0)) (n.natAbs * 10 ^ (max s t - s).toNat) (m.natAbs * 10 ^ (max s t - t).toNat) ≤ 2 * (999999999999999 * 1000000000000000) := by unfold sO; (repeat' split) <;> omega
    by_cases hz : m = 0
    · subst hz
      have hs0 := sum_fr (decide (n < 0)) false (n.natAbs * 10 ^ (max s t - s).toNat) 0
      have z0 : (0 : Int).natAbs * 10 ^ (max s t - t).toNat = 0 := by simp
      have hfO : frO 1 n s 0 t = n.natAbs * 10 ^ (max s t - s).toNat := by
        unfold frO; rw [if_neg (by decide), if_neg (by decide), if_neg (by decide), z0]; exact sO_zero _ _ _
      have hfB : frB 1 n s 0 t = decide (n < 0) := by
        unfold frB; rw [if_neg (by decide), if_neg (by decide), z0]; exact sB_zero _ _ _
      rw [sO_zero, sB_zero] at hs0
      simp only [z0] at hAl
      refine ⟨_, _, _, ⟨(p10 _ (by omega)).1, ?_, (p10 _ (by omega)).2, fun half => ?_, ?_⟩, fun w => Result_sub n s 0 t _ _ _ false _ _ (by omega) hAl (by omega) (by omega) (.inr (.inl ⟨by simp, by simp, rfl⟩)) w⟩
      · rw [hs0.1]; omega
      · rw [hs0.1, tn, Int.toNat_natCast]
        have := rq_fr (n.natAbs * 10 ^ (max s t - s).toNat) 1 sc.toNat (max s t).toNat (sc - max s t).toNat (max s t - sc).toNat half (by omega) (by omega)
        rw [Nat.one_mul] at this
        unfold caZ
        rw [hfO]
        exact this
      · rw [hfO, hfB]; exact hs0.2
    · have hy : 0 < m.natAbs * 10 ^ (max s t - t).toNat := Nat.mul_pos (by omega) (Nat.pow_pos (by omega))
      refine ⟨_, _, _, ⟨(p10 _ (by omega)).1, ?_, (p10 _ (by omega)).2, fun half => ?_, hs.2⟩, fun w => Result_sub n s m t _ _ _ (!decide (m < 0)) _ _ (by omega) hAl (by omega) (by omega) ?_ w⟩
      · rw [hs.1]; omega
      · rw [hs.1, tn, Int.toNat_natCast]
        have := rq_fr (sO (decide (n < 0)) (!decide (m < 0)) (n.natAbs * 10 ^ (max s t - s).toNat) (m.natAbs * 10 ^ (max s t - t).toNat)) 1 sc.toNat (max s t).toNat (sc - max s t).toNat (max s t - sc).toNat half (by omega) (by omega)
        rw [Nat.one_mul] at this
        exact this
      · by_cases hm0 : m < 0
        · exact .inl ⟨by simp [hm0], by simp [hm0]⟩
        · exact .inr (.inr ⟨by simp [hm0], by omega, by simp [hm0]⟩)
  · refine ⟨_, _, _, ⟨(p10 _ (by omega)).1, ?_, (p10 _ (by omega)).2, fun half => ?_, ?_⟩, fun w => Result_mul n s m t _ _ _ _ _ (by omega) hAl (by omega) (by omega) w⟩
    · have h1 := Nat.mul_le_mul hA hB
      rw [← Int.natCast_mul]
      omega
    · rw [← Int.natCast_mul, Int.toNat_natCast, tn]
      have e1 : n.natAbs * 10 ^ (max s t - s).toNat * (m.natAbs * 10 ^ (max s t - t).toNat) * 10 ^ sc.toNat = (n.natAbs * m.natAbs) * 10 ^ ((max s t - s).toNat + (max s t - t).toNat + sc.toNat) := by
        rw [Nat.pow_add, Nat.pow_add]
        generalize 10 ^ (max s t - s).toNat = a
        generalize 10 ^ (max s t - t).toNat = b
        generalize 10 ^ sc.toNat = c
        ac_rfl
      rw [e1]
      have := rq_fr (n.natAbs * m.natAbs) 1 ((max s t - s).toNat + (max s t - t).toNat + sc.toNat) (2 * max s t).toNat (sc - (s + t)).toNat (s + t - sc).toNat half (by omega) (by omega)
      rw [Nat.one_mul] at this
      exact this
    · by_cases hz : n.natAbs * m.natAbs = 0
      · exact .inr hz
      · left
        have h1 : 0 < n.natAbs * 10 ^ (max s t - s).toNat := Nat.mul_pos (by rcases Nat.eq_zero_or_pos n.natAbs with e | e; (rw [e, Nat.zero_mul] at hz; exact absurd rfl hz); exact e) (Nat.pow_pos (by omega))
        have h2 : 0 < m.natAbs * 10 ^ (max s t - t).toNat := Nat.mul_pos (by rcases Nat.eq_zero_or_pos m.natAbs with e | e; (rw [e, Nat.mul_zero] at hz; exact absurd rfl hz); exact e) (Nat.pow_pos (by omega))
        have h3 := Nat.mul_pos h1 h2
        have h4 : decide (0 < ((n.natAbs * 10 ^ (max s t - s).toNat : Nat) : Int) * ((m.natAbs * 10 ^ (max s t - t).toNat : Nat) : Int)) = true := by rw [← Int.natCast_mul]; exact decide_eq_true (by omega)
        rw [h4, Bool.and_true]
        rfl
  · have hp := dv_pos hdv (.inl rfl)
    have hy : 0 < m.natAbs * 10 ^ (max s t - t).toNat := Nat.mul_pos hp (Nat.pow_pos (by omega))
    refine ⟨_, _, _, ⟨?_, ?_, ?_, fun half => ?_, .inl rfl⟩, fun w => Result_div n s m t _ _ _ _ _ (by omega) hAl (by omega) (by omega) (by omega) w⟩
    · omega
    · omega
    · omega
    · rw [Int.toNat_natCast, Int.toNat_natCast, Nat.mul_assoc, ← Nat.pow_add]
      exact rq_fr n.natAbs m.natAbs ((max s t - s).toNat + sc.toNat) (max s t - t).toNat (sc - (s - t)).toNat (s - t - sc).toNat half (by omega) (by omega)
  · have hp := dv_pos hdv (.inr rfl)
    have hy : 0 < m.natAbs * 10 ^ (max s t - t).toNat := Nat.mul_pos hp (Nat.pow_pos (by omega))
    refine ⟨_, _, _, ⟨(p10 _ (by omega)).1, ?_, (p10 _ (by omega)).2, fun half => ?_, .inl rfl⟩, fun w => Result_rem n s m t _ _ _ _ _ (by omega) hAl (by omega) (by omega) (by omega) w⟩
    · rw [← Int.natCast_emod]
      have := Nat.mod_le (n.natAbs * 10 ^ (max s t - s).toNat) (m.natAbs * 10 ^ (max s t - t).toNat)
      omega
    · rw [← Int.natCast_emod, Int.toNat_natCast, tn]
      have := rq_fr ((n.natAbs * 10 ^ (max s t - s).toNat) % (m.natAbs * 10 ^ (max s t - t).toNat)) 1 sc.toNat (max s t).toNat (sc - max s t).toNat (max s t - sc).toNat half (by omega) (by omega)
      rw [Nat.one_mul] at this
      exact this
end Go.Proofs.Ytnaflaokhldfnaa
namespace Go.Proofs.Ytnaflaokhldfnaa
set_option linter.unusedSimpArgs false
set_option linter.unusedVariables false
open Go.RowKit

theorem caErr_op {op n s m t k l sc : Int} (h : op < 0 ∨ 5 ≤ op) : caErr op n s m t k l sc = 4 := by
  unfold caErr
  rw [decide_eq_true h]
  rfl
theorem caErr_a {op n s m t k l sc : Int} (ho : 0 ≤ op ∧ op ≤ 4) (h : numErr n s ≠ 0) : caErr op n s m t k l sc = numErr n s := by
  unfold caErr
  rw [decide_eq_false (by omega)]
  simp only [first0, pick, Bool.false_eq_true, if_false, if_true]
  rw [if_neg h]
theorem caErr_b {op n s m t k l sc : Int} (ho : 0 ≤ op ∧ op ≤ 4) (h : numErr n s = 0) (h2 : numErr m t ≠ 0) : caErr op n s m t k l sc = numErr m t := by
  unfold caErr
  rw [decide_eq_false (by omega)]
  simp only [first0, pick, Bool.false_eq_true, if_false, if_true]
  rw [if_pos h, if_neg h2]
theorem caErr_t {op n s m t k l sc : Int} (ho : 0 ≤ op ∧ op ≤ 4) (h : numErr n s = 0) (h2 : numErr m t = 0) (h3 : nuErr k l sc ≠ 0) : caErr op n s m t k l sc = nuErr k l sc := by
  unfold caErr
  rw [decide_eq_false (by omega)]
  unfold nuErr at h3 ⊢
  simp only [first0]
  rw [if_pos (show pick false 4 = 0 from rfl), if_pos h, if_pos h2]
  by_cases e : typeErr k l sc = 0
  · have hv : (if typeErr k l sc ≠ 0 then typeErr k l sc else pick (!isNum k) 17) = pick (!isNum k) 17 := if_neg (by simp [e])
    rw [hv] at h3 ⊢
    rw [if_pos e, if_neg h3]
  · have hv : (if typeErr k l sc ≠ 0 then typeErr k l sc else pick (!isNum k) 17) = typeErr k l sc := if_pos e
    rw [hv, if_neg e]
theorem caErr_z {op n s m t k l sc : Int} (ho : 0 ≤ op ∧ op ≤ 4) (h : numErr n s = 0) (h2 : numErr m t = 0) (h3 : nuErr k l sc = 0) : caErr op n s m t k l sc = pick (dvB op m) 20 := by
  unfold caErr
  rw [decide_eq_false (by omega)]
  unfold nuErr at h3
  have e : typeErr k l sc = 0 := by
    by_cases e : typeErr k l sc = 0
    · exact e
    · rw [if_pos e] at h3; exact absurd h3 e
  rw [if_neg (by simp [e])] at h3
  simp only [first0]
  rw [if_pos (show pick false 4 = 0 from rfl), if_pos h, if_pos h2, if_pos e, if_pos h3]
  split
  · rename_i g; exact g.symm
  · rfl
theorem Within_op (op : Int) (c : Bool) (h : decide (0 ≤ op ∧ op ≤ 4) = c) (w : World) : Calls Try.prog 27 #[.int .i64 op, .int .i64 0, .int .i64 4] w fun e w' => e = .returned (.bool c) ∧ w = w' := by
  subst h
  refine (Within_any op 0 4 w).mono fun e w' he => ?_
  refine ⟨?_, he.2⟩
  rw [he.1]
  refine ret_bool ?_
  unfold withinB
  by_cases h1 : 0 ≤ op <;> by_cases h2 : op ≤ 4 <;> simp [h1, h2] <;> omega

theorem refCalculated_any (op n s m t k l sc : Int) (half : Bool) (w : World) :
    Calls Try.prog 9 #[.agg #[.int .i64 op, .int .i64 k, .int .i64 l, .int .i64 sc, .bool half], .agg #[.int .i64 n, .int .i64 s], .agg #[.int .i64 m, .int .i64 t]] w fun e w' => e = .returned (.tuple #[.agg #[.int .i64 (caN op n s m t k l sc half), .string ⟨#[]⟩], .int .i64 (caE op n s m t k l sc half)]) ∧ Gr w w' := by
  have hbad : caErr op n s m t k l sc ≠ 0 → caN op n s m t k l sc half = 0 ∧ caE op n s m t k l sc half = caErr op n s m t k l sc := fun h => by
    unfold caN caE; rw [if_pos h, if_pos h]; exact ⟨rfl, rfl⟩
  by_cases ho : 0 ≤ op ∧ op ≤ 4
  rotate_left
  · have he := caErr_op (op := op) (n := n) (s := s) (m := m) (t := t) (k := k) (l := l) (sc := sc) (by omega)
    obtain ⟨b1, b2⟩ := hbad (by rw [he]; decide)
    rw [b1, b2, he]
    exact refCalc0 op n s m t k l sc half (Within_op op false (by rw [decide_eq_false ho])) w
  have h0 := Within_op op true (by rw [decide_eq_true ho])
  have hA := NumberErr_any n s
  have hB := NumberErr_any m t
  have hT := numericErr_any k l sc
  by_cases h1 : numErr n s = 0
  rotate_left
  · have he := caErr_a (m := m) (t := t) (k := k) (l := l) (sc := sc) ho h1
    obtain ⟨b1, b2⟩ := hbad (by rw [he]; exact h1)
    rw [b1, b2, he]
    exact refCalc1 op n s m t k l sc half _ h0 hA (by simp [h1]) w
  by_cases h2 : numErr m t = 0
  rotate_left
  · have he := caErr_b (k := k) (l := l) (sc := sc) ho h1 h2
    obtain ⟨b1, b2⟩ := hbad (by rw [he]; exact h2)
    rw [b1, b2, he]
    rw [h1] at hA
    exact refCalc2 op n s m t k l sc half _ h0 hA hB (by simp [h2]) w
  rw [h1] at hA
  rw [h2] at hB
  by_cases h3 : nuErr k l sc = 0
  rotate_left
  · have he := caErr_t ho h1 h2 h3
    obtain ⟨b1, b2⟩ := hbad (by rw [he]; exact h3)
    rw [b1, b2, he]
    exact refCalc3 op n s m t k l sc half _ h0 hA hB hT (by simp [h3]) w
  rw [h3] at hT
  have hz := caErr_z ho h1 h2 h3
  rcases hd : dvB op m with _ | _
  · rw [hd] at hz
    have he : caErr op n s m t k l sc = 0 := hz
    obtain ⟨neg, v, b, hf, hr⟩ := result_fr he
    exact refCalc5 op n s m t k l sc half neg v b _ _ h0 hA hB hT hr (put_fr he hf) w
  · rw [hd] at hz
    have he : caErr op n s m t k l sc = 20 := hz
    obtain ⟨b1, b2⟩ := hbad (by rw [he]; decide)
    rw [b1, b2, he]
    unfold dvB at hd
    simp only [Bool.and_eq_true, Bool.or_eq_true, decide_eq_true_eq] at hd
    obtain ⟨hop, rfl⟩ := hd
    obtain ⟨n0, n1, s0, s1⟩ := numErr_ok h1
    obtain ⟨m0, m1, t0, t1⟩ := numErr_ok h2
    have hAl := fun w => aligned_any n 0 s t (by omega) (by omega) (by omega) (by omega) (by omega) (by omega) w
    have z0 : absI 0 * 10 ^ (max s t - t).toNat = 0 := by simp [absI]
    rw [z0] at hAl
    have hA' : n.natAbs * 10 ^ (max s t - s).toNat ≤ 999999999999999 * 1000000000000000 := Nat.mul_le_mul (by omega) (pow10_le _ (by omega)).2
    have e60 : (10 : Int) ^ 60 = 1000000000000000000000000000000000000000000000000000000000000 := by decide
    exact refCalc4 op n s 0 t k l sc half h0 hA hB hT (fun w => Result_zero n s 0 t _ op _ _ _ (by omega) hAl (by rw [up_int]; omega) hop w) w
end Go.Proofs.Ytnaflaokhldfnaa
