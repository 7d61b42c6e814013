/- Texts of the walks, merged. -/
import Derived.Test.YtnaflaokhldfnaaGreatQ24
import Derived.Test.YtnaflaokhldfnaaGreatQ10
namespace Go.Proofs.YtnaflaokhldfnaaGreat
set_option linter.unusedSimpArgs false
set_option linter.unusedVariables false
open Go.RowKit

theorem most_pow {l : Int} (h : 0 ≤ l) (Z : Nat) : most l < Z ↔ ¬ ((Z : Int) < 10 ^ l.toNat) := by
  unfold most p10; omega
theorem Small_of {b cc : Bool} {p : Option Addr} {n cap : Nat} {xs : List Int} {w : World} {Z R : Int} (h : Sl w p n cap xs) (hm : n ≤ 18) (hc : Cn xs) (hv : vl xs = Z) (hcc : (b && decide (0 < n)) = cc) (hR : (if b then -Z else Z) = R) :
    Calls Tryz.prog 75 #[.agg #[.bool cc, .slice p n cap]] w fun e w' => e = .returned (.int .i64 R) ∧ Gr w w' := by
  refine (Small_sl (c := cc) h hm hc.1).mono fun e w' k => ⟨?_, k.2⟩
  rw [k.1, ← hR, ← hcc, hv]
  rcases Nat.eq_zero_or_pos n with e | e
  · have : Z = 0 := by rw [← hv]; exact hc.zero.2 (by rw [h.len]; exact e)
    subst this; cases b <;> simp
  · cases b <;> simp [e]
set_option maxHeartbeats 2000000 in
set_option maxRecDepth 100000 in
theorem Put_any (b : Bool) {p q : Option Addr} {m n c d : Nat} {xs ys : List Int} (k l sc : Int) (half : Bool) (h1 : 1 ≤ l) (h2 : l ≤ 15) (h3 : 0 ≤ sc) (h4 : sc ≤ 15) {w : World} (hx : Sl w p m c xs) (hy : Sl w q n d ys) (cx : Cn xs) (cy : Cn ys) (hV : 0 < vl ys) (hm : m ≤ 100) (hn : n ≤ 100) :
    Calls Tryz.prog 47 #[.agg #[.bool b, .slice p m c, .slice q n d], .agg #[.int .i64 k, .int .i64 l, .int .i64 sc], .bool half] w fun e w' => e = .returned (.tuple #[.int .i64 (pN b (rq ((vl xs).toNat * 10 ^ sc.toNat) (vl ys).toNat half) l), .int .i64 (pE (rq ((vl xs).toNat * 10 ^ sc.toNat) (vl ys).toNat half) l)]) ∧ Gr w w' := by
  have hW : ∀ wz, Gr w wz → Calls Tryz.prog 74 #[.agg #[.bool b, .slice p m c, .slice q n d], .int .i64 sc, .bool half] wz (WhR b (rq ((vl xs).toNat * 10 ^ sc.toNat) (vl ys).toNat half : Nat) wz) := fun wz g =>
    Whole_any b half sc.toNat sc (by omega) (by omega) (hx.gr g) (hy.gr g) cx cy hV hm hn
  clear hx hy cx cy hV
  generalize rq ((vl xs).toNat * 10 ^ sc.toNat) (vl ys).toNat half = Z at *
  by_cases hov : (Z : Int) < 10 ^ l.toNat
  · have hN : pN b Z l = if b then -(Z : Int) else Z := by unfold pN; rw [if_neg (by rw [most_pow (by omega)]; simpa using hov)]
    have hE : pE Z l = 0 := by unfold pE; rw [if_neg (by rw [most_pow (by omega)]; simpa using hov)]
    rw [hN, hE]
    have HO := Lib.hid hov
    obtain ⟨R, hR⟩ : ∃ R, (if b then -(Z : Int) else Z) = R := ⟨_, rfl⟩
    rw [hR]
    have HRR := Lib.hid hR
    clear hN hE hov hR
    go_enter Tryz.func47, Tryz.ntmps47
    go_wp2_with (first | (go_at_call 74; refine (hW _ (by repeat (first | (with_reducible exact Gr.refl _) | (with_reducible assumption) | (with_reducible refine Gr.alloc ?_ _) | (with_reducible refine Gr.drew ?_) | (with_reducible refine Gr.drewN ?_ _) | (with_reducible refine Gr.setCell ?_ (by simp <;> omega) _) | (with_reducible refine Gr.trans ?_ (by with_reducible assumption)) | exact Gr.refl _ | assumption | refine Gr.alloc ?_ _ | refine Gr.drew ?_ | refine Gr.drewN ?_ _ | refine Gr.setCell ?_ (by simp <;> omega) _ | refine Gr.trans ?_ (by assumption)))).mono ?_; rintro e w3 ⟨r, kk, u, zs, he, s1, c1, v1, hb⟩; generalize hcc : (b && decide (0 < kk)) = cc at he; subst he; have hkl : kk ≤ l.toNat := (by rw [← s1.len]; exact (c1.len_le _).2 (by rw [v1]; exact HO.out)); have hkl' : (kk : Int) ≤ l := (by omega); obtain ⟨hc, hf⟩ := cellsM hb (w.heap.size + 2) (by simp); have hz : w.heap.size + 2 ≤ w3.heap.size := (by have h := Gr.size hb; (try simp at h); omega); have hz0 : w.heap.size < w3.heap.size := (by omega); have hz1 : w.heap.size + 1 < w3.heap.size := (by omega); have HS := Lib.hid (And.intro s1 (And.intro c1 (And.intro v1 hcc))); clear s1 c1 v1 hcc) | (go_at_call 75; refine (Small_of (HS.out.1.gr (by repeat (first | (with_reducible exact Gr.refl _) | (with_reducible assumption) | (with_reducible refine Gr.alloc ?_ _) | (with_reducible refine Gr.drew ?_) | (with_reducible refine Gr.drewN ?_ _) | (with_reducible refine Gr.setCell ?_ (by simp <;> omega) _) | (with_reducible refine Gr.trans ?_ (by with_reducible assumption)) | exact Gr.refl _ | assumption | refine Gr.alloc ?_ _ | refine Gr.drew ?_ | refine Gr.drewN ?_ _ | refine Gr.setCell ?_ (by simp <;> omega) _ | refine Gr.trans ?_ (by assumption)))) (by omega) HS.out.2.1 HS.out.2.2.1 HS.out.2.2.2 HRR.out).mono ?_; rintro e w4 ⟨rfl, hb4⟩))
    exact bodyPost_ret (v := .tuple #[.int .i64 R, .int .i64 0]) (by simp [results, Tryz.results47, go_sem, *]) rfl ⟨rfl, (by repeat (first | (with_reducible exact Gr.refl _) | (with_reducible assumption) | (with_reducible refine Gr.alloc ?_ _) | (with_reducible refine Gr.drew ?_) | (with_reducible refine Gr.drewN ?_ _) | (with_reducible refine Gr.setCell ?_ (by simp <;> omega) _) | (with_reducible refine Gr.trans ?_ (by with_reducible assumption)) | exact Gr.refl _ | assumption | refine Gr.alloc ?_ _ | refine Gr.drew ?_ | refine Gr.drewN ?_ _ | refine Gr.setCell ?_ (by simp <;> omega) _ | refine Gr.trans ?_ (by assumption)))⟩
  · have hN : pN b Z l = 0 := by unfold pN; rw [if_pos (by rw [most_pow (by omega)]; exact hov)]
    have hE : pE Z l = 19 := by unfold pE; rw [if_pos (by rw [most_pow (by omega)]; exact hov)]
    rw [hN, hE]
    have HO := Lib.hid hov
    clear hN hE hov
    go_enter Tryz.func47, Tryz.ntmps47
    go_wp2_with (go_at_call 74; refine (hW _ (by repeat (first | (with_reducible exact Gr.refl _) | (with_reducible assumption) | (with_reducible refine Gr.alloc ?_ _) | (with_reducible refine Gr.drew ?_) | (with_reducible refine Gr.drewN ?_ _) | (with_reducible refine Gr.setCell ?_ (by simp <;> omega) _) | (with_reducible refine Gr.trans ?_ (by with_reducible assumption)) | exact Gr.refl _ | assumption | refine Gr.alloc ?_ _ | refine Gr.drew ?_ | refine Gr.drewN ?_ _ | refine Gr.setCell ?_ (by simp <;> omega) _ | refine Gr.trans ?_ (by assumption)))).mono ?_; rintro e w3 ⟨r, kk, u, zs, he, s1, c1, v1, hb⟩; generalize hcc : (b && decide (0 < kk)) = cc at he; subst he; have hkl : ¬ kk ≤ l.toNat := (by rw [← s1.len]; intro h; exact HO.out (by rw [← v1]; exact (c1.len_le _).1 h)); have hkl' : l < (kk : Int) := (by omega); obtain ⟨hc, hf⟩ := cellsM hb (w.heap.size + 2) (by simp); have hz : w.heap.size + 2 ≤ w3.heap.size := (by have h := Gr.size hb; (try simp at h); omega); have hz0 : w.heap.size < w3.heap.size := (by omega); have hz1 : w.heap.size + 1 < w3.heap.size := (by omega); have HS := Lib.hid (And.intro s1 (And.intro c1 (And.intro v1 hcc))); clear s1 c1 v1 hcc)
    exact bodyPost_ret (v := .tuple #[.int .i64 0, .int .i64 19]) (by simp [results, Tryz.results47, go_sem, *]) rfl ⟨rfl, (by repeat (first | (with_reducible exact Gr.refl _) | (with_reducible assumption) | (with_reducible refine Gr.alloc ?_ _) | (with_reducible refine Gr.drew ?_) | (with_reducible refine Gr.drewN ?_ _) | (with_reducible refine Gr.setCell ?_ (by simp <;> omega) _) | (with_reducible refine Gr.trans ?_ (by with_reducible assumption)) | exact Gr.refl _ | assumption | refine Gr.alloc ?_ _ | refine Gr.drew ?_ | refine Gr.drewN ?_ _ | refine Gr.setCell ?_ (by simp <;> omega) _ | refine Gr.trans ?_ (by assumption)))⟩

set_option maxRecDepth 100000 in
theorem NumberErr_any (n s : Int) (w : World) :
    Calls Tryz.prog 45 #[.agg #[.int .i64 n, .int .i64 s]] w fun e w' => e = .returned (.int .i64 (numErr n s)) ∧ Gr w w' := by
  have hr : numErr n s = 3 * countI (!(withinB n (-999999999999999) 999999999999999 && withinB s 0 15)) := by
    unfold numErr
    by_cases h : n < -999999999999999 ∨ 999999999999999 < n ∨ s < 0 ∨ 15 < s
    · rw [if_pos h, show (withinB n (-999999999999999) 999999999999999 && withinB s 0 15) = false by
        rw [Bool.eq_false_iff]; intro e; unfold withinB at e; simp at e; omega]; rfl
    · rw [if_neg h, show (withinB n (-999999999999999) 999999999999999 && withinB s 0 15) = true by
        unfold withinB; simp; omega]; rfl
  rw [hr]
  obtain ⟨b1, e1⟩ : ∃ b, withinB n (-999999999999999) 999999999999999 = b := ⟨_, rfl⟩
  obtain ⟨b2, e2⟩ : ∃ b, withinB s 0 15 = b := ⟨_, rfl⟩
  have w1 := Within_any n (-999999999999999) 999999999999999
  have w2 := Within_any s 0 15
  rw [e1] at w1
  rw [e2] at w2
  rw [e1, e2]
  clear e1 e2 hr
  cases b1 <;> cases b2
  all_goals
    go_enter Tryz.func45, Tryz.ntmps45
    go_wp2_with (first | (go_at_call 36; (with_reducible refine (w1 _).mono ?_); rintro e w1 ⟨rfl, rfl⟩) | (go_at_call 36; (with_reducible refine (w2 _).mono ?_); rintro e w1 ⟨rfl, rfl⟩) | (go_at_call 38; refine (Count_any _ _).mono ?_; rintro e w1 ⟨rfl, rfl, hc0, hc1⟩))
    go_ret
    exact ⟨rfl, (by repeat (first | (with_reducible exact Gr.refl _) | (with_reducible assumption) | (with_reducible refine Gr.alloc ?_ _) | (with_reducible refine Gr.drew ?_) | (with_reducible refine Gr.drewN ?_ _) | (with_reducible refine Gr.setCell ?_ (by simp <;> omega) _) | (with_reducible refine Gr.trans ?_ (by with_reducible assumption)) | exact Gr.refl _ | assumption | refine Gr.alloc ?_ _ | refine Gr.drew ?_ | refine Gr.drewN ?_ _ | refine Gr.setCell ?_ (by simp <;> omega) _ | refine Gr.trans ?_ (by assumption)))⟩
/-- The error of a type that must be numeric. -/
def nuErr (k l sc : Int) : Int := if typeErr k l sc ≠ 0 then typeErr k l sc else pick (!isNum k) 17
set_option maxRecDepth 100000 in
theorem numericErr_any (k l sc : Int) (w : World) :
    Calls Tryz.prog 46 #[.agg #[.int .i64 k, .int .i64 l, .int .i64 sc]] w fun e w' => e = .returned (.int .i64 (nuErr k l sc)) ∧ Gr w w' := by
  obtain ⟨E, hE⟩ : ∃ E, typeErr k l sc = E := ⟨_, rfl⟩
  have hT := TypeErr_any k l sc
  rw [hE] at hT
  unfold nuErr
  rw [hE]
  have hn : pick (!isNum k) 17 = 17 * countI (!withinB k 1 3) := by
    have e : withinB k 1 3 = isNum k := by unfold withinB isNum; rw [Bool.eq_iff_iff]; simp; omega
    rw [e]; unfold pick countI; cases isNum k <;> rfl
  rw [hn]
  obtain ⟨b, hb⟩ : ∃ b, withinB k 1 3 = b := ⟨_, rfl⟩
  have hI := IsNumeric_any k
  rw [hb] at hI ⊢
  clear hn hb hE
  by_cases h : E = 0
  · subst h
    rw [if_neg (by simp)]
    cases b
    all_goals
      go_enter Tryz.func46, Tryz.ntmps46
      go_wp2_with (first | (go_at_call 16; refine (hT _).mono ?_; rintro e w1 ⟨rfl, hb⟩; obtain ⟨hc, hf⟩ := hb.cells; have hz : w.heap.size < w1.heap.size := by have h := hb.size; (try simp at h); omega) | (go_at_call 37; refine (hI _).mono ?_; rintro e w1 ⟨rfl, rfl⟩) | (go_at_call 38; refine (Count_any _ _).mono ?_; rintro e w1 ⟨rfl, rfl, hc0, hc1⟩))
      go_ret
      exact ⟨rfl, (by repeat (first | (with_reducible exact Gr.refl _) | (with_reducible assumption) | (with_reducible refine Gr.alloc ?_ _) | (with_reducible refine Gr.drew ?_) | (with_reducible refine Gr.drewN ?_ _) | (with_reducible refine Gr.setCell ?_ (by simp <;> omega) _) | (with_reducible refine Gr.trans ?_ (by with_reducible assumption)) | exact Gr.refl _ | assumption | refine Gr.alloc ?_ _ | refine Gr.drew ?_ | refine Gr.drewN ?_ _ | refine Gr.setCell ?_ (by simp <;> omega) _ | refine Gr.trans ?_ (by assumption)))⟩
  · rw [if_pos h]
    have hb0 : (E != 0) = true := by simp [h]
    clear h
    go_enter Tryz.func46, Tryz.ntmps46
    go_wp2_with ((go_at_call 16; refine (hT _).mono ?_; rintro e w1 ⟨rfl, hb⟩; obtain ⟨hc, hf⟩ := hb.cells; have hz : w.heap.size < w1.heap.size := by have h := hb.size; (try simp at h); omega))
    go_ret
    exact ⟨rfl, (by repeat (first | (with_reducible exact Gr.refl _) | (with_reducible assumption) | (with_reducible refine Gr.alloc ?_ _) | (with_reducible refine Gr.drew ?_) | (with_reducible refine Gr.drewN ?_ _) | (with_reducible refine Gr.setCell ?_ (by simp <;> omega) _) | (with_reducible refine Gr.trans ?_ (by with_reducible assumption)) | exact Gr.refl _ | assumption | refine Gr.alloc ?_ _ | refine Gr.drew ?_ | refine Gr.drewN ?_ _ | refine Gr.setCell ?_ (by simp <;> omega) _ | refine Gr.trans ?_ (by assumption)))⟩
end Go.Proofs.YtnaflaokhldfnaaGreat
namespace Go.Proofs.YtnaflaokhldfnaaGreat
set_option linter.unusedSimpArgs false
set_option linter.unusedVariables false
open Go.RowKit

theorem cv_rq (n : Int) (s sc : Nat) (half : Bool) : rq (n.natAbs * 10 ^ sc) (10 ^ s) half = rq (n.natAbs * 10 ^ ((sc : Int) - s).toNat) (1 * 10 ^ ((s : Int) - sc).toNat) half := by
  rcases Nat.le_total s sc with h | h
  · have e1 : ((sc : Int) - s).toNat = sc - s := by omega
    have e2 : ((s : Int) - sc).toNat = 0 := by omega
    have e := rq_scale (n := n.natAbs * 10 ^ (sc - s)) (d := 1 * 10 ^ 0) (c := 10 ^ s) half (Nat.pow_pos (by omega))
    rw [e1, e2, ← e]
    congr 1
    · rw [Nat.mul_assoc, ← Nat.pow_add]; congr 2; omega
    · simp
  · have e1 : ((sc : Int) - s).toNat = 0 := by omega
    have e2 : ((s : Int) - sc).toNat = s - sc := by omega
    have e := rq_scale (n := n.natAbs * 10 ^ 0) (d := 1 * 10 ^ (s - sc)) (c := 10 ^ sc) half (Nat.pow_pos (by omega))
    rw [e1, e2, ← e]
    congr 1
    · simp
    · rw [Nat.one_mul, ← Nat.pow_add]; congr 1; omega
theorem cvZ_rq {n s sc : Int} (half : Bool) (hs : 0 ≤ s) (hsc : 0 ≤ sc) : rq ((absI n).toNat * 10 ^ sc.toNat) ((10 : Int) ^ s.toNat).toNat half = cvZ n s sc half := by
  have e1 : (absI n).toNat = n.natAbs := by unfold absI; split <;> omega
  have e2 : ((10 : Int) ^ s.toNat).toNat = 10 ^ s.toNat := by
    have : ((10 : Int) ^ s.toNat) = ((10 ^ s.toNat : Nat) : Int) := by push_cast; rfl
    rw [this, Int.toNat_natCast]
  have := cv_rq n s.toNat sc.toNat half
  rw [e1, e2, this]
  unfold cvZ
  rw [Int.toNat_of_nonneg hs, Int.toNat_of_nonneg hsc]

set_option maxHeartbeats 2000000 in
set_option maxRecDepth 100000 in
theorem refConverted_any (n s k l sc : Int) (half : Bool) (w : World) :
    Calls Tryz.prog 19 #[.agg #[.int .i64 n, .int .i64 s], .agg #[.int .i64 k, .int .i64 l, .int .i64 sc], .bool half] w fun e w' => e = .returned (.tuple #[.agg #[.int .i64 (cvN n s k l sc half), .string ⟨#[]⟩], .int .i64 (cvE n s k l sc half)]) ∧ Gr w w' := by
  have hN := NumberErr_any n s
  have hU := numericErr_any k l sc
  by_cases h1 : numErr n s = 0
  · rw [h1] at hN
    by_cases h2 : nuErr k l sc = 0
    · rw [h2] at hU
      have hok : cvErr n s k l sc = 0 := by
        unfold cvErr; simp only [first0, h1]
        unfold nuErr at h2
        by_cases h3 : typeErr k l sc = 0
        · rw [if_neg (by simp [h3])] at h2; simp [h3, h2]
        · rw [if_pos h3] at h2; exact absurd h2 h3
      have hb := cvErr_ok hok
      have hF := fun w => FractionOf_any n s.toNat s (by omega) (by omega) (by omega) (by omega) w
      have hZ := cvZ_rq (n := n) (s := s) (sc := sc) half (by omega) (by omega)
      have hn0 : cvN n s k l sc half = pN (decide (n < 0)) (cvZ n s sc half) l := by unfold cvN; rw [if_neg (by simp [hok])]
      have he0 : cvE n s k l sc half = pE (cvZ n s sc half) l := by unfold cvE; rw [if_neg (by simp [hok])]
      have hP : ∀ wz p m c q d (xs ys : List Int) (j : Nat), Sl wz p m c xs → Cn xs → vl xs = absI n → Sl wz q j d ys → Cn ys → vl ys = 10 ^ s.toNat →
          Calls Tryz.prog 47 #[.agg #[.bool (decide (n < 0)), .slice p m c, .slice q j d], .agg #[.int .i64 k, .int .i64 l, .int .i64 sc], .bool half] wz fun e w' => e = .returned (.tuple #[.int .i64 (cvN n s k l sc half), .int .i64 (cvE n s k l sc half)]) ∧ Gr wz w' := fun wz p m c q d xs ys j g1 g2 g3 g4 g5 g6 => by
        have ha : absI n < 10 ^ 18 := by unfold absI; split <;> omega
        have hm : m ≤ 18 := by rw [← g1.len]; exact (g2.len_le 18).2 (by rw [g3]; exact ha)
        have hs16 : (10 : Int) ^ s.toNat < 10 ^ 16 := Int.lt_of_le_of_lt (ten_mono (show s.toNat ≤ 15 by omega)) (by decide)
        have hj : j ≤ 16 := by rw [← g4.len]; exact (g5.len_le 16).2 (by rw [g6]; exact hs16)
        have := Put_any (decide (n < 0)) k l sc half (by omega) (by omega) (by omega) (by omega) g1 g4 g2 g5 (by rw [g6]; exact ten_pos _) (by omega) (by omega)
        rw [g3, g6, hZ, ← hn0, ← he0] at this
        exact this
      clear hZ hn0 he0 hok hb h1 h2
      generalize cvN n s k l sc half = N at *
      generalize cvE n s k l sc half = E at *
      go_enter Tryz.func19, Tryz.ntmps19
      go_wp2_with (first | (go_at_call 45; refine (hN _).mono ?_; rintro e w1 ⟨rfl, hb⟩; (obtain ⟨hc, hf⟩ := cellsM hb (w.heap.size + 3) (by first | exact hz | omega | (simp; done) | (simp; omega)); have hz : w.heap.size + 3 ≤ w1.heap.size := (by have h := Gr.size hb; (try simp at h); omega); have hz0 : w.heap.size < w1.heap.size := (by omega); have hz1 : w.heap.size + 1 < w1.heap.size := (by omega)); have hz2 : w.heap.size + 2 < w1.heap.size := (by omega)) | (go_at_call 46; refine (hU _).mono ?_; rintro e w2 ⟨rfl, hb⟩; (obtain ⟨hc, hf⟩ := cellsM hb (w.heap.size + 3) (by first | exact hz | omega | (simp; done) | (simp; omega)); have hz : w.heap.size + 3 ≤ w2.heap.size := (by have h := Gr.size hb; (try simp at h); omega); have hz0 : w.heap.size < w2.heap.size := (by omega); have hz1 : w.heap.size + 1 < w2.heap.size := (by omega)); have hz2 : w.heap.size + 2 < w2.heap.size := (by omega)))
      go_region_held3 (fun w' => w'.cell? ⟨w.heap.size, 0, none⟩ = some (.int .i64 n) ∧ w'.cell? ⟨w.heap.size, 1, none⟩ = some (.int .i64 s) ∧ w'.cell? ⟨w.heap.size + 1, 0, none⟩ = some (.int .i64 k) ∧ w'.cell? ⟨w.heap.size + 1, 1, none⟩ = some (.int .i64 l) ∧ w'.cell? ⟨w.heap.size + 1, 2, none⟩ = some (.int .i64 sc)) (first | (go_keep; done) | ((try go_split_ands); (repeat' apply And.intro) <;> ((try simp only [World.cell?_drew]); first | (with_reducible assumption) | (refine hb.keep ?_; (try simp only [World.cell?_drew]); first | (with_reducible assumption) | (simp [*, go_sem]; done)) | (simp [*, go_sem]; done)))) (first | (go_at_call 48; refine (hF _).mono ?_; rintro e w3 ⟨p, m, c, xs, q, j, d, ys, rfl, s1, c1, v1, s2, c2, v2, f1, f2, hb⟩; (obtain ⟨hc, hf⟩ := cellsM hb (w.heap.size + 3) (by first | exact hz | omega | (simp; done) | (simp; omega)); have hz : w.heap.size + 3 ≤ w3.heap.size := (by have h := Gr.size hb; (try simp at h); omega); have hz0 : w.heap.size < w3.heap.size := (by omega); have hz1 : w.heap.size + 1 < w3.heap.size := (by omega)); have hz2 : w.heap.size + 2 < w3.heap.size := (by omega); have HS := Lib.hid (And.intro s1 (And.intro c1 (And.intro v1 (And.intro s2 (And.intro c2 v2))))); clear s1 c1 v1 s2 c2 v2 f1 f2) | (go_at_call 47; refine (hP _ _ _ _ _ _ xs ys _ (HS.out.1.gr (by repeat (first | (with_reducible exact Gr.refl _) | (with_reducible assumption) | (with_reducible refine Gr.alloc ?_ _) | (with_reducible refine Gr.drew ?_) | (with_reducible refine Gr.drewN ?_ _) | (with_reducible refine Gr.setCell ?_ (by simp <;> omega) _) | (with_reducible refine Gr.trans ?_ (by with_reducible assumption)) | exact Gr.refl _ | assumption | refine Gr.alloc ?_ _ | refine Gr.drew ?_ | refine Gr.drewN ?_ _ | refine Gr.setCell ?_ (by simp <;> omega) _ | refine Gr.trans ?_ (by assumption)))) HS.out.2.1 HS.out.2.2.1 (HS.out.2.2.2.1.gr (by repeat (first | (with_reducible exact Gr.refl _) | (with_reducible assumption) | (with_reducible refine Gr.alloc ?_ _) | (with_reducible refine Gr.drew ?_) | (with_reducible refine Gr.drewN ?_ _) | (with_reducible refine Gr.setCell ?_ (by simp <;> omega) _) | (with_reducible refine Gr.trans ?_ (by with_reducible assumption)) | exact Gr.refl _ | assumption | refine Gr.alloc ?_ _ | refine Gr.drew ?_ | refine Gr.drewN ?_ _ | refine Gr.setCell ?_ (by simp <;> omega) _ | refine Gr.trans ?_ (by assumption)))) HS.out.2.2.2.2.1 HS.out.2.2.2.2.2).mono ?_; rintro e w4 ⟨rfl, hb⟩; (obtain ⟨hc, hf⟩ := cellsM hb (w.heap.size + 3) (by first | exact hz | omega | (simp; done) | (simp; omega)); have hz : w.heap.size + 3 ≤ w4.heap.size := (by have h := Gr.size hb; (try simp at h); omega); have hz0 : w.heap.size < w4.heap.size := (by omega); have hz1 : w.heap.size + 1 < w4.heap.size := (by omega)); have hz2 : w.heap.size + 2 < w4.heap.size := (by omega)))
      go_wp2
      refine bodyPost_ret (v := .tuple #[.agg #[.int .i64 N, .string ⟨#[]⟩], .int .i64 E]) (by simp [results, Tryz.results19, go_sem, *]) rfl ⟨rfl, (by repeat (first | (with_reducible exact Gr.refl _) | (with_reducible assumption) | (with_reducible refine Gr.alloc ?_ _) | (with_reducible refine Gr.drew ?_) | (with_reducible refine Gr.drewN ?_ _) | (with_reducible refine Gr.setCell ?_ (by simp <;> omega) _) | (with_reducible refine Gr.trans ?_ (by with_reducible assumption)) | exact Gr.refl _ | assumption | refine Gr.alloc ?_ _ | refine Gr.drew ?_ | refine Gr.drewN ?_ _ | refine Gr.setCell ?_ (by simp <;> omega) _ | refine Gr.trans ?_ (by assumption)))⟩
    · have hc : cvErr n s k l sc = nuErr k l sc := by
        unfold cvErr; simp only [first0, h1]
        unfold nuErr
        by_cases h3 : typeErr k l sc = 0
        · by_cases h4 : pick (!isNum k) 17 = 0 <;> simp [h3, h4]
        · simp [h3]
      have hn0 : cvN n s k l sc half = 0 := by unfold cvN; rw [if_pos (by rw [hc]; exact h2)]
      have he0 : cvE n s k l sc half = nuErr k l sc := by unfold cvE; rw [if_pos (by rw [hc]; exact h2), hc]
      rw [hn0, he0]
      clear hn0 he0 hc h1
      generalize nuErr k l sc = E at *
      have hb0 : (E != 0) = true := by simp [h2]
      clear h2
      go_enter Tryz.func19, Tryz.ntmps19
      go_wp2_with (first | (go_at_call 45; refine (hN _).mono ?_; rintro e w1 ⟨rfl, hb⟩; (obtain ⟨hc, hf⟩ := cellsM hb (w.heap.size + 3) (by first | exact hz | omega | (simp; done) | (simp; omega)); have hz : w.heap.size + 3 ≤ w1.heap.size := (by have h := Gr.size hb; (try simp at h); omega); have hz0 : w.heap.size < w1.heap.size := (by omega); have hz1 : w.heap.size + 1 < w1.heap.size := (by omega)); have hz2 : w.heap.size + 2 < w1.heap.size := (by omega)) | (go_at_call 46; refine (hU _).mono ?_; rintro e w2 ⟨rfl, hb⟩; (obtain ⟨hc, hf⟩ := cellsM hb (w.heap.size + 3) (by first | exact hz | omega | (simp; done) | (simp; omega)); have hz : w.heap.size + 3 ≤ w2.heap.size := (by have h := Gr.size hb; (try simp at h); omega); have hz0 : w.heap.size < w2.heap.size := (by omega); have hz1 : w.heap.size + 1 < w2.heap.size := (by omega)); have hz2 : w.heap.size + 2 < w2.heap.size := (by omega)))
      refine bodyPost_ret (v := .tuple #[.agg #[.int .i64 0, .string ⟨#[]⟩], .int .i64 E]) (by simp [results, Tryz.results19, go_sem, *]) rfl ⟨rfl, (by repeat (first | (with_reducible exact Gr.refl _) | (with_reducible assumption) | (with_reducible refine Gr.alloc ?_ _) | (with_reducible refine Gr.drew ?_) | (with_reducible refine Gr.drewN ?_ _) | (with_reducible refine Gr.setCell ?_ (by simp <;> omega) _) | (with_reducible refine Gr.trans ?_ (by with_reducible assumption)) | exact Gr.refl _ | assumption | refine Gr.alloc ?_ _ | refine Gr.drew ?_ | refine Gr.drewN ?_ _ | refine Gr.setCell ?_ (by simp <;> omega) _ | refine Gr.trans ?_ (by assumption)))⟩
  · have hc : cvErr n s k l sc = numErr n s := by unfold cvErr; simp only [first0]; rw [if_neg h1]
    have hn0 : cvN n s k l sc half = 0 := by unfold cvN; rw [if_pos (by rw [hc]; exact h1)]
    have he0 : cvE n s k l sc half = numErr n s := by unfold cvE; rw [if_pos (by rw [hc]; exact h1), hc]
    rw [hn0, he0]
    clear hn0 he0 hc
    generalize numErr n s = E at *
    have hb0 : (E != 0) = true := by simp [h1]
    clear h1
    go_enter Tryz.func19, Tryz.ntmps19
    go_wp2_with ((go_at_call 45; refine (hN _).mono ?_; rintro e w1 ⟨rfl, hb⟩; (obtain ⟨hc, hf⟩ := cellsM hb (w.heap.size + 3) (by first | exact hz | omega | (simp; done) | (simp; omega)); have hz : w.heap.size + 3 ≤ w1.heap.size := (by have h := Gr.size hb; (try simp at h); omega); have hz0 : w.heap.size < w1.heap.size := (by omega); have hz1 : w.heap.size + 1 < w1.heap.size := (by omega)); have hz2 : w.heap.size + 2 < w1.heap.size := (by omega)))
    refine bodyPost_ret (v := .tuple #[.agg #[.int .i64 0, .string ⟨#[]⟩], .int .i64 E]) (by simp [results, Tryz.results19, go_sem, *]) rfl ⟨rfl, (by repeat (first | (with_reducible exact Gr.refl _) | (with_reducible assumption) | (with_reducible refine Gr.alloc ?_ _) | (with_reducible refine Gr.drew ?_) | (with_reducible refine Gr.drewN ?_ _) | (with_reducible refine Gr.setCell ?_ (by simp <;> omega) _) | (with_reducible refine Gr.trans ?_ (by with_reducible assumption)) | exact Gr.refl _ | assumption | refine Gr.alloc ?_ _ | refine Gr.drew ?_ | refine Gr.drewN ?_ _ | refine Gr.setCell ?_ (by simp <;> omega) _ | refine Gr.trans ?_ (by assumption)))⟩
end Go.Proofs.YtnaflaokhldfnaaGreat
