/- Texts of the walks, merged. -/
import Derived.Test.YtnaflaokhldfnaaQ08
namespace Go.Proofs.Ytnaflaokhldfnaa
set_option linter.unusedSimpArgs false
set_option linter.unusedVariables false
open Go.RowKit

/-- What a rounded amount is put into a type as: N, the error. -/
def pN (b : Bool) (Z : Nat) (l : Int) : Int := if most l < Z then 0 else if b then -(Z : Int) else Z
def pE (Z : Nat) (l : Int) : Int := if most l < Z then 19 else 0
theorem most_bd (l : Int) (h : l ≤ 18) : 0 ≤ most l ∧ most l ≤ 999999999999999999 := by have := p10_bd l h; unfold most; omega
theorem cmp_pos {M N : Nat} : 0 < cmpI M N ↔ N < M := by unfold cmpI; repeat' split <;> omega
theorem cmp_nonneg {M N : Nat} : 0 ≤ cmpI M N ↔ N ≤ M := by unfold cmpI; repeat' split <;> omega
theorem wd_low {Z : Nat} (h : Z ≤ 1000000000000000000) : wd Z 0 = Z := (wd_of (N := Z) (a0 := Z) (a1 := 0) (a2 := 0) (by omega) (by omega) (by omega)).1
theorem pres_of (b : Bool) (Z : Nat) (l : Int) (hl : l ≤ 18) (M : Nat) (hM : (M : Int) = most l) : pres b (wd Z 0) (cmpI Z M) = .tuple #[.agg #[.int .i64 (pN b Z l), .string ⟨#[]⟩], .int .i64 (pE Z l)] := by
  have hb := most_bd l hl
  unfold pres pN pE
  by_cases h : M < Z
  · rw [if_pos (cmp_pos.2 h), if_pos (by omega), if_pos (by omega)]
  · have h2 : ¬ most l < (Z : Int) := by omega
    rw [if_neg (fun k => h (cmp_pos.1 k)), if_neg h2, if_neg h2, wd_low (by omega)]

theorem put_any (b half : Bool) (O U : Nat) (s k l sc : Int) (a c : Nat) (num den : Nat) (ea : max (sc - s) 0 = (a : Int)) (ec : max (s - sc) 0 = (c : Int)) (en : O * 10 ^ a = num) (ed : U * 10 ^ c = den)
    (hs : -50 ≤ s) (hs' : s ≤ 50) (hsc : 0 ≤ sc) (hsc' : sc ≤ 50) (hl : l ≤ 18) (hnum : Sm (num + 1)) (hd0 : 0 < den) (hden : Sm (den + den))
    (hD : ∀ w, Calls Try.prog 60 #[(.agg #[.int .u64 ((wd (num) 0 : Nat) : Int), .int .u64 ((wd (num) 1 : Nat) : Int), .int .u64 ((wd (num) 2 : Nat) : Int)]), (.agg #[.int .u64 ((wd (den) 0 : Nat) : Int), .int .u64 ((wd (den) 1 : Nat) : Int), .int .u64 ((wd (den) 2 : Nat) : Int)])] w fun e w' => e = .returned (.tuple #[(.agg #[.int .u64 ((wd ((num / den)) 0 : Nat) : Int), .int .u64 ((wd ((num / den)) 1 : Nat) : Int), .int .u64 ((wd ((num / den)) 2 : Nat) : Int)]), (.agg #[.int .u64 ((wd ((num % den)) 0 : Nat) : Int), .int .u64 ((wd ((num % den)) 1 : Nat) : Int), .int .u64 ((wd ((num % den)) 2 : Nat) : Int)])]) ∧ Gr w w') (w : World) :
    Calls Try.prog 26 #[(.agg #[.bool b, .int .u64 ((wd (O) 0 : Nat) : Int), .int .u64 ((wd (O) 1 : Nat) : Int), .int .u64 ((wd (O) 2 : Nat) : Int), .int .u64 ((wd (U) 0 : Nat) : Int), .int .u64 ((wd (U) 1 : Nat) : Int), .int .u64 ((wd (U) 2 : Nat) : Int), .int .i64 (s)]), .agg #[.int .i64 k, .int .i64 l, .int .i64 sc], .bool half] w fun e w' => e = .returned (.tuple #[.agg #[.int .i64 (pN b (rq num den half) l), .string ⟨#[]⟩], .int .i64 (pE (rq num den half) l)]) ∧ Gr w w' := by
  have hm := most_bd l hl
  obtain ⟨M, hM⟩ := Int.eq_ofNat_of_zero_le hm.1
  have hMS : Sm M := by unfold Sm; omega
  have hlt := Nat.mod_lt num hd0
  have hqle := Nat.div_le_self num den
  have hnum0 : Sm num := sm_le hnum (by omega)
  have hden0 : Sm den := sm_le hden (by omega)
  have hq1 : Sm (num / den + 1) := sm_le hnum (by omega)
  have hq0 : Sm (num / den) := sm_le hnum (by omega)
  have hrr : Sm (num % den + num % den) := sm_le hden (by omega)
  have hc := put_core b half O U s k l sc num den a c _ _ _ _ _ _ (wd (num % den + num % den) 0) (wd (num % den + num % den) 1) (wd (num % den + num % den) 2) (wd (num / den + 1) 0) (wd (num / den + 1) 1) (wd (num / den + 1) 2) (wd 1 0) (wd 1 1) (wd 1 2) (wd M 0) (wd M 1) (wd M 2)
    (cmpI (num % den + num % den : Nat) den) (cmpI (num / den : Nat) M) (cmpI (num / den + 1 : Nat) M)
    ea ec (by omega) (by omega) hsc (by omega) hl (by rw [← en]; exact timesPower_any O a (by rw [en]; exact hnum0) (by omega)) (by rw [← ed]; exact timesPower_any U c (by rw [ed]; exact hden0) (by omega)) hD
    (plus_any _ _ hrr) (compare_any _ _ hrr hden0) (amountOf_any 1 (by omega) (by omega)) (fun _ _ => plus_any (num / den) 1 hq1) (by rw [hM]; exact amountOf_any (M : Int) (by omega) (by omega)) (compare_any _ _ hq0 hMS) (fun _ _ => compare_any _ _ hq1 hMS)
    (fun h => by
      have : num / den ≤ M := by rcases Nat.lt_or_ge M (num / den) with k | k; exact absurd (cmp_pos.2 k) (by omega); exact k
      rw [wd_low (by omega)]; omega)
    (fun h => by
      have : num / den + 1 ≤ M := by rcases Nat.lt_or_ge M (num / den + 1) with k | k; exact absurd (cmp_pos.2 k) (by omega); exact k
      rw [wd_low (by omega)]; omega) w
  refine hc.mono fun e w' ⟨h1, h2⟩ => ⟨?_, h2⟩
  rw [h1]
  have iff : (half = true ∧ 0 ≤ cmpI ((num % den + num % den : Nat) : Int) den) ↔ (half = true ∧ den ≤ 2 * (num % den)) := by rw [cmp_nonneg]; constructor <;> (rintro ⟨x, y⟩; exact ⟨x, by omega⟩)
  by_cases hh : half = true ∧ den ≤ 2 * (num % den)
  · rw [if_pos (iff.2 hh), if_pos (iff.2 hh), show rq num den half = num / den + 1 by unfold rq; rw [if_pos hh], ← pres_of b _ l hl M (by omega)]
  · rw [if_neg (fun k => hh (iff.1 k)), if_neg (fun k => hh (iff.1 k)), show rq num den half = num / den by unfold rq; rw [if_neg hh]; rfl, ← pres_of b _ l hl M (by omega)]
end Go.Proofs.Ytnaflaokhldfnaa
namespace Go.Proofs.Ytnaflaokhldfnaa
set_option linter.unusedSimpArgs false
set_option linter.unusedVariables false
open Go.RowKit

/-- The error of a number. -/
def numErr (n s : Int) : Int := if n < -999999999999999 ∨ 999999999999999 < n ∨ s < 0 ∨ 15 < s then 3 else 0
theorem CheckNumber_any (n s : Int) (w : World) :
    Calls Try.prog 21 #[.agg #[.int .i64 n, .int .i64 s]] w fun e w' => e = .returned (.int .i64 (numErr n s)) ∧ Gr w w' := by
  by_cases h1 : n < -999999999999999
  · go_enter Try.func21, Try.ntmps21
    go_wp2
    go_ret
    exact ⟨ret_int (by simp [numErr, h1]), (by repeat (first | (with_reducible exact Gr.refl _) | (with_reducible assumption) | (with_reducible refine Gr.alloc ?_ _) | (with_reducible refine Gr.drew ?_) | (with_reducible refine Gr.drewN ?_ _) | (with_reducible refine Gr.setCell ?_ (by simp <;> omega) _) | (with_reducible refine Gr.trans ?_ (by with_reducible assumption)) | exact Gr.refl _ | assumption | refine Gr.alloc ?_ _ | refine Gr.drew ?_ | refine Gr.drewN ?_ _ | refine Gr.setCell ?_ (by simp <;> omega) _ | refine Gr.trans ?_ (by assumption)))⟩
  · have b1 : decide (n < -999999999999999) = false := by simpa using h1
    by_cases h2 : 999999999999999 < n
    · go_enter Try.func21, Try.ntmps21
      go_wp2
      go_ret
      exact ⟨ret_int (by simp [numErr, h2]), (by repeat (first | (with_reducible exact Gr.refl _) | (with_reducible assumption) | (with_reducible refine Gr.alloc ?_ _) | (with_reducible refine Gr.drew ?_) | (with_reducible refine Gr.drewN ?_ _) | (with_reducible refine Gr.setCell ?_ (by simp <;> omega) _) | (with_reducible refine Gr.trans ?_ (by with_reducible assumption)) | exact Gr.refl _ | assumption | refine Gr.alloc ?_ _ | refine Gr.drew ?_ | refine Gr.drewN ?_ _ | refine Gr.setCell ?_ (by simp <;> omega) _ | refine Gr.trans ?_ (by assumption)))⟩
    · have b2 : decide (999999999999999 < n) = false := by simpa using h2
      by_cases h3 : s < 0
      · go_enter Try.func21, Try.ntmps21
        go_wp2
        go_ret
        exact ⟨ret_int (by simp [numErr, h3]), (by repeat (first | (with_reducible exact Gr.refl _) | (with_reducible assumption) | (with_reducible refine Gr.alloc ?_ _) | (with_reducible refine Gr.drew ?_) | (with_reducible refine Gr.drewN ?_ _) | (with_reducible refine Gr.setCell ?_ (by simp <;> omega) _) | (with_reducible refine Gr.trans ?_ (by with_reducible assumption)) | exact Gr.refl _ | assumption | refine Gr.alloc ?_ _ | refine Gr.drew ?_ | refine Gr.drewN ?_ _ | refine Gr.setCell ?_ (by simp <;> omega) _ | refine Gr.trans ?_ (by assumption)))⟩
      · have b3 : decide (s < 0) = false := by simpa using h3
        go_enter Try.func21, Try.ntmps21
        go_wp2
        all_goals (go_ret; exact ⟨ret_int (by grind [numErr]), (by repeat (first | (with_reducible exact Gr.refl _) | (with_reducible assumption) | (with_reducible refine Gr.alloc ?_ _) | (with_reducible refine Gr.drew ?_) | (with_reducible refine Gr.drewN ?_ _) | (with_reducible refine Gr.setCell ?_ (by simp <;> omega) _) | (with_reducible refine Gr.trans ?_ (by with_reducible assumption)) | exact Gr.refl _ | assumption | refine Gr.alloc ?_ _ | refine Gr.drew ?_ | refine Gr.drewN ?_ _ | refine Gr.setCell ?_ (by simp <;> omega) _ | refine Gr.trans ?_ (by assumption)))⟩)

set_option maxHeartbeats 1000000 in
theorem checkNumeric_one (k l s : Int) (bl cap : Nat) (w : World) (c0 : w.cell? ⟨bl, 0, none⟩ = some (.int .i64 k)) (c1 : w.cell? ⟨bl, 1, none⟩ = some (.int .i64 l)) (c2 : w.cell? ⟨bl, 2, none⟩ = some (.int .i64 s)) :
    Calls Try.prog 23 #[.slice (some ⟨bl, 0, none⟩) 1 cap] w fun e w' => e = .returned (.int .i64 (pick (!isNum k) 17)) ∧ Gr w w' := by
  have hbl : bl < w.heap.size := World.block_lt_of_cell? w _ c0
  by_cases h : isNum k = true
  · go_enter Try.func23, Try.ntmps23
    go_wp2
    refine wp_loop_rounds 2 ?_
    rw [rounds_succ]
    go_wp2_with (go_at_call 53; refine (isNumeric_any _ _ _ _).mono ?_; rintro e w1 ⟨rfl, hb⟩; obtain ⟨hc, hf⟩ := hb.cells; have hz : w.heap.size < w1.heap.size := by have h := hb.size; (try simp at h); omega)
    rw [rounds_succ]
    go_wp2
    go_ret
    exact ⟨ret_int (by simp [pick, h]), (by repeat (first | (with_reducible exact Gr.refl _) | (with_reducible assumption) | (with_reducible refine Gr.alloc ?_ _) | (with_reducible refine Gr.drew ?_) | (with_reducible refine Gr.drewN ?_ _) | (with_reducible refine Gr.setCell ?_ (by simp <;> omega) _) | (with_reducible refine Gr.trans ?_ (by with_reducible assumption)) | exact Gr.refl _ | assumption | refine Gr.alloc ?_ _ | refine Gr.drew ?_ | refine Gr.drewN ?_ _ | refine Gr.setCell ?_ (by simp <;> omega) _ | refine Gr.trans ?_ (by assumption)))⟩
  · have h' : isNum k = false := by simpa using h
    go_enter Try.func23, Try.ntmps23
    go_wp2
    refine wp_loop_rounds 2 ?_
    rw [rounds_succ]
    go_wp2_with (go_at_call 53; refine (isNumeric_any _ _ _ _).mono ?_; rintro e w1 ⟨rfl, hb⟩; obtain ⟨hc, hf⟩ := hb.cells; have hz : w.heap.size < w1.heap.size := by have h := hb.size; (try simp at h); omega)
    go_ret
    exact ⟨ret_int (by simp [pick, h']), (by repeat (first | (with_reducible exact Gr.refl _) | (with_reducible assumption) | (with_reducible refine Gr.alloc ?_ _) | (with_reducible refine Gr.drew ?_) | (with_reducible refine Gr.drewN ?_ _) | (with_reducible refine Gr.setCell ?_ (by simp <;> omega) _) | (with_reducible refine Gr.trans ?_ (by with_reducible assumption)) | exact Gr.refl _ | assumption | refine Gr.alloc ?_ _ | refine Gr.drew ?_ | refine Gr.drewN ?_ _ | refine Gr.setCell ?_ (by simp <;> omega) _ | refine Gr.trans ?_ (by assumption)))⟩
end Go.Proofs.Ytnaflaokhldfnaa
namespace Go.Proofs.Ytnaflaokhldfnaa
set_option linter.unusedSimpArgs false
set_option linter.unusedVariables false
open Go.RowKit

def cvErr (n s k l sc : Int) : Int := first0 [numErr n s, typeErr k l sc, pick (!isNum k) 17]
/-- A number's amount in a type's last digits, rounded. -/
def cvZ (n s sc : Int) (half : Bool) : Nat := rq (n.natAbs * 10 ^ (sc - s).toNat) (1 * 10 ^ (s - sc).toNat) half
def cvN (n s k l sc : Int) (half : Bool) : Int := if cvErr n s k l sc ≠ 0 then 0 else pN (decide (n < 0)) (cvZ n s sc half) l
def cvE (n s k l sc : Int) (half : Bool) : Int := if cvErr n s k l sc ≠ 0 then cvErr n s k l sc else pE (cvZ n s sc half) l

theorem cvErr_ok {n s k l sc : Int} (h : cvErr n s k l sc = 0) : -999999999999999 ≤ n ∧ n ≤ 999999999999999 ∧ 0 ≤ s ∧ s ≤ 15 ∧ 1 ≤ l ∧ l ≤ 15 ∧ 0 ≤ sc ∧ sc ≤ l ∧ 1 ≤ k ∧ k ≤ 3 := by
  unfold cvErr at h
  simp only [first0] at h
  have h1 : numErr n s = 0 := by by_cases e : numErr n s = 0; exact e; simp [e] at h
  have h2 : typeErr k l sc = 0 := by by_cases e : typeErr k l sc = 0; exact e; simp [e, h1] at h
  have h3 : isNum k = true := by by_cases e : isNum k = true; exact e; simp [e, h1, h2, pick] at h
  have hk : 1 ≤ k ∧ k ≤ 3 := by simp [isNum] at h3; omega
  have hr : rightLen k l = true := by by_cases e : rightLen k l = true; exact e; exfalso; simp only [typeErr, e] at h2; split at h2 <;> simp at h2
  have hl : 1 ≤ l ∧ l ≤ 15 := by unfold rightLen at hr; by_cases k3 : k = 3 <;> simp [k3, show k ≠ 0 by omega, show k ≠ 4 by omega] at hr <;> omega
  have hs : 0 ≤ sc ∧ sc ≤ l := by unfold typeErr at h2; rw [if_neg (by omega)] at h2; simp only [hr] at h2; unfold mostScale at h2; rw [if_pos h3] at h2; simp at h2; omega
  unfold numErr at h1
  split at h1 <;> omega

theorem pow10_le (n : Nat) (h : n ≤ 15) : 1 ≤ 10 ^ n ∧ 10 ^ n ≤ 1000000000000000 := by
  have h1 : 10 ^ n ≤ 10 ^ 15 := Nat.pow_le_pow_right (by omega) h
  exact ⟨Nat.pow_pos (by omega), h1⟩

theorem put_cv (n s k l sc : Int) (half : Bool) (h : cvErr n s k l sc = 0) (w : World) :
    Calls Try.prog 26 #[(.agg #[.bool (decide (n < 0)), .int .u64 ((wd (n.natAbs) 0 : Nat) : Int), .int .u64 ((wd (n.natAbs) 1 : Nat) : Int), .int .u64 ((wd (n.natAbs) 2 : Nat) : Int), .int .u64 ((wd (1) 0 : Nat) : Int), .int .u64 ((wd (1) 1 : Nat) : Int), .int .u64 ((wd (1) 2 : Nat) : Int), .int .i64 (s)]), .agg #[.int .i64 k, .int .i64 l, .int .i64 sc], .bool half] w fun e w' => e = .returned (.tuple #[.agg #[.int .i64 (pN (decide (n < 0)) (cvZ n s sc half) l), .string ⟨#[]⟩], .int .i64 (pE (cvZ n s sc half) l)]) ∧ Gr w w' := by
  obtain ⟨n0, n1, s0, s1, l0, l1, c0, c1, k0, k1⟩ := cvErr_ok h
  have pa := pow10_le (sc - s).toNat (by omega)
  have pc := pow10_le (s - sc).toNat (by omega)
  have hnum : n.natAbs * 10 ^ (sc - s).toNat ≤ 999999999999999 * 1000000000000000 := Nat.mul_le_mul (by omega) pa.2
  have hden : 1 * 10 ^ (s - sc).toNat ≤ 1000000000000000 := by omega
  have hd0 : 0 < 1 * 10 ^ (s - sc).toNat := by omega
  exact put_any _ half n.natAbs 1 s k l sc (sc - s).toNat (s - sc).toNat _ _ (by omega) (by omega) rfl rfl (by omega) (by omega) (by omega) (by omega) (by omega) (by unfold Sm; omega) hd0 (by unfold Sm; omega)
    (divided_small _ _ (by unfold Sm; omega) hd0 (by omega)) w

set_option maxHeartbeats 2000000 in
set_option maxRecDepth 100000 in
theorem Converted_any (n s k l sc : Int) (half : Bool) (w : World) :
    Calls Try.prog 13 #[.agg #[.int .i64 n, .int .i64 s], .agg #[.int .i64 k, .int .i64 l, .int .i64 sc], .bool half] w fun e w' => e = .returned (.tuple #[.agg #[.int .i64 (cvN n s k l sc half), .string ⟨#[]⟩], .int .i64 (cvE n s k l sc half)]) ∧ Gr w w' := by
  have hfe : ∀ b cap W, W.cell? ⟨b, 0, none⟩ = some (.int .i64 (numErr n s)) → W.cell? ⟨b, 1, none⟩ = some (.int .i64 (typeErr k l sc)) → W.cell? ⟨b, 2, none⟩ = some (.int .i64 (pick (!isNum k) 17)) → Calls Try.prog 19 #[.slice (some ⟨b, 0, none⟩) 3 cap] W fun e w' => e = .returned (.int .i64 (cvErr n s k l sc)) ∧ W = w' := fun b cap W h0 h1 h2 => firstError3 _ _ _ b cap W h0 h1 h2
  by_cases he : cvErr n s k l sc = 0
  · have hp := put_cv n s k l sc half he
    have hb0 : (cvErr n s k l sc != 0) = false := by simp [he]
    have hx := exactOf_any n s (by have := cvErr_ok he; omega) (by have := cvErr_ok he; omega)
    have HE := Lib.hid he
    obtain ⟨N, hN⟩ : ∃ N, pN (decide (n < 0)) (cvZ n s sc half) l = N := ⟨_, rfl⟩
    obtain ⟨E, hE⟩ : ∃ E, pE (cvZ n s sc half) l = E := ⟨_, rfl⟩
    rw [hN, hE] at hp
    have HN := Lib.hid hN
    have HEE := Lib.hid hE
    clear he hN hE
    go_enter Try.func13, Try.ntmps13
    go_wp2
    have HV := Lib.hid (Bx.new ((w.alloc (.cells #[.int .i64 n, .int .i64 s] 27)).alloc (.cells #[.int .i64 k, .int .i64 l, .int .i64 sc] 23)) 32 #[.int .i64 0, .string ⟨#[]⟩])
    simp only [World.size_alloc] at HV
    go_region_held3 (fun w' => w'.cell? ⟨w.heap.size, 0, none⟩ = some (.int .i64 n) ∧ w'.cell? ⟨w.heap.size, 1, none⟩ = some (.int .i64 s) ∧ w'.cell? ⟨w.heap.size + 1, 0, none⟩ = some (.int .i64 k) ∧ w'.cell? ⟨w.heap.size + 1, 1, none⟩ = some (.int .i64 l) ∧ w'.cell? ⟨w.heap.size + 1, 2, none⟩ = some (.int .i64 sc)) (first | (go_keep; done) | ((try go_split_ands); (repeat' apply And.intro) <;> ((try simp only [World.cell?_drew]); first | (with_reducible assumption) | (refine hb.keep ?_; (try simp only [World.cell?_drew]); first | (with_reducible assumption) | (simp [*, go_sem]; done)) | (simp [*, go_sem]; done)))) (first | (go_at_call 21; with_reducible refine (CheckNumber_any _ _ _).mono ?_; rintro e w1 ⟨rfl, hb⟩; obtain ⟨hc, hf⟩ := cellsN hb (w.heap.size + 3) (by first | exact hz | omega | (simp; done) | (simp; omega)); have hz : w.heap.size + 3 ≤ w1.heap.size := (by have h := hb.size; (try simp at h); omega); have hz0 : w.heap.size < w1.heap.size := (by omega); have hz1 : w.heap.size + 1 < w1.heap.size := (by omega); have hbA := hb) | (go_at_call 22; with_reducible refine (CheckType_any _ _ _ _).mono ?_; rintro e w1 ⟨rfl, hb⟩; obtain ⟨hc, hf⟩ := cellsN hb (w.heap.size + 3) (by first | exact hz | omega | (simp; done) | (simp; omega)); have hz : w.heap.size + 3 ≤ w1.heap.size := (by have h := hb.size; (try simp at h); omega); have hz0 : w.heap.size < w1.heap.size := (by omega); have hz1 : w.heap.size + 1 < w1.heap.size := (by omega); have hbB := hb) | (go_at_call 23; go_loud (refine (checkNumeric_one k l sc _ _ _ ?_ ?_ ?_).mono ?_; (focus ((try with_reducible refine hbB.keep ?_); (try with_reducible refine hbA.keep ?_); simp [go_sem])); (focus ((try with_reducible refine hbB.keep ?_); (try with_reducible refine hbA.keep ?_); simp [go_sem])); (focus ((try with_reducible refine hbB.keep ?_); (try with_reducible refine hbA.keep ?_); simp [go_sem])); rintro e w1 ⟨rfl, hb⟩; have hz : w.heap.size + 3 ≤ w1.heap.size := (by have h := hb.size; (try simp at h); omega); have hz0 : w.heap.size < w1.heap.size := (by omega); have hz1 : w.heap.size + 1 < w1.heap.size := (by omega))) | (go_at_call 19; refine (hfe _ _ _ ?_ ?_ ?_).mono ?_; (focus ((try with_reducible refine hbB.keep ?_); (try with_reducible refine hbA.keep ?_); simp [go_sem])); (focus ((try with_reducible refine hbB.keep ?_); (try with_reducible refine hbA.keep ?_); simp [go_sem])); (focus ((try with_reducible refine hbB.keep ?_); (try with_reducible refine hbA.keep ?_); simp [go_sem])); rintro e w1 ⟨rfl, rfl⟩))
    all_goals
      rename_i hH
      have HVW := Lib.hid (HV.out.gr ((by (repeat (first | with_reducible refine Gr.setCell ?_ (by simp <;> omega) _ | with_reducible refine Gr.drew ?_ | with_reducible refine Gr.drewN ?_ _ | with_reducible refine Gr.alloc ?_ _)); first | (with_reducible exact Gr.refl _) | (with_reducible assumption) | exact (by repeat (first | (with_reducible exact Gr.refl _) | (with_reducible assumption) | (with_reducible refine Gr.alloc ?_ _) | (with_reducible refine Gr.drew ?_) | (with_reducible refine Gr.drewN ?_ _) | (with_reducible refine Gr.setCell ?_ (by simp <;> omega) _) | (with_reducible refine Gr.trans ?_ (by with_reducible assumption)) | exact Gr.refl _ | assumption | refine Gr.alloc ?_ _ | refine Gr.drew ?_ | refine Gr.drewN ?_ _ | refine Gr.setCell ?_ (by simp <;> omega) _ | refine Gr.trans ?_ (by assumption)))) : Gr _ (w1.alloc (.cells #[.int .i64 (numErr n s), .int .i64 (typeErr k l sc), .int .i64 (pick (!isNum k) 17)] 33))))
      have HGW := Lib.hid ((by (repeat (first | with_reducible refine Gr.setCell ?_ (by simp <;> omega) _ | with_reducible refine Gr.drew ?_ | with_reducible refine Gr.drewN ?_ _ | with_reducible refine Gr.alloc ?_ _)); first | (with_reducible exact Gr.refl _) | (with_reducible assumption) | exact (by repeat (first | (with_reducible exact Gr.refl _) | (with_reducible assumption) | (with_reducible refine Gr.alloc ?_ _) | (with_reducible refine Gr.drew ?_) | (with_reducible refine Gr.drewN ?_ _) | (with_reducible refine Gr.setCell ?_ (by simp <;> omega) _) | (with_reducible refine Gr.trans ?_ (by with_reducible assumption)) | exact Gr.refl _ | assumption | refine Gr.alloc ?_ _ | refine Gr.drew ?_ | refine Gr.drewN ?_ _ | refine Gr.setCell ?_ (by simp <;> omega) _ | refine Gr.trans ?_ (by assumption)))) : Gr w (w1.alloc (.cells #[.int .i64 (numErr n s), .int .i64 (typeErr k l sc), .int .i64 (pick (!isNum k) 17)] 33)))
      obtain ⟨c0, c1, c2, c3, c4⟩ := hH
      clear hbA hbB HV
      generalize w1.alloc (.cells #[.int .i64 (numErr n s), .int .i64 (typeErr k l sc), .int .i64 (pick (!isNum k) 17)] 33) = W5 at *
      have hzz := HVW.out.lt
      have hz : w.heap.size + 3 ≤ W5.heap.size := by omega
      have v0 := HVW.out.cell 0 rfl
      have v1 := HVW.out.cell 1 rfl
      have f0 := HVW.out.frozen 0
      have f1 := HVW.out.frozen 1
      clear hzz
      go_wp2
      go_region_held3 (fun w' => w'.cell? ⟨w.heap.size, 0, none⟩ = some (.int .i64 n) ∧ w'.cell? ⟨w.heap.size, 1, none⟩ = some (.int .i64 s) ∧ w'.cell? ⟨w.heap.size + 1, 0, none⟩ = some (.int .i64 k) ∧ w'.cell? ⟨w.heap.size + 1, 1, none⟩ = some (.int .i64 l) ∧ w'.cell? ⟨w.heap.size + 1, 2, none⟩ = some (.int .i64 sc)) (first | (go_keep; done) | ((try go_split_ands); (repeat' apply And.intro) <;> ((try simp only [World.cell?_drew]); first | (with_reducible assumption) | (refine hb.keep ?_; (try simp only [World.cell?_drew]); first | (with_reducible assumption) | (simp [*, go_sem]; done)) | (simp [*, go_sem]; done)))) (first | (go_at_call 38; with_reducible refine (hx _).mono ?_; rintro e w1 ⟨rfl, hb⟩; obtain ⟨hc, hf⟩ := cellsN hb (w.heap.size + 3) (by first | exact hz | omega | (simp; done) | (simp; omega)); have hz : w.heap.size + 3 ≤ w1.heap.size := (by have h := hb.size; (try simp at h); omega); have hz0 : w.heap.size < w1.heap.size := (by omega); have hz1 : w.heap.size + 1 < w1.heap.size := (by omega)) | (go_at_call 26; with_reducible refine (hp _).mono ?_; rintro e w1 ⟨rfl, hb⟩; obtain ⟨hc, hf⟩ := cellsN hb (w.heap.size + 3) (by first | exact hz | omega | (simp; done) | (simp; omega)); have hz : w.heap.size + 3 ≤ w1.heap.size := (by have h := hb.size; (try simp at h); omega); have hz0 : w.heap.size < w1.heap.size := (by omega); have hz1 : w.heap.size + 1 < w1.heap.size := (by omega)))
      all_goals
        go_wp2
        refine bodyPost_ret (v := .tuple #[.agg #[.int .i64 N, .string ⟨#[]⟩], .int .i64 E]) (by simp [results, Try.results13, go_sem, *]) rfl ⟨by simp [cvN, cvE, HE.out, HN.out, HEE.out], ?_⟩
        have HG := HGW.out
        exact (by (repeat (first | with_reducible refine Gr.setCell ?_ (by simp <;> omega) _ | with_reducible refine Gr.drew ?_ | with_reducible refine Gr.drewN ?_ _ | with_reducible refine Gr.alloc ?_ _)); first | (with_reducible exact Gr.refl _) | (with_reducible assumption) | exact (by repeat (first | (with_reducible exact Gr.refl _) | (with_reducible assumption) | (with_reducible refine Gr.alloc ?_ _) | (with_reducible refine Gr.drew ?_) | (with_reducible refine Gr.drewN ?_ _) | (with_reducible refine Gr.setCell ?_ (by simp <;> omega) _) | (with_reducible refine Gr.trans ?_ (by with_reducible assumption)) | exact Gr.refl _ | assumption | refine Gr.alloc ?_ _ | refine Gr.drew ?_ | refine Gr.drewN ?_ _ | refine Gr.setCell ?_ (by simp <;> omega) _ | refine Gr.trans ?_ (by assumption))))
  · have hb0 : (cvErr n s k l sc != 0) = true := by simp [he]
    have HE := Lib.hid he
    clear he
    go_enter Try.func13, Try.ntmps13
    go_wp2
    have HV := Lib.hid (Bx.new ((w.alloc (.cells #[.int .i64 n, .int .i64 s] 27)).alloc (.cells #[.int .i64 k, .int .i64 l, .int .i64 sc] 23)) 32 #[.int .i64 0, .string ⟨#[]⟩])
    simp only [World.size_alloc] at HV
    go_region_held3 (fun w' => w'.cell? ⟨w.heap.size, 0, none⟩ = some (.int .i64 n) ∧ w'.cell? ⟨w.heap.size, 1, none⟩ = some (.int .i64 s) ∧ w'.cell? ⟨w.heap.size + 1, 0, none⟩ = some (.int .i64 k) ∧ w'.cell? ⟨w.heap.size + 1, 1, none⟩ = some (.int .i64 l) ∧ w'.cell? ⟨w.heap.size + 1, 2, none⟩ = some (.int .i64 sc)) (first | (go_keep; done) | ((try go_split_ands); (repeat' apply And.intro) <;> ((try simp only [World.cell?_drew]); first | (with_reducible assumption) | (refine hb.keep ?_; (try simp only [World.cell?_drew]); first | (with_reducible assumption) | (simp [*, go_sem]; done)) | (simp [*, go_sem]; done)))) (first | (go_at_call 21; with_reducible refine (CheckNumber_any _ _ _).mono ?_; rintro e w1 ⟨rfl, hb⟩; obtain ⟨hc, hf⟩ := cellsN hb (w.heap.size + 3) (by first | exact hz | omega | (simp; done) | (simp; omega)); have hz : w.heap.size + 3 ≤ w1.heap.size := (by have h := hb.size; (try simp at h); omega); have hz0 : w.heap.size < w1.heap.size := (by omega); have hz1 : w.heap.size + 1 < w1.heap.size := (by omega); have hbA := hb) | (go_at_call 22; with_reducible refine (CheckType_any _ _ _ _).mono ?_; rintro e w1 ⟨rfl, hb⟩; obtain ⟨hc, hf⟩ := cellsN hb (w.heap.size + 3) (by first | exact hz | omega | (simp; done) | (simp; omega)); have hz : w.heap.size + 3 ≤ w1.heap.size := (by have h := hb.size; (try simp at h); omega); have hz0 : w.heap.size < w1.heap.size := (by omega); have hz1 : w.heap.size + 1 < w1.heap.size := (by omega); have hbB := hb) | (go_at_call 23; go_loud (refine (checkNumeric_one k l sc _ _ _ ?_ ?_ ?_).mono ?_; (focus ((try with_reducible refine hbB.keep ?_); (try with_reducible refine hbA.keep ?_); simp [go_sem])); (focus ((try with_reducible refine hbB.keep ?_); (try with_reducible refine hbA.keep ?_); simp [go_sem])); (focus ((try with_reducible refine hbB.keep ?_); (try with_reducible refine hbA.keep ?_); simp [go_sem])); rintro e w1 ⟨rfl, hb⟩; have hz : w.heap.size + 3 ≤ w1.heap.size := (by have h := hb.size; (try simp at h); omega); have hz0 : w.heap.size < w1.heap.size := (by omega); have hz1 : w.heap.size + 1 < w1.heap.size := (by omega))) | (go_at_call 19; refine (hfe _ _ _ ?_ ?_ ?_).mono ?_; (focus ((try with_reducible refine hbB.keep ?_); (try with_reducible refine hbA.keep ?_); simp [go_sem])); (focus ((try with_reducible refine hbB.keep ?_); (try with_reducible refine hbA.keep ?_); simp [go_sem])); (focus ((try with_reducible refine hbB.keep ?_); (try with_reducible refine hbA.keep ?_); simp [go_sem])); rintro e w1 ⟨rfl, rfl⟩))
    all_goals
      rename_i hH
      have HVW := Lib.hid (HV.out.gr ((by (repeat (first | with_reducible refine Gr.setCell ?_ (by simp <;> omega) _ | with_reducible refine Gr.drew ?_ | with_reducible refine Gr.drewN ?_ _ | with_reducible refine Gr.alloc ?_ _)); first | (with_reducible exact Gr.refl _) | (with_reducible assumption) | exact (by repeat (first | (with_reducible exact Gr.refl _) | (with_reducible assumption) | (with_reducible refine Gr.alloc ?_ _) | (with_reducible refine Gr.drew ?_) | (with_reducible refine Gr.drewN ?_ _) | (with_reducible refine Gr.setCell ?_ (by simp <;> omega) _) | (with_reducible refine Gr.trans ?_ (by with_reducible assumption)) | exact Gr.refl _ | assumption | refine Gr.alloc ?_ _ | refine Gr.drew ?_ | refine Gr.drewN ?_ _ | refine Gr.setCell ?_ (by simp <;> omega) _ | refine Gr.trans ?_ (by assumption)))) : Gr _ (w1.alloc (.cells #[.int .i64 (numErr n s), .int .i64 (typeErr k l sc), .int .i64 (pick (!isNum k) 17)] 33))))
      have HGW := Lib.hid ((by (repeat (first | with_reducible refine Gr.setCell ?_ (by simp <;> omega) _ | with_reducible refine Gr.drew ?_ | with_reducible refine Gr.drewN ?_ _ | with_reducible refine Gr.alloc ?_ _)); first | (with_reducible exact Gr.refl _) | (with_reducible assumption) | exact (by repeat (first | (with_reducible exact Gr.refl _) | (with_reducible assumption) | (with_reducible refine Gr.alloc ?_ _) | (with_reducible refine Gr.drew ?_) | (with_reducible refine Gr.drewN ?_ _) | (with_reducible refine Gr.setCell ?_ (by simp <;> omega) _) | (with_reducible refine Gr.trans ?_ (by with_reducible assumption)) | exact Gr.refl _ | assumption | refine Gr.alloc ?_ _ | refine Gr.drew ?_ | refine Gr.drewN ?_ _ | refine Gr.setCell ?_ (by simp <;> omega) _ | refine Gr.trans ?_ (by assumption)))) : Gr w (w1.alloc (.cells #[.int .i64 (numErr n s), .int .i64 (typeErr k l sc), .int .i64 (pick (!isNum k) 17)] 33)))
      obtain ⟨c0, c1, c2, c3, c4⟩ := hH
      clear hbA hbB HV
      generalize w1.alloc (.cells #[.int .i64 (numErr n s), .int .i64 (typeErr k l sc), .int .i64 (pick (!isNum k) 17)] 33) = W5 at *
      have hzz := HVW.out.lt
      have hz : w.heap.size + 3 ≤ W5.heap.size := by omega
      have v0 := HVW.out.cell 0 rfl
      have v1 := HVW.out.cell 1 rfl
      have f0 := HVW.out.frozen 0
      have f1 := HVW.out.frozen 1
      clear hzz
      go_wp2
      refine bodyPost_ret (v := .tuple #[.agg #[.int .i64 0, .string ⟨#[]⟩], .int .i64 (cvErr n s k l sc)]) (by simp [results, Try.results13, go_sem, *]) rfl ⟨by simp [cvN, cvE, HE.out], ?_⟩
      have HG := HGW.out
      exact (by (repeat (first | with_reducible refine Gr.setCell ?_ (by simp <;> omega) _ | with_reducible refine Gr.drew ?_ | with_reducible refine Gr.drewN ?_ _ | with_reducible refine Gr.alloc ?_ _)); first | (with_reducible exact Gr.refl _) | (with_reducible assumption) | exact (by repeat (first | (with_reducible exact Gr.refl _) | (with_reducible assumption) | (with_reducible refine Gr.alloc ?_ _) | (with_reducible refine Gr.drew ?_) | (with_reducible refine Gr.drewN ?_ _) | (with_reducible refine Gr.setCell ?_ (by simp <;> omega) _) | (with_reducible refine Gr.trans ?_ (by with_reducible assumption)) | exact Gr.refl _ | assumption | refine Gr.alloc ?_ _ | refine Gr.drew ?_ | refine Gr.drewN ?_ _ | refine Gr.setCell ?_ (by simp <;> omega) _ | refine Gr.trans ?_ (by assumption))))
end Go.Proofs.Ytnaflaokhldfnaa
