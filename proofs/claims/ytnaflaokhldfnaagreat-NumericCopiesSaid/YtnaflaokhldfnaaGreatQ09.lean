/- Texts of the walks, merged. -/
import Derived.Test.YtnaflaokhldfnaaGreatQ08
namespace Go.Proofs.YtnaflaokhldfnaaGreat
set_option linter.unusedSimpArgs false
set_option linter.unusedVariables false
open Go.RowKit

/-- What a rounded amount is put into a type as: N, the error. -/
def pN (b : Bool) (Z : Nat) (l : Int) : Int := if most l < Z then 0 else if b then -(Z : Int) else Z
def pE (Z : Nat) (l : Int) : Int := if most l < Z then 19 else 0
theorem most_bd (l : Int) (h : l ≤ 18) : 0 ≤ most l ∧ most l ≤ 999999999999999999 := by have := p10_bd l h; unfold most; omega
theorem cmp_pos {M N : Nat} : 0 < cmpI M N ↔ N < M := by unfold cmpI; repeat' split <;> omega
theorem cmp_nonneg {M N : Nat} : 0 ≤ cmpI M N ↔ N ≤ M := by unfold cmpI; repeat' split <;> omega
theorem wd_low {Z : Nat} (h : Z ≤ 1000000000000000000) : wd Z 0 = Z := (wd_of (N := Z) (a0 := Z) (a1 := 0) (a2 := 0) (by omega) (by omega) (by omega)).1
theorem pres_of (b : Bool) (Z : Nat) (l : Int) (hl : l ≤ 18) (M : Nat) (hM : (M : Int) = most l) : pres b (wd Z 0) (cmpI Z M) = .tuple #[.agg #[.int .i64 (pN b Z l), .string ⟨#[]⟩], .int .i64 (pE Z l)] := by
  have hb := most_bd l hl
  unfold pres pN pE
  by_cases h : M < Z
  · rw [if_pos (cmp_pos.2 h), if_pos (by omega), if_pos (by omega)]
  · have h2 : ¬ most l < (Z : Int) := by omega
    rw [if_neg (fun k => h (cmp_pos.1 k)), if_neg h2, if_neg h2, wd_low (by omega)]

theorem put_any (b half : Bool) (O U : Nat) (s k l sc : Int) (a c : Nat) (num den : Nat) (ea : max (sc - s) 0 = (a : Int)) (ec : max (s - sc) 0 = (c : Int)) (en : O * 10 ^ a = num) (ed : U * 10 ^ c = den)
    (hs : -50 ≤ s) (hs' : s ≤ 50) (hsc : 0 ≤ sc) (hsc' : sc ≤ 50) (hl : l ≤ 18) (hnum : Sm (num + 1)) (hd0 : 0 < den) (hden : Sm (den + den))
    (hD : ∀ w, Calls Tryz.prog 68 #[(.agg #[.int .u64 ((wd (num) 0 : Nat) : Int), .int .u64 ((wd (num) 1 : Nat) : Int), .int .u64 ((wd (num) 2 : Nat) : Int)]), (.agg #[.int .u64 ((wd (den) 0 : Nat) : Int), .int .u64 ((wd (den) 1 : Nat) : Int), .int .u64 ((wd (den) 2 : Nat) : Int)])] w fun e w' => e = .returned (.tuple #[(.agg #[.int .u64 ((wd ((num / den)) 0 : Nat) : Int), .int .u64 ((wd ((num / den)) 1 : Nat) : Int), .int .u64 ((wd ((num / den)) 2 : Nat) : Int)]), (.agg #[.int .u64 ((wd ((num % den)) 0 : Nat) : Int), .int .u64 ((wd ((num % den)) 1 : Nat) : Int), .int .u64 ((wd ((num % den)) 2 : Nat) : Int)])]) ∧ Gr w w') (w : World) :
    Calls Tryz.prog 35 #[(.agg #[.bool b, .int .u64 ((wd (O) 0 : Nat) : Int), .int .u64 ((wd (O) 1 : Nat) : Int), .int .u64 ((wd (O) 2 : Nat) : Int), .int .u64 ((wd (U) 0 : Nat) : Int), .int .u64 ((wd (U) 1 : Nat) : Int), .int .u64 ((wd (U) 2 : Nat) : Int), .int .i64 (s)]), .agg #[.int .i64 k, .int .i64 l, .int .i64 sc], .bool half] w fun e w' => e = .returned (.tuple #[.agg #[.int .i64 (pN b (rq num den half) l), .string ⟨#[]⟩], .int .i64 (pE (rq num den half) l)]) ∧ Gr w w' := by
  have hm := most_bd l hl
  obtain ⟨M, hM⟩ := Int.eq_ofNat_of_zero_le hm.1
  have hMS : Sm M := by unfold Sm; omega
  have hlt := Nat.mod_lt num hd0
  have hqle := Nat.div_le_self num den
  have hnum0 : Sm num := sm_le hnum (by omega)
  have hden0 : Sm den := sm_le hden (by omega)
  have hq1 : Sm (num / den + 1) := sm_le hnum (by omega)
  have hq0 : Sm (num / den) := sm_le hnum (by omega)
  have hrr : Sm (num % den + num % den) := sm_le hden (by omega)
  have hc := put_core b half O U s k l sc num den a c _ _ _ _ _ _ (wd (num % den + num % den) 0) (wd (num % den + num % den) 1) (wd (num % den + num % den) 2) (wd (num / den + 1) 0) (wd (num / den + 1) 1) (wd (num / den + 1) 2) (wd 1 0) (wd 1 1) (wd 1 2) (wd M 0) (wd M 1) (wd M 2)
    (cmpI (num % den + num % den : Nat) den) (cmpI (num / den : Nat) M) (cmpI (num / den + 1 : Nat) M)
    ea ec (by omega) (by omega) hsc (by omega) hl (by rw [← en]; exact timesPower_any O a (by rw [en]; exact hnum0) (by omega)) (by rw [← ed]; exact timesPower_any U c (by rw [ed]; exact hden0) (by omega)) hD
    (plus_any _ _ hrr) (compare_any _ _ hrr hden0) (amountOf_any 1 (by omega) (by omega)) (fun _ _ => plus_any (num / den) 1 hq1) (by rw [hM]; exact amountOf_any (M : Int) (by omega) (by omega)) (compare_any _ _ hq0 hMS) (fun _ _ => compare_any _ _ hq1 hMS)
    (fun h => by
      have : num / den ≤ M := by rcases Nat.lt_or_ge M (num / den) with k | k; exact absurd (cmp_pos.2 k) (by omega); exact k
      rw [wd_low (by omega)]; omega)
    (fun h => by
      have : num / den + 1 ≤ M := by rcases Nat.lt_or_ge M (num / den + 1) with k | k; exact absurd (cmp_pos.2 k) (by omega); exact k
      rw [wd_low (by omega)]; omega) w
  refine hc.mono fun e w' ⟨h1, h2⟩ => ⟨?_, h2⟩
  rw [h1]
  have iff : (half = true ∧ 0 ≤ cmpI ((num % den + num % den : Nat) : Int) den) ↔ (half = true ∧ den ≤ 2 * (num % den)) := by rw [cmp_nonneg]; constructor <;> (rintro ⟨x, y⟩; exact ⟨x, by omega⟩)
  by_cases hh : half = true ∧ den ≤ 2 * (num % den)
  · rw [if_pos (iff.2 hh), if_pos (iff.2 hh), show rq num den half = num / den + 1 by unfold rq; rw [if_pos hh], ← pres_of b _ l hl M (by omega)]
  · rw [if_neg (fun k => hh (iff.1 k)), if_neg (fun k => hh (iff.1 k)), show rq num den half = num / den by unfold rq; rw [if_neg hh]; rfl, ← pres_of b _ l hl M (by omega)]
end Go.Proofs.YtnaflaokhldfnaaGreat
namespace Go.Proofs.YtnaflaokhldfnaaGreat
set_option linter.unusedSimpArgs false
set_option linter.unusedVariables false
open Go.RowKit

/-- The error of a number. -/
def numErr (n s : Int) : Int := if n < -999999999999999 ∨ 999999999999999 < n ∨ s < 0 ∨ 15 < s then 3 else 0
theorem CheckNumber_any (n s : Int) (w : World) :
    Calls Tryz.prog 33 #[.agg #[.int .i64 n, .int .i64 s]] w fun e w' => e = .returned (.int .i64 (numErr n s)) ∧ Gr w w' := by
  by_cases h1 : n < -999999999999999
  · go_enter Tryz.func33, Tryz.ntmps33
    go_wp2
    go_ret
    exact ⟨ret_int (by simp [numErr, h1]), (by repeat (first | (with_reducible exact Gr.refl _) | (with_reducible assumption) | (with_reducible refine Gr.alloc ?_ _) | (with_reducible refine Gr.drew ?_) | (with_reducible refine Gr.drewN ?_ _) | (with_reducible refine Gr.setCell ?_ (by simp <;> omega) _) | (with_reducible refine Gr.trans ?_ (by with_reducible assumption)) | exact Gr.refl _ | assumption | refine Gr.alloc ?_ _ | refine Gr.drew ?_ | refine Gr.drewN ?_ _ | refine Gr.setCell ?_ (by simp <;> omega) _ | refine Gr.trans ?_ (by assumption)))⟩
  · have b1 : decide (n < -999999999999999) = false := by simpa using h1
    by_cases h2 : 999999999999999 < n
    · go_enter Tryz.func33, Tryz.ntmps33
      go_wp2
      go_ret
      exact ⟨ret_int (by simp [numErr, h2]), (by repeat (first | (with_reducible exact Gr.refl _) | (with_reducible assumption) | (with_reducible refine Gr.alloc ?_ _) | (with_reducible refine Gr.drew ?_) | (with_reducible refine Gr.drewN ?_ _) | (with_reducible refine Gr.setCell ?_ (by simp <;> omega) _) | (with_reducible refine Gr.trans ?_ (by with_reducible assumption)) | exact Gr.refl _ | assumption | refine Gr.alloc ?_ _ | refine Gr.drew ?_ | refine Gr.drewN ?_ _ | refine Gr.setCell ?_ (by simp <;> omega) _ | refine Gr.trans ?_ (by assumption)))⟩
    · have b2 : decide (999999999999999 < n) = false := by simpa using h2
      by_cases h3 : s < 0
      · go_enter Tryz.func33, Tryz.ntmps33
        go_wp2
        go_ret
        exact ⟨ret_int (by simp [numErr, h3]), (by repeat (first | (with_reducible exact Gr.refl _) | (with_reducible assumption) | (with_reducible refine Gr.alloc ?_ _) | (with_reducible refine Gr.drew ?_) | (with_reducible refine Gr.drewN ?_ _) | (with_reducible refine Gr.setCell ?_ (by simp <;> omega) _) | (with_reducible refine Gr.trans ?_ (by with_reducible assumption)) | exact Gr.refl _ | assumption | refine Gr.alloc ?_ _ | refine Gr.drew ?_ | refine Gr.drewN ?_ _ | refine Gr.setCell ?_ (by simp <;> omega) _ | refine Gr.trans ?_ (by assumption)))⟩
      · have b3 : decide (s < 0) = false := by simpa using h3
        go_enter Tryz.func33, Tryz.ntmps33
        go_wp2
        all_goals (go_ret; exact ⟨ret_int (by grind [numErr]), (by repeat (first | (with_reducible exact Gr.refl _) | (with_reducible assumption) | (with_reducible refine Gr.alloc ?_ _) | (with_reducible refine Gr.drew ?_) | (with_reducible refine Gr.drewN ?_ _) | (with_reducible refine Gr.setCell ?_ (by simp <;> omega) _) | (with_reducible refine Gr.trans ?_ (by with_reducible assumption)) | exact Gr.refl _ | assumption | refine Gr.alloc ?_ _ | refine Gr.drew ?_ | refine Gr.drewN ?_ _ | refine Gr.setCell ?_ (by simp <;> omega) _ | refine Gr.trans ?_ (by assumption)))⟩)

set_option maxHeartbeats 1000000 in
theorem checkNumeric_one (k l s : Int) (bl cap : Nat) (w : World) (c0 : w.cell? ⟨bl, 0, none⟩ = some (.int .i64 k)) (c1 : w.cell? ⟨bl, 1, none⟩ = some (.int .i64 l)) (c2 : w.cell? ⟨bl, 2, none⟩ = some (.int .i64 s)) :
    Calls Tryz.prog 31 #[.slice (some ⟨bl, 0, none⟩) 1 cap] w fun e w' => e = .returned (.int .i64 (pick (!isNum k) 17)) ∧ Gr w w' := by
  have hbl : bl < w.heap.size := World.block_lt_of_cell? w _ c0
  by_cases h : isNum k = true
  · go_enter Tryz.func31, Tryz.ntmps31
    go_wp2
    refine wp_loop_rounds 2 ?_
    rw [rounds_succ]
    go_wp2_with (go_at_call 59; refine (isNumeric_any _ _ _ _).mono ?_; rintro e w1 ⟨rfl, hb⟩; obtain ⟨hc, hf⟩ := hb.cells; have hz : w.heap.size < w1.heap.size := by have h := hb.size; (try simp at h); omega)
    rw [rounds_succ]
    go_wp2
    go_ret
    exact ⟨ret_int (by simp [pick, h]), (by repeat (first | (with_reducible exact Gr.refl _) | (with_reducible assumption) | (with_reducible refine Gr.alloc ?_ _) | (with_reducible refine Gr.drew ?_) | (with_reducible refine Gr.drewN ?_ _) | (with_reducible refine Gr.setCell ?_ (by simp <;> omega) _) | (with_reducible refine Gr.trans ?_ (by with_reducible assumption)) | exact Gr.refl _ | assumption | refine Gr.alloc ?_ _ | refine Gr.drew ?_ | refine Gr.drewN ?_ _ | refine Gr.setCell ?_ (by simp <;> omega) _ | refine Gr.trans ?_ (by assumption)))⟩
  · have h' : isNum k = false := by simpa using h
    go_enter Tryz.func31, Tryz.ntmps31
    go_wp2
    refine wp_loop_rounds 2 ?_
    rw [rounds_succ]
    go_wp2_with (go_at_call 59; refine (isNumeric_any _ _ _ _).mono ?_; rintro e w1 ⟨rfl, hb⟩; obtain ⟨hc, hf⟩ := hb.cells; have hz : w.heap.size < w1.heap.size := by have h := hb.size; (try simp at h); omega)
    go_ret
    exact ⟨ret_int (by simp [pick, h']), (by repeat (first | (with_reducible exact Gr.refl _) | (with_reducible assumption) | (with_reducible refine Gr.alloc ?_ _) | (with_reducible refine Gr.drew ?_) | (with_reducible refine Gr.drewN ?_ _) | (with_reducible refine Gr.setCell ?_ (by simp <;> omega) _) | (with_reducible refine Gr.trans ?_ (by with_reducible assumption)) | exact Gr.refl _ | assumption | refine Gr.alloc ?_ _ | refine Gr.drew ?_ | refine Gr.drewN ?_ _ | refine Gr.setCell ?_ (by simp <;> omega) _ | refine Gr.trans ?_ (by assumption)))⟩
end Go.Proofs.YtnaflaokhldfnaaGreat
