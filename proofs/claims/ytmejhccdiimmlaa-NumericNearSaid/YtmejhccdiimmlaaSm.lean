/- Walks: CheckNumber, checkNumeric, Converted. -/
import Derived.Test.YtmejhccdiimmlaaSl
namespace Go.Proofs.Ytmejhccdiimmlaa
set_option linter.unusedSimpArgs false
set_option linter.unusedVariables false
open Go.RowKit

/-- The error of a number. -/
def numErr (n s : Int) : Int := if n < -999999999999999 ∨ 999999999999999 < n ∨ s < 0 ∨ 15 < s then 3 else 0
theorem CheckNumber_any (n s : Int) (w : World) :
    Calls Try.prog 63 #[.agg #[.int .i64 n, .int .i64 s]] w fun e w' => e = .returned (.int .i64 (numErr n s)) ∧ Gr w w' := by
  by_cases h1 : n < -999999999999999
  · go_enter Try.func63, Try.ntmps63
    go_wp2
    go_ret
    exact ⟨ret_int (by simp [numErr, h1]), (by repeat (first | exact Gr.refl _ | assumption | refine Gr.alloc ?_ _ | refine Gr.drew ?_ | refine Gr.drewN ?_ _ | refine Gr.setCell ?_ (by simp <;> omega) _ | refine Gr.trans ?_ (by assumption)))⟩
  · have b1 : decide (n < -999999999999999) = false := by simpa using h1
    by_cases h2 : 999999999999999 < n
    · go_enter Try.func63, Try.ntmps63
      go_wp2
      go_ret
      exact ⟨ret_int (by simp [numErr, h2]), (by repeat (first | exact Gr.refl _ | assumption | refine Gr.alloc ?_ _ | refine Gr.drew ?_ | refine Gr.drewN ?_ _ | refine Gr.setCell ?_ (by simp <;> omega) _ | refine Gr.trans ?_ (by assumption)))⟩
    · have b2 : decide (999999999999999 < n) = false := by simpa using h2
      by_cases h3 : s < 0
      · go_enter Try.func63, Try.ntmps63
        go_wp2
        go_ret
        exact ⟨ret_int (by simp [numErr, h3]), (by repeat (first | exact Gr.refl _ | assumption | refine Gr.alloc ?_ _ | refine Gr.drew ?_ | refine Gr.drewN ?_ _ | refine Gr.setCell ?_ (by simp <;> omega) _ | refine Gr.trans ?_ (by assumption)))⟩
      · have b3 : decide (s < 0) = false := by simpa using h3
        go_enter Try.func63, Try.ntmps63
        go_wp2
        all_goals (go_ret; exact ⟨ret_int (by grind [numErr]), (by repeat (first | exact Gr.refl _ | assumption | refine Gr.alloc ?_ _ | refine Gr.drew ?_ | refine Gr.drewN ?_ _ | refine Gr.setCell ?_ (by simp <;> omega) _ | refine Gr.trans ?_ (by assumption)))⟩)

set_option maxHeartbeats 1000000 in
theorem checkNumeric_one (k l s : Int) (bl cap : Nat) (w : World) (c0 : w.cell? ⟨bl, 0, none⟩ = some (.int .i64 k)) (c1 : w.cell? ⟨bl, 1, none⟩ = some (.int .i64 l)) (c2 : w.cell? ⟨bl, 2, none⟩ = some (.int .i64 s)) :
    Calls Try.prog 64 #[.slice (some ⟨bl, 0, none⟩) 1 cap] w fun e w' => e = .returned (.int .i64 (pick (!isNum k) 17)) ∧ Gr w w' := by
  have hbl : bl < w.heap.size := World.block_lt_of_cell? w _ c0
  by_cases h : isNum k = true
  · go_enter Try.func64, Try.ntmps64
    go_wp2
    refine wp_loop_rounds 2 ?_
    rw [rounds_succ]
    go_wp2_with (go_at_call 93; refine (isNumeric_any _ _ _ _).mono ?_; rintro e w1 ⟨rfl, hb⟩; obtain ⟨hc, hf⟩ := hb.cells; have hz : w.heap.size < w1.heap.size := by have h := hb.size; (try simp at h); omega)
    rw [rounds_succ]
    go_wp2
    go_ret
    exact ⟨ret_int (by simp [pick, h]), (by repeat (first | exact Gr.refl _ | assumption | refine Gr.alloc ?_ _ | refine Gr.drew ?_ | refine Gr.drewN ?_ _ | refine Gr.setCell ?_ (by simp <;> omega) _ | refine Gr.trans ?_ (by assumption)))⟩
  · have h' : isNum k = false := by simpa using h
    go_enter Try.func64, Try.ntmps64
    go_wp2
    refine wp_loop_rounds 2 ?_
    rw [rounds_succ]
    go_wp2_with (go_at_call 93; refine (isNumeric_any _ _ _ _).mono ?_; rintro e w1 ⟨rfl, hb⟩; obtain ⟨hc, hf⟩ := hb.cells; have hz : w.heap.size < w1.heap.size := by have h := hb.size; (try simp at h); omega)
    go_ret
    exact ⟨ret_int (by simp [pick, h']), (by repeat (first | exact Gr.refl _ | assumption | refine Gr.alloc ?_ _ | refine Gr.drew ?_ | refine Gr.drewN ?_ _ | refine Gr.setCell ?_ (by simp <;> omega) _ | refine Gr.trans ?_ (by assumption)))⟩
end Go.Proofs.Ytmejhccdiimmlaa
