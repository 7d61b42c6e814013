/- Texts of the walks, merged. -/
import Derived.Test.YtnaflaokhldfnaaDoorQ21
import Derived.Test.YtnaflaokhldfnaaDoorQ13
namespace Go.Proofs.YtnaflaokhldfnaaDoor
set_option linter.unusedSimpArgs false
set_option linter.unusedVariables false
open Go.RowKit

theorem most_pow {l : Int} (h : 0 ≤ l) (Z : Nat) : most l < Z ↔ ¬ ((Z : Int) < 10 ^ l.toNat) := by
  unfold most p10; omega
set_option maxRecDepth 100000 in
theorem NumberErr_any (n s : Int) (w : World) :
    Calls Tryd.prog 10 #[.agg #[.int .i64 n, .int .i64 s]] w fun e w' => e = .returned (.int .i64 (numErr n s)) ∧ Gr w w' := by
  have hr : numErr n s = 3 * countI (!(withinB n (-999999999999999) 999999999999999 && withinB s 0 15)) := by
    unfold numErr
    by_cases h : n < -999999999999999 ∨ 999999999999999 < n ∨ s < 0 ∨ 15 < s
    · rw [if_pos h, show (withinB n (-999999999999999) 999999999999999 && withinB s 0 15) = false by
        rw [Bool.eq_false_iff]; intro e; unfold withinB at e; simp at e; omega]; rfl
    · rw [if_neg h, show (withinB n (-999999999999999) 999999999999999 && withinB s 0 15) = true by
        unfold withinB; simp; omega]; rfl
  rw [hr]
  obtain ⟨b1, e1⟩ : ∃ b, withinB n (-999999999999999) 999999999999999 = b := ⟨_, rfl⟩
  obtain ⟨b2, e2⟩ : ∃ b, withinB s 0 15 = b := ⟨_, rfl⟩
  have w1 := Within_any n (-999999999999999) 999999999999999
  have w2 := Within_any s 0 15
  rw [e1] at w1
  rw [e2] at w2
  rw [e1, e2]
  clear e1 e2 hr
  cases b1 <;> cases b2
  all_goals
    go_enter Tryd.func10, Tryd.ntmps10
    go_wp2_with (first | (go_at_call 26; (with_reducible refine (w1 _).mono ?_); rintro e w1 ⟨rfl, rfl⟩) | (go_at_call 26; (with_reducible refine (w2 _).mono ?_); rintro e w1 ⟨rfl, rfl⟩) | (go_at_call 27; refine (Count_any _ _).mono ?_; rintro e w1 ⟨rfl, rfl, hc0, hc1⟩))
    go_ret
    exact ⟨rfl, (by repeat (first | (with_reducible exact Gr.refl _) | (with_reducible assumption) | (with_reducible refine Gr.alloc ?_ _) | (with_reducible refine Gr.drew ?_) | (with_reducible refine Gr.drewN ?_ _) | (with_reducible refine Gr.setCell ?_ (by simp <;> omega) _) | (with_reducible refine Gr.trans ?_ (by with_reducible assumption)) | exact Gr.refl _ | assumption | refine Gr.alloc ?_ _ | refine Gr.drew ?_ | refine Gr.drewN ?_ _ | refine Gr.setCell ?_ (by simp <;> omega) _ | refine Gr.trans ?_ (by assumption)))⟩
/-- The error of a type that must be numeric. -/
def nuErr (k l sc : Int) : Int := if typeErr k l sc ≠ 0 then typeErr k l sc else pick (!isNum k) 17
end Go.Proofs.YtnaflaokhldfnaaDoor
