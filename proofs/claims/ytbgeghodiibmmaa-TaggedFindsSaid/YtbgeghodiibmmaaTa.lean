/- Pointers: which are right; their bytes. -/
import Derived.Test.Ytbgeghodiibmmaa0
namespace Go.Proofs.Ytbgeghodiibmmaa
set_option linter.unusedSimpArgs false
set_option linter.unusedVariables false
open Go.RowKit

def inI (n m : Int) : Bool := decide (0 ≤ n) && decide (n ≤ m)
theorem isIn_any (n m : Int) (w : World) :
    Calls Try.prog 48 #[.int .i64 n, .int .i64 m] w fun e w' => e = .returned (.bool (inI n m)) ∧ w = w' := by
  go_enter Try.func48, Try.ntmps48
  go_wp2
  all_goals (go_ret; exact ⟨ret_bool (by first | (simp [inI, *]; done) | (simp [inI, *]; omega)), rfl⟩)

def wiB (n a b : Int) : Bool := decide (a ≤ n) && decide (n ≤ b)
theorem Within_any (n a b : Int) (w : World) :
    Calls Try.prog 22 #[.int .i64 n, .int .i64 a, .int .i64 b] w fun e w' => e = .returned (.bool (wiB n a b)) ∧ w = w' := by
  go_enter Try.func22, Try.ntmps22
  go_wp2
  all_goals (go_ret; exact ⟨ret_bool (by first | (simp [wiB, *]; done) | (simp [wiB, *]; omega)), rfl⟩)

/-- The error of a pointer. -/
def ptErr (k g o u : Int) : Int :=
  if k < 0 ∨ 3 ≤ k then 4 else if inI g 1099511627775 = false ∨ inI o 16777215 = false ∨ inI u 1023 = false then 3 else if u ≠ 0 ∧ k ≠ 1 then 5 else 0

theorem CheckPointer_any (k g o u : Int) (w : World) :
    Calls Try.prog 13 #[.agg #[.int .i64 k, .int .i64 g, .int .i64 o, .int .i64 u]] w fun e w' => e = .returned (.int .i64 (ptErr k g o u)) ∧ Gr w w' := by
  go_enter Try.func13, Try.ntmps13
  go_wp2_with (go_at_call 48; refine (isIn_any _ _ _).mono ?_; rintro e w1 ⟨rfl, rfl⟩)
  all_goals (go_ret; exact ⟨ret_int (by grind [ptErr]), (by repeat (first | (with_reducible exact Gr.refl _) | (with_reducible assumption) | (with_reducible refine Gr.alloc ?_ _) | (with_reducible refine Gr.drew ?_) | (with_reducible refine Gr.drewN ?_ _) | (with_reducible refine Gr.setCell ?_ (by simp <;> omega) _) | (with_reducible refine Gr.trans ?_ (by with_reducible assumption)) | exact Gr.refl _ | assumption | refine Gr.alloc ?_ _ | refine Gr.drew ?_ | refine Gr.drewN ?_ _ | refine Gr.setCell ?_ (by simp <;> omega) _ | refine Gr.trans ?_ (by assumption)))⟩)
theorem PointerErr_any (k g o u : Int) (w : World) :
    Calls Try.prog 11 #[.agg #[.int .i64 k, .int .i64 g, .int .i64 o, .int .i64 u]] w fun e w' => e = .returned (.int .i64 (ptErr k g o u)) ∧ Gr w w' := by
  go_enter Try.func11, Try.ntmps11
  go_wp2_with (go_at_call 22; refine (Within_any _ _ _ _).mono ?_; rintro e w1 ⟨rfl, rfl⟩)
  all_goals (go_ret; exact ⟨ret_int (by grind [ptErr, wiB, inI]), (by repeat (first | (with_reducible exact Gr.refl _) | (with_reducible assumption) | (with_reducible refine Gr.alloc ?_ _) | (with_reducible refine Gr.drew ?_) | (with_reducible refine Gr.drewN ?_ _) | (with_reducible refine Gr.setCell ?_ (by simp <;> omega) _) | (with_reducible refine Gr.trans ?_ (by with_reducible assumption)) | exact Gr.refl _ | assumption | refine Gr.alloc ?_ _ | refine Gr.drew ?_ | refine Gr.drewN ?_ _ | refine Gr.setCell ?_ (by simp <;> omega) _ | refine Gr.trans ?_ (by assumption)))⟩)
end Go.Proofs.Ytbgeghodiibmmaa
