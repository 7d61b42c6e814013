/- The example of chapter 3's statements. -/
import Derived.Test.YtbgeghodiibmmaaTd
namespace Go.Proofs.Ytbgeghodiibmmaa
set_option linter.unusedSimpArgs false
set_option linter.unusedVariables false
open Go.RowKit
theorem pbS_awake : pbS 1 258 3 5 = ⟨#[1, 0, 0, 5, 0, 0, 0, 0, 1, 2, 0, 0, 0, 0, 0, 3]⟩ := by decide +kernel
theorem ptErr_awake : ptErr 1 258 3 5 = 0 := by decide +kernel
theorem nB_awake : strOfNums (nB 1 2) = ⟨#[0, 1]⟩ := by decide +kernel
theorem pb_awake (w : World) : Calls Try.prog 12 #[.agg #[.int .i64 1, .int .i64 258, .int .i64 3, .int .i64 5]] w fun e w' => e = .returned (.tuple #[.string ⟨#[1, 0, 0, 5, 0, 0, 0, 0, 1, 2, 0, 0, 0, 0, 0, 3]⟩, .int .i64 0]) ∧ Gr w w' :=
  (PointerBytes_any 1 258 3 5 w).mono fun e w' h => ⟨by rw [h.1, pbS_awake, ptErr_awake], h.2⟩
theorem bb_awake (w : World) : Calls Try.prog 46 #[.int .i64 1, .int .i64 2] w fun e w' => e = .returned (.string ⟨#[0, 1]⟩) ∧ Gr w w' :=
  (bb2 1 (by omega) (by omega) w).mono fun e w' h => ⟨by rw [h.1, nB_awake], h.2⟩
theorem awake_any (w : World) : Calls Try.prog 10 #[] w fun e w' => e = .returned (.bool true) ∧ Gr w w' := by
  go_enter Try.func10, Try.ntmps10
  go_wp2_with (first | (go_at_call 12; refine (pb_awake _).mono ?_; rintro e w1 ⟨rfl, hb⟩; obtain ⟨hc, hf⟩ := hb.cells) | (go_at_call 46; refine (bb_awake _).mono ?_; rintro e w1 ⟨rfl, hb⟩; obtain ⟨hc, hf⟩ := hb.cells))
  go_ret
  exact ⟨ret_bool (by decide +kernel), (by repeat (first | (with_reducible exact Gr.refl _) | (with_reducible assumption) | (with_reducible refine Gr.alloc ?_ _) | (with_reducible refine Gr.drew ?_) | (with_reducible refine Gr.drewN ?_ _) | (with_reducible refine Gr.setCell ?_ (by simp <;> omega) _) | (with_reducible refine Gr.trans ?_ (by with_reducible assumption)) | exact Gr.refl _ | assumption | refine Gr.alloc ?_ _ | refine Gr.drew ?_ | refine Gr.drewN ?_ _ | refine Gr.setCell ?_ (by simp <;> omega) _ | refine Gr.trans ?_ (by assumption)))⟩
end Go.Proofs.Ytbgeghodiibmmaa
