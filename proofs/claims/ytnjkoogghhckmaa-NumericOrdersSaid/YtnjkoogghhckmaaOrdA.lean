/- NumericOrders' law, walked, each case for itself. -/
import Derived.Test.YtnjkoogghhckmaaSs
namespace Go.Proofs.Ytnjkoogghhckmaa.lawOrders
set_option linter.unusedSimpArgs false
set_option linter.unusedVariables false
open Go.Proofs.Ytnjkoogghhckmaa
open Go.RowKit
set_option linter.unusedVariables false

set_option maxHeartbeats 2000000 in
set_option maxRecDepth 100000 in
theorem coreA (k l sc n s m r : Int) (half : Bool) (NA NB EA EB R E : Int)
    (hW : ∀ w, Calls Try.prog 13 #[] w fun e w' => e = .returned (.bool true) ∧ Gr w w')
    (hA : ∀ w, Calls Try.prog 28 #[.agg #[.int .i64 n, .int .i64 s], .agg #[.int .i64 k, .int .i64 l, .int .i64 sc], .bool half] w fun e w' => e = .returned (.tuple #[.agg #[.int .i64 NA, .string ⟨#[]⟩], .int .i64 (EA)]) ∧ Gr w w')
    (hB : ∀ w, Calls Try.prog 28 #[.agg #[.int .i64 m, .int .i64 r], .agg #[.int .i64 k, .int .i64 l, .int .i64 sc], .bool half] w fun e w' => e = .returned (.tuple #[.agg #[.int .i64 NB, .string ⟨#[]⟩], .int .i64 (EB)]) ∧ Gr w w')
    (hC : ∀ w, Calls Try.prog 36 #[.agg #[.int .i64 n, .int .i64 s], .agg #[.int .i64 m, .int .i64 r]] w fun e w' => e = .returned (.tuple #[.int .i64 (R), .int .i64 (E)]) ∧ Gr w w')
    (h0 : (EA != 0) = true) (w : World) :
    Calls Try.prog 10 #[.agg #[.int .i64 k, .int .i64 l, .int .i64 sc], .agg #[.int .i64 n, .int .i64 s, .int .i64 m, .int .i64 r], .bool half] w fun e w' => e = .returned (.bool true) ∧ Gr w w' := by
  go_enter Try.func10, Try.ntmps10
  go_wp2_with (first | (go_at_call 13; with_reducible refine (hW _).mono ?_; rintro e wa ⟨rfl, wah⟩; obtain ⟨wac, waf⟩ := wah.cells; have was := wah.size; (try simp at was); have waz : w.heap.size + 1 < wa.heap.size := (by omega); have way : w.heap.size < wa.heap.size := (by omega)) | ((go_at_call 28; with_reducible refine (hA _).mono ?_; rintro e wx ⟨rfl, wxh⟩; obtain ⟨wxc, wxf⟩ := wxh.cells; have wxs := wxh.size; (try simp at wxs); have wxz : w.heap.size + 1 < wx.heap.size := (by omega); have wxy : w.heap.size < wx.heap.size := (by omega))) | ((go_at_call 28; with_reducible refine (hB _).mono ?_; rintro e wy ⟨rfl, wyh⟩; obtain ⟨wyc, wyf⟩ := wyh.cells; have wys := wyh.size; (try simp at wys); have wyz : w.heap.size + 1 < wy.heap.size := (by omega); have wyy : w.heap.size < wy.heap.size := (by omega)); have wyx : wx.heap.size < wy.heap.size := by omega) | ((go_at_call 36; with_reducible refine (hC _).mono ?_; rintro e wz ⟨rfl, wzh⟩; obtain ⟨wzc, wzf⟩ := wzh.cells; have wzs := wzh.size; (try simp at wzs); have wzz : w.heap.size + 1 < wz.heap.size := (by omega); have wzy : w.heap.size < wz.heap.size := (by omega)); have wzx : wx.heap.size < wz.heap.size := (by omega); have wzy : wy.heap.size < wz.heap.size := (by omega)))
  go_ret
  exact ⟨rfl, (by repeat (first | exact Gr.refl _ | assumption | refine Gr.alloc ?_ _ | refine Gr.drew ?_ | refine Gr.drewN ?_ _ | refine Gr.setCell ?_ (by simp <;> omega) _ | refine Gr.trans ?_ (by assumption)))⟩
set_option maxHeartbeats 2000000 in
set_option maxRecDepth 100000 in
theorem coreB (k l sc n s m r : Int) (half : Bool) (NA NB EB R E : Int)
    (hW : ∀ w, Calls Try.prog 13 #[] w fun e w' => e = .returned (.bool true) ∧ Gr w w')
    (hA : ∀ w, Calls Try.prog 28 #[.agg #[.int .i64 n, .int .i64 s], .agg #[.int .i64 k, .int .i64 l, .int .i64 sc], .bool half] w fun e w' => e = .returned (.tuple #[.agg #[.int .i64 NA, .string ⟨#[]⟩], .int .i64 (0)]) ∧ Gr w w')
    (hB : ∀ w, Calls Try.prog 28 #[.agg #[.int .i64 m, .int .i64 r], .agg #[.int .i64 k, .int .i64 l, .int .i64 sc], .bool half] w fun e w' => e = .returned (.tuple #[.agg #[.int .i64 NB, .string ⟨#[]⟩], .int .i64 (EB)]) ∧ Gr w w')
    (hC : ∀ w, Calls Try.prog 36 #[.agg #[.int .i64 n, .int .i64 s], .agg #[.int .i64 m, .int .i64 r]] w fun e w' => e = .returned (.tuple #[.int .i64 (R), .int .i64 (E)]) ∧ Gr w w')
    (h0 : (EB != 0) = true) (w : World) :
    Calls Try.prog 10 #[.agg #[.int .i64 k, .int .i64 l, .int .i64 sc], .agg #[.int .i64 n, .int .i64 s, .int .i64 m, .int .i64 r], .bool half] w fun e w' => e = .returned (.bool true) ∧ Gr w w' := by
  go_enter Try.func10, Try.ntmps10
  go_wp2_with (first | (go_at_call 13; with_reducible refine (hW _).mono ?_; rintro e wa ⟨rfl, wah⟩; obtain ⟨wac, waf⟩ := wah.cells; have was := wah.size; (try simp at was); have waz : w.heap.size + 1 < wa.heap.size := (by omega); have way : w.heap.size < wa.heap.size := (by omega)) | ((go_at_call 28; with_reducible refine (hA _).mono ?_; rintro e wx ⟨rfl, wxh⟩; obtain ⟨wxc, wxf⟩ := wxh.cells; have wxs := wxh.size; (try simp at wxs); have wxz : w.heap.size + 1 < wx.heap.size := (by omega); have wxy : w.heap.size < wx.heap.size := (by omega))) | ((go_at_call 28; with_reducible refine (hB _).mono ?_; rintro e wy ⟨rfl, wyh⟩; obtain ⟨wyc, wyf⟩ := wyh.cells; have wys := wyh.size; (try simp at wys); have wyz : w.heap.size + 1 < wy.heap.size := (by omega); have wyy : w.heap.size < wy.heap.size := (by omega)); have wyx : wx.heap.size < wy.heap.size := by omega) | ((go_at_call 36; with_reducible refine (hC _).mono ?_; rintro e wz ⟨rfl, wzh⟩; obtain ⟨wzc, wzf⟩ := wzh.cells; have wzs := wzh.size; (try simp at wzs); have wzz : w.heap.size + 1 < wz.heap.size := (by omega); have wzy : w.heap.size < wz.heap.size := (by omega)); have wzx : wx.heap.size < wz.heap.size := (by omega); have wzy : wy.heap.size < wz.heap.size := (by omega)))
  go_ret
  exact ⟨rfl, (by repeat (first | exact Gr.refl _ | assumption | refine Gr.alloc ?_ _ | refine Gr.drew ?_ | refine Gr.drewN ?_ _ | refine Gr.setCell ?_ (by simp <;> omega) _ | refine Gr.trans ?_ (by assumption)))⟩
set_option maxHeartbeats 2000000 in
set_option maxRecDepth 100000 in
theorem coreLk (k l sc n s m r : Int) (half : Bool) (NA NB : Int)
    (hW : ∀ w, Calls Try.prog 13 #[] w fun e w' => e = .returned (.bool true) ∧ Gr w w')
    (hA : ∀ w, Calls Try.prog 28 #[.agg #[.int .i64 n, .int .i64 s], .agg #[.int .i64 k, .int .i64 l, .int .i64 sc], .bool half] w fun e w' => e = .returned (.tuple #[.agg #[.int .i64 NA, .string ⟨#[]⟩], .int .i64 (0)]) ∧ Gr w w')
    (hB : ∀ w, Calls Try.prog 28 #[.agg #[.int .i64 m, .int .i64 r], .agg #[.int .i64 k, .int .i64 l, .int .i64 sc], .bool half] w fun e w' => e = .returned (.tuple #[.agg #[.int .i64 NB, .string ⟨#[]⟩], .int .i64 (0)]) ∧ Gr w w')
    (hC : ∀ w, Calls Try.prog 36 #[.agg #[.int .i64 n, .int .i64 s], .agg #[.int .i64 m, .int .i64 r]] w fun e w' => e = .returned (.tuple #[.int .i64 (-1), .int .i64 (0)]) ∧ Gr w w')
    (g : ¬ NB < NA) (g' : decide (NB < NA) = false) (h0 : (k != 2) = true) (w : World) :
    Calls Try.prog 10 #[.agg #[.int .i64 k, .int .i64 l, .int .i64 sc], .agg #[.int .i64 n, .int .i64 s, .int .i64 m, .int .i64 r], .bool half] w fun e w' => e = .returned (.bool true) ∧ Gr w w' := by
  go_enter Try.func10, Try.ntmps10
  go_wp2_with (first | (go_at_call 13; with_reducible refine (hW _).mono ?_; rintro e wa ⟨rfl, wah⟩; obtain ⟨wac, waf⟩ := wah.cells; have was := wah.size; (try simp at was); have waz : w.heap.size + 1 < wa.heap.size := (by omega); have way : w.heap.size < wa.heap.size := (by omega)) | ((go_at_call 28; with_reducible refine (hA _).mono ?_; rintro e wx ⟨rfl, wxh⟩; obtain ⟨wxc, wxf⟩ := wxh.cells; have wxs := wxh.size; (try simp at wxs); have wxz : w.heap.size + 1 < wx.heap.size := (by omega); have wxy : w.heap.size < wx.heap.size := (by omega))) | ((go_at_call 28; with_reducible refine (hB _).mono ?_; rintro e wy ⟨rfl, wyh⟩; obtain ⟨wyc, wyf⟩ := wyh.cells; have wys := wyh.size; (try simp at wys); have wyz : w.heap.size + 1 < wy.heap.size := (by omega); have wyy : w.heap.size < wy.heap.size := (by omega)); have wyx : wx.heap.size < wy.heap.size := by omega) | ((go_at_call 36; with_reducible refine (hC _).mono ?_; rintro e wz ⟨rfl, wzh⟩; obtain ⟨wzc, wzf⟩ := wzh.cells; have wzs := wzh.size; (try simp at wzs); have wzz : w.heap.size + 1 < wz.heap.size := (by omega); have wzy : w.heap.size < wz.heap.size := (by omega)); have wzx : wx.heap.size < wz.heap.size := (by omega); have wzy : wy.heap.size < wz.heap.size := (by omega)))
  go_ret
  exact ⟨rfl, (by repeat (first | exact Gr.refl _ | assumption | refine Gr.alloc ?_ _ | refine Gr.drew ?_ | refine Gr.drewN ?_ _ | refine Gr.setCell ?_ (by simp <;> omega) _ | refine Gr.trans ?_ (by assumption)))⟩
set_option maxHeartbeats 2000000 in
set_option maxRecDepth 100000 in
theorem coreLa (l sc n s m r : Int) (half : Bool) (NA NB : Int)
    (hW : ∀ w, Calls Try.prog 13 #[] w fun e w' => e = .returned (.bool true) ∧ Gr w w')
    (hA : ∀ w, Calls Try.prog 28 #[.agg #[.int .i64 n, .int .i64 s], .agg #[.int .i64 2, .int .i64 l, .int .i64 sc], .bool half] w fun e w' => e = .returned (.tuple #[.agg #[.int .i64 NA, .string ⟨#[]⟩], .int .i64 (0)]) ∧ Gr w w')
    (hB : ∀ w, Calls Try.prog 28 #[.agg #[.int .i64 m, .int .i64 r], .agg #[.int .i64 2, .int .i64 l, .int .i64 sc], .bool half] w fun e w' => e = .returned (.tuple #[.agg #[.int .i64 NB, .string ⟨#[]⟩], .int .i64 (0)]) ∧ Gr w w')
    (hC : ∀ w, Calls Try.prog 36 #[.agg #[.int .i64 n, .int .i64 s], .agg #[.int .i64 m, .int .i64 r]] w fun e w' => e = .returned (.tuple #[.int .i64 (-1), .int .i64 (0)]) ∧ Gr w w')
    (g : ¬ NB < NA) (g' : decide (NB < NA) = false) (h0 : NA < 0) (h1 : decide (NA < 0) = true) (w : World) :
    Calls Try.prog 10 #[.agg #[.int .i64 2, .int .i64 l, .int .i64 sc], .agg #[.int .i64 n, .int .i64 s, .int .i64 m, .int .i64 r], .bool half] w fun e w' => e = .returned (.bool true) ∧ Gr w w' := by
  go_enter Try.func10, Try.ntmps10
  go_wp2_with (first | (go_at_call 13; with_reducible refine (hW _).mono ?_; rintro e wa ⟨rfl, wah⟩; obtain ⟨wac, waf⟩ := wah.cells; have was := wah.size; (try simp at was); have waz : w.heap.size + 1 < wa.heap.size := (by omega); have way : w.heap.size < wa.heap.size := (by omega)) | ((go_at_call 28; with_reducible refine (hA _).mono ?_; rintro e wx ⟨rfl, wxh⟩; obtain ⟨wxc, wxf⟩ := wxh.cells; have wxs := wxh.size; (try simp at wxs); have wxz : w.heap.size + 1 < wx.heap.size := (by omega); have wxy : w.heap.size < wx.heap.size := (by omega))) | ((go_at_call 28; with_reducible refine (hB _).mono ?_; rintro e wy ⟨rfl, wyh⟩; obtain ⟨wyc, wyf⟩ := wyh.cells; have wys := wyh.size; (try simp at wys); have wyz : w.heap.size + 1 < wy.heap.size := (by omega); have wyy : w.heap.size < wy.heap.size := (by omega)); have wyx : wx.heap.size < wy.heap.size := by omega) | ((go_at_call 36; with_reducible refine (hC _).mono ?_; rintro e wz ⟨rfl, wzh⟩; obtain ⟨wzc, wzf⟩ := wzh.cells; have wzs := wzh.size; (try simp at wzs); have wzz : w.heap.size + 1 < wz.heap.size := (by omega); have wzy : w.heap.size < wz.heap.size := (by omega)); have wzx : wx.heap.size < wz.heap.size := (by omega); have wzy : wy.heap.size < wz.heap.size := (by omega)))
  go_ret
  exact ⟨rfl, (by repeat (first | exact Gr.refl _ | assumption | refine Gr.alloc ?_ _ | refine Gr.drew ?_ | refine Gr.drewN ?_ _ | refine Gr.setCell ?_ (by simp <;> omega) _ | refine Gr.trans ?_ (by assumption)))⟩
set_option maxHeartbeats 2000000 in
set_option maxRecDepth 100000 in
theorem coreEk (k l sc n s m r : Int) (half : Bool) (N : Int)
    (hW : ∀ w, Calls Try.prog 13 #[] w fun e w' => e = .returned (.bool true) ∧ Gr w w')
    (hA : ∀ w, Calls Try.prog 28 #[.agg #[.int .i64 n, .int .i64 s], .agg #[.int .i64 k, .int .i64 l, .int .i64 sc], .bool half] w fun e w' => e = .returned (.tuple #[.agg #[.int .i64 N, .string ⟨#[]⟩], .int .i64 (0)]) ∧ Gr w w')
    (hB : ∀ w, Calls Try.prog 28 #[.agg #[.int .i64 m, .int .i64 r], .agg #[.int .i64 k, .int .i64 l, .int .i64 sc], .bool half] w fun e w' => e = .returned (.tuple #[.agg #[.int .i64 N, .string ⟨#[]⟩], .int .i64 (0)]) ∧ Gr w w')
    (hC : ∀ w, Calls Try.prog 36 #[.agg #[.int .i64 n, .int .i64 s], .agg #[.int .i64 m, .int .i64 r]] w fun e w' => e = .returned (.tuple #[.int .i64 (0), .int .i64 (0)]) ∧ Gr w w')
    (h0 : (k != 2) = true) (w : World) :
    Calls Try.prog 10 #[.agg #[.int .i64 k, .int .i64 l, .int .i64 sc], .agg #[.int .i64 n, .int .i64 s, .int .i64 m, .int .i64 r], .bool half] w fun e w' => e = .returned (.bool true) ∧ Gr w w' := by
  go_enter Try.func10, Try.ntmps10
  go_wp2_with (first | (go_at_call 13; with_reducible refine (hW _).mono ?_; rintro e wa ⟨rfl, wah⟩; obtain ⟨wac, waf⟩ := wah.cells; have was := wah.size; (try simp at was); have waz : w.heap.size + 1 < wa.heap.size := (by omega); have way : w.heap.size < wa.heap.size := (by omega)) | ((go_at_call 28; with_reducible refine (hA _).mono ?_; rintro e wx ⟨rfl, wxh⟩; obtain ⟨wxc, wxf⟩ := wxh.cells; have wxs := wxh.size; (try simp at wxs); have wxz : w.heap.size + 1 < wx.heap.size := (by omega); have wxy : w.heap.size < wx.heap.size := (by omega))) | ((go_at_call 28; with_reducible refine (hB _).mono ?_; rintro e wy ⟨rfl, wyh⟩; obtain ⟨wyc, wyf⟩ := wyh.cells; have wys := wyh.size; (try simp at wys); have wyz : w.heap.size + 1 < wy.heap.size := (by omega); have wyy : w.heap.size < wy.heap.size := (by omega)); have wyx : wx.heap.size < wy.heap.size := by omega) | ((go_at_call 36; with_reducible refine (hC _).mono ?_; rintro e wz ⟨rfl, wzh⟩; obtain ⟨wzc, wzf⟩ := wzh.cells; have wzs := wzh.size; (try simp at wzs); have wzz : w.heap.size + 1 < wz.heap.size := (by omega); have wzy : w.heap.size < wz.heap.size := (by omega)); have wzx : wx.heap.size < wz.heap.size := (by omega); have wzy : wy.heap.size < wz.heap.size := (by omega)))
  go_ret
  exact ⟨rfl, (by repeat (first | exact Gr.refl _ | assumption | refine Gr.alloc ?_ _ | refine Gr.drew ?_ | refine Gr.drewN ?_ _ | refine Gr.setCell ?_ (by simp <;> omega) _ | refine Gr.trans ?_ (by assumption)))⟩
set_option maxHeartbeats 2000000 in
set_option maxRecDepth 100000 in
theorem coreEa (l sc n s m r : Int) (half : Bool) (N : Int)
    (hW : ∀ w, Calls Try.prog 13 #[] w fun e w' => e = .returned (.bool true) ∧ Gr w w')
    (hA : ∀ w, Calls Try.prog 28 #[.agg #[.int .i64 n, .int .i64 s], .agg #[.int .i64 2, .int .i64 l, .int .i64 sc], .bool half] w fun e w' => e = .returned (.tuple #[.agg #[.int .i64 N, .string ⟨#[]⟩], .int .i64 (0)]) ∧ Gr w w')
    (hB : ∀ w, Calls Try.prog 28 #[.agg #[.int .i64 m, .int .i64 r], .agg #[.int .i64 2, .int .i64 l, .int .i64 sc], .bool half] w fun e w' => e = .returned (.tuple #[.agg #[.int .i64 N, .string ⟨#[]⟩], .int .i64 (0)]) ∧ Gr w w')
    (hC : ∀ w, Calls Try.prog 36 #[.agg #[.int .i64 n, .int .i64 s], .agg #[.int .i64 m, .int .i64 r]] w fun e w' => e = .returned (.tuple #[.int .i64 (0), .int .i64 (0)]) ∧ Gr w w')
    (h0 : N < 0) (h1 : decide (N < 0) = true) (w : World) :
    Calls Try.prog 10 #[.agg #[.int .i64 2, .int .i64 l, .int .i64 sc], .agg #[.int .i64 n, .int .i64 s, .int .i64 m, .int .i64 r], .bool half] w fun e w' => e = .returned (.bool true) ∧ Gr w w' := by
  go_enter Try.func10, Try.ntmps10
  go_wp2_with (first | (go_at_call 13; with_reducible refine (hW _).mono ?_; rintro e wa ⟨rfl, wah⟩; obtain ⟨wac, waf⟩ := wah.cells; have was := wah.size; (try simp at was); have waz : w.heap.size + 1 < wa.heap.size := (by omega); have way : w.heap.size < wa.heap.size := (by omega)) | ((go_at_call 28; with_reducible refine (hA _).mono ?_; rintro e wx ⟨rfl, wxh⟩; obtain ⟨wxc, wxf⟩ := wxh.cells; have wxs := wxh.size; (try simp at wxs); have wxz : w.heap.size + 1 < wx.heap.size := (by omega); have wxy : w.heap.size < wx.heap.size := (by omega))) | ((go_at_call 28; with_reducible refine (hB _).mono ?_; rintro e wy ⟨rfl, wyh⟩; obtain ⟨wyc, wyf⟩ := wyh.cells; have wys := wyh.size; (try simp at wys); have wyz : w.heap.size + 1 < wy.heap.size := (by omega); have wyy : w.heap.size < wy.heap.size := (by omega)); have wyx : wx.heap.size < wy.heap.size := by omega) | ((go_at_call 36; with_reducible refine (hC _).mono ?_; rintro e wz ⟨rfl, wzh⟩; obtain ⟨wzc, wzf⟩ := wzh.cells; have wzs := wzh.size; (try simp at wzs); have wzz : w.heap.size + 1 < wz.heap.size := (by omega); have wzy : w.heap.size < wz.heap.size := (by omega)); have wzx : wx.heap.size < wz.heap.size := (by omega); have wzy : wy.heap.size < wz.heap.size := (by omega)))
  go_ret
  exact ⟨rfl, (by repeat (first | exact Gr.refl _ | assumption | refine Gr.alloc ?_ _ | refine Gr.drew ?_ | refine Gr.drewN ?_ _ | refine Gr.setCell ?_ (by simp <;> omega) _ | refine Gr.trans ?_ (by assumption)))⟩
set_option maxHeartbeats 2000000 in
set_option maxRecDepth 100000 in
theorem coreMk (k l sc n s m r : Int) (half : Bool) (NA NB : Int)
    (hW : ∀ w, Calls Try.prog 13 #[] w fun e w' => e = .returned (.bool true) ∧ Gr w w')
    (hA : ∀ w, Calls Try.prog 28 #[.agg #[.int .i64 n, .int .i64 s], .agg #[.int .i64 k, .int .i64 l, .int .i64 sc], .bool half] w fun e w' => e = .returned (.tuple #[.agg #[.int .i64 NA, .string ⟨#[]⟩], .int .i64 (0)]) ∧ Gr w w')
    (hB : ∀ w, Calls Try.prog 28 #[.agg #[.int .i64 m, .int .i64 r], .agg #[.int .i64 k, .int .i64 l, .int .i64 sc], .bool half] w fun e w' => e = .returned (.tuple #[.agg #[.int .i64 NB, .string ⟨#[]⟩], .int .i64 (0)]) ∧ Gr w w')
    (hC : ∀ w, Calls Try.prog 36 #[.agg #[.int .i64 n, .int .i64 s], .agg #[.int .i64 m, .int .i64 r]] w fun e w' => e = .returned (.tuple #[.int .i64 (1), .int .i64 (0)]) ∧ Gr w w')
    (g : ¬ NA < NB) (g' : decide (NA < NB) = false) (h0 : (k != 2) = true) (w : World) :
    Calls Try.prog 10 #[.agg #[.int .i64 k, .int .i64 l, .int .i64 sc], .agg #[.int .i64 n, .int .i64 s, .int .i64 m, .int .i64 r], .bool half] w fun e w' => e = .returned (.bool true) ∧ Gr w w' := by
  go_enter Try.func10, Try.ntmps10
  go_wp2_with (first | (go_at_call 13; with_reducible refine (hW _).mono ?_; rintro e wa ⟨rfl, wah⟩; obtain ⟨wac, waf⟩ := wah.cells; have was := wah.size; (try simp at was); have waz : w.heap.size + 1 < wa.heap.size := (by omega); have way : w.heap.size < wa.heap.size := (by omega)) | ((go_at_call 28; with_reducible refine (hA _).mono ?_; rintro e wx ⟨rfl, wxh⟩; obtain ⟨wxc, wxf⟩ := wxh.cells; have wxs := wxh.size; (try simp at wxs); have wxz : w.heap.size + 1 < wx.heap.size := (by omega); have wxy : w.heap.size < wx.heap.size := (by omega))) | ((go_at_call 28; with_reducible refine (hB _).mono ?_; rintro e wy ⟨rfl, wyh⟩; obtain ⟨wyc, wyf⟩ := wyh.cells; have wys := wyh.size; (try simp at wys); have wyz : w.heap.size + 1 < wy.heap.size := (by omega); have wyy : w.heap.size < wy.heap.size := (by omega)); have wyx : wx.heap.size < wy.heap.size := by omega) | ((go_at_call 36; with_reducible refine (hC _).mono ?_; rintro e wz ⟨rfl, wzh⟩; obtain ⟨wzc, wzf⟩ := wzh.cells; have wzs := wzh.size; (try simp at wzs); have wzz : w.heap.size + 1 < wz.heap.size := (by omega); have wzy : w.heap.size < wz.heap.size := (by omega)); have wzx : wx.heap.size < wz.heap.size := (by omega); have wzy : wy.heap.size < wz.heap.size := (by omega)))
  go_ret
  exact ⟨rfl, (by repeat (first | exact Gr.refl _ | assumption | refine Gr.alloc ?_ _ | refine Gr.drew ?_ | refine Gr.drewN ?_ _ | refine Gr.setCell ?_ (by simp <;> omega) _ | refine Gr.trans ?_ (by assumption)))⟩
set_option maxHeartbeats 2000000 in
set_option maxRecDepth 100000 in
theorem coreMa (l sc n s m r : Int) (half : Bool) (NA NB : Int)
    (hW : ∀ w, Calls Try.prog 13 #[] w fun e w' => e = .returned (.bool true) ∧ Gr w w')
    (hA : ∀ w, Calls Try.prog 28 #[.agg #[.int .i64 n, .int .i64 s], .agg #[.int .i64 2, .int .i64 l, .int .i64 sc], .bool half] w fun e w' => e = .returned (.tuple #[.agg #[.int .i64 NA, .string ⟨#[]⟩], .int .i64 (0)]) ∧ Gr w w')
    (hB : ∀ w, Calls Try.prog 28 #[.agg #[.int .i64 m, .int .i64 r], .agg #[.int .i64 2, .int .i64 l, .int .i64 sc], .bool half] w fun e w' => e = .returned (.tuple #[.agg #[.int .i64 NB, .string ⟨#[]⟩], .int .i64 (0)]) ∧ Gr w w')
    (hC : ∀ w, Calls Try.prog 36 #[.agg #[.int .i64 n, .int .i64 s], .agg #[.int .i64 m, .int .i64 r]] w fun e w' => e = .returned (.tuple #[.int .i64 (1), .int .i64 (0)]) ∧ Gr w w')
    (g : ¬ NA < NB) (g' : decide (NA < NB) = false) (h0 : NA < 0) (h1 : decide (NA < 0) = true) (w : World) :
    Calls Try.prog 10 #[.agg #[.int .i64 2, .int .i64 l, .int .i64 sc], .agg #[.int .i64 n, .int .i64 s, .int .i64 m, .int .i64 r], .bool half] w fun e w' => e = .returned (.bool true) ∧ Gr w w' := by
  go_enter Try.func10, Try.ntmps10
  go_wp2_with (first | (go_at_call 13; with_reducible refine (hW _).mono ?_; rintro e wa ⟨rfl, wah⟩; obtain ⟨wac, waf⟩ := wah.cells; have was := wah.size; (try simp at was); have waz : w.heap.size + 1 < wa.heap.size := (by omega); have way : w.heap.size < wa.heap.size := (by omega)) | ((go_at_call 28; with_reducible refine (hA _).mono ?_; rintro e wx ⟨rfl, wxh⟩; obtain ⟨wxc, wxf⟩ := wxh.cells; have wxs := wxh.size; (try simp at wxs); have wxz : w.heap.size + 1 < wx.heap.size := (by omega); have wxy : w.heap.size < wx.heap.size := (by omega))) | ((go_at_call 28; with_reducible refine (hB _).mono ?_; rintro e wy ⟨rfl, wyh⟩; obtain ⟨wyc, wyf⟩ := wyh.cells; have wys := wyh.size; (try simp at wys); have wyz : w.heap.size + 1 < wy.heap.size := (by omega); have wyy : w.heap.size < wy.heap.size := (by omega)); have wyx : wx.heap.size < wy.heap.size := by omega) | ((go_at_call 36; with_reducible refine (hC _).mono ?_; rintro e wz ⟨rfl, wzh⟩; obtain ⟨wzc, wzf⟩ := wzh.cells; have wzs := wzh.size; (try simp at wzs); have wzz : w.heap.size + 1 < wz.heap.size := (by omega); have wzy : w.heap.size < wz.heap.size := (by omega)); have wzx : wx.heap.size < wz.heap.size := (by omega); have wzy : wy.heap.size < wz.heap.size := (by omega)))
  go_ret
  exact ⟨rfl, (by repeat (first | exact Gr.refl _ | assumption | refine Gr.alloc ?_ _ | refine Gr.drew ?_ | refine Gr.drewN ?_ _ | refine Gr.setCell ?_ (by simp <;> omega) _ | refine Gr.trans ?_ (by assumption)))⟩
set_option maxHeartbeats 2000000 in
set_option maxRecDepth 100000 in
theorem coreMb (l sc n s m r : Int) (half : Bool) (NA NB : Int)
    (hW : ∀ w, Calls Try.prog 13 #[] w fun e w' => e = .returned (.bool true) ∧ Gr w w')
    (hA : ∀ w, Calls Try.prog 28 #[.agg #[.int .i64 n, .int .i64 s], .agg #[.int .i64 2, .int .i64 l, .int .i64 sc], .bool half] w fun e w' => e = .returned (.tuple #[.agg #[.int .i64 NA, .string ⟨#[]⟩], .int .i64 (0)]) ∧ Gr w w')
    (hB : ∀ w, Calls Try.prog 28 #[.agg #[.int .i64 m, .int .i64 r], .agg #[.int .i64 2, .int .i64 l, .int .i64 sc], .bool half] w fun e w' => e = .returned (.tuple #[.agg #[.int .i64 NB, .string ⟨#[]⟩], .int .i64 (0)]) ∧ Gr w w')
    (hC : ∀ w, Calls Try.prog 36 #[.agg #[.int .i64 n, .int .i64 s], .agg #[.int .i64 m, .int .i64 r]] w fun e w' => e = .returned (.tuple #[.int .i64 (1), .int .i64 (0)]) ∧ Gr w w')
    (g : ¬ NA < NB) (g' : decide (NA < NB) = false) (h0 : ¬ NA < 0) (h1 : decide (NA < 0) = false) (h2 : NB < 0) (h3 : decide (NB < 0) = true) (w : World) :
    Calls Try.prog 10 #[.agg #[.int .i64 2, .int .i64 l, .int .i64 sc], .agg #[.int .i64 n, .int .i64 s, .int .i64 m, .int .i64 r], .bool half] w fun e w' => e = .returned (.bool true) ∧ Gr w w' := by
  go_enter Try.func10, Try.ntmps10
  go_wp2_with (first | (go_at_call 13; with_reducible refine (hW _).mono ?_; rintro e wa ⟨rfl, wah⟩; obtain ⟨wac, waf⟩ := wah.cells; have was := wah.size; (try simp at was); have waz : w.heap.size + 1 < wa.heap.size := (by omega); have way : w.heap.size < wa.heap.size := (by omega)) | ((go_at_call 28; with_reducible refine (hA _).mono ?_; rintro e wx ⟨rfl, wxh⟩; obtain ⟨wxc, wxf⟩ := wxh.cells; have wxs := wxh.size; (try simp at wxs); have wxz : w.heap.size + 1 < wx.heap.size := (by omega); have wxy : w.heap.size < wx.heap.size := (by omega))) | ((go_at_call 28; with_reducible refine (hB _).mono ?_; rintro e wy ⟨rfl, wyh⟩; obtain ⟨wyc, wyf⟩ := wyh.cells; have wys := wyh.size; (try simp at wys); have wyz : w.heap.size + 1 < wy.heap.size := (by omega); have wyy : w.heap.size < wy.heap.size := (by omega)); have wyx : wx.heap.size < wy.heap.size := by omega) | ((go_at_call 36; with_reducible refine (hC _).mono ?_; rintro e wz ⟨rfl, wzh⟩; obtain ⟨wzc, wzf⟩ := wzh.cells; have wzs := wzh.size; (try simp at wzs); have wzz : w.heap.size + 1 < wz.heap.size := (by omega); have wzy : w.heap.size < wz.heap.size := (by omega)); have wzx : wx.heap.size < wz.heap.size := (by omega); have wzy : wy.heap.size < wz.heap.size := (by omega)))
  go_ret
  exact ⟨rfl, (by repeat (first | exact Gr.refl _ | assumption | refine Gr.alloc ?_ _ | refine Gr.drew ?_ | refine Gr.drewN ?_ _ | refine Gr.setCell ?_ (by simp <;> omega) _ | refine Gr.trans ?_ (by assumption)))⟩
end Go.Proofs.Ytnjkoogghhckmaa.lawOrders
