/- NumericNear: for every number and every data type the law returns true (what is put into the type is near the number, cut off and half-adjusted); no condition. -/
import Derived.Test.YtmejhccdiimmlaaRr
import Derived.Test.YtmejhccdiimmlaaK
import Derived.OpenShut
import Derived.Lib.SmallJoins
namespace Go.Proofs.Ytmejhccdiimmlaa.lawNear
set_option linter.unusedSimpArgs false
set_option linter.unusedVariables false
open Go.Proofs.Ytmejhccdiimmlaa
open Go.ChangeShapes Go.WideShapes Go.ChangeAt Go.RowKit Go.Joins
set_option linter.unusedVariables false

set_option maxHeartbeats 2000000 in
set_option maxRecDepth 100000 in
theorem core00 (n s k l sc NA NB : Int)
    (hW : ∀ w, Calls Try.prog 13 #[] w fun e w' => e = .returned (.bool true) ∧ Gr w w')
    (hA : ∀ w, Calls Try.prog 28 #[.agg #[.int .i64 n, .int .i64 s], .agg #[.int .i64 k, .int .i64 l, .int .i64 sc], .bool false] w fun e w' => e = .returned (.tuple #[.agg #[.int .i64 NA, .string ⟨#[]⟩], .int .i64 (0)]) ∧ Gr w w')
    (hB : ∀ w, Calls Try.prog 28 #[.agg #[.int .i64 n, .int .i64 s], .agg #[.int .i64 k, .int .i64 l, .int .i64 sc], .bool true] w fun e w' => e = .returned (.tuple #[.agg #[.int .i64 NB, .string ⟨#[]⟩], .int .i64 (0)]) ∧ Gr w w')
    (hNA : ∀ w, Calls Try.prog 38 #[.agg #[.int .i64 n, .int .i64 s], .agg #[.int .i64 NA, .int .i64 sc], .bool false] w fun e w' => e = .returned (.bool true) ∧ Gr w w')
    (hNB : ∀ w, Calls Try.prog 38 #[.agg #[.int .i64 n, .int .i64 s], .agg #[.int .i64 NB, .int .i64 sc], .bool true] w fun e w' => e = .returned (.bool true) ∧ Gr w w') (w : World) :
    Calls Try.prog 12 #[.agg #[.int .i64 n, .int .i64 s], .agg #[.int .i64 k, .int .i64 l, .int .i64 sc]] w fun e w' => e = .returned (.bool true) ∧ Gr w w' := by
  go_enter Try.func12, Try.ntmps12
  go_wp2_with (first | (go_at_call 13; with_reducible refine (hW _).mono ?_; rintro e wa ⟨rfl, wah⟩; obtain ⟨wac, waf⟩ := wah.cells; have was := wah.size; (try simp at was); have waz : w.heap.size + 1 < wa.heap.size := (by omega); have way : w.heap.size < wa.heap.size := (by omega)) | (go_at_call 28; with_reducible refine (hA _).mono ?_; rintro e wx ⟨rfl, wxh⟩; obtain ⟨wxc, wxf⟩ := wxh.cells; have wxs := wxh.size; (try simp at wxs); have wxz : w.heap.size + 1 < wx.heap.size := (by omega); have wxy : w.heap.size < wx.heap.size := (by omega)) | ((go_at_call 28; with_reducible refine (hB _).mono ?_; rintro e wy ⟨rfl, wyh⟩; obtain ⟨wyc, wyf⟩ := wyh.cells; have wys := wyh.size; (try simp at wys); have wyz : w.heap.size + 1 < wy.heap.size := (by omega); have wyy : w.heap.size < wy.heap.size := (by omega)); have wyx : wx.heap.size < wy.heap.size := by omega) | ((go_at_call 38; with_reducible refine (hNA _).mono ?_; rintro e wn ⟨rfl, wnh⟩; obtain ⟨wnc, wnf⟩ := wnh.cells; have wns := wnh.size; (try simp at wns); have wnz : w.heap.size + 1 < wn.heap.size := (by omega); have wny : w.heap.size < wn.heap.size := (by omega)); have wnx : wx.heap.size < wn.heap.size := (by omega); have wny : wy.heap.size < wn.heap.size := (by omega)) | ((go_at_call 38; with_reducible refine (hNB _).mono ?_; rintro e wm ⟨rfl, wmh⟩; obtain ⟨wmc, wmf⟩ := wmh.cells; have wms := wmh.size; (try simp at wms); have wmz : w.heap.size + 1 < wm.heap.size := (by omega); have wmy : w.heap.size < wm.heap.size := (by omega)); have wmx : wx.heap.size < wm.heap.size := (by omega); have wmy : wy.heap.size < wm.heap.size := (by omega)))
  go_ret
  exact ⟨rfl, (by repeat (first | exact Gr.refl _ | assumption | refine Gr.alloc ?_ _ | refine Gr.drew ?_ | refine Gr.drewN ?_ _ | refine Gr.setCell ?_ (by simp <;> omega) _ | refine Gr.trans ?_ (by assumption)))⟩

set_option maxHeartbeats 2000000 in
set_option maxRecDepth 100000 in
theorem core01 (n s k l sc NA NB : Int) (EB : Int)
    (hW : ∀ w, Calls Try.prog 13 #[] w fun e w' => e = .returned (.bool true) ∧ Gr w w')
    (hA : ∀ w, Calls Try.prog 28 #[.agg #[.int .i64 n, .int .i64 s], .agg #[.int .i64 k, .int .i64 l, .int .i64 sc], .bool false] w fun e w' => e = .returned (.tuple #[.agg #[.int .i64 NA, .string ⟨#[]⟩], .int .i64 (0)]) ∧ Gr w w')
    (hB : ∀ w, Calls Try.prog 28 #[.agg #[.int .i64 n, .int .i64 s], .agg #[.int .i64 k, .int .i64 l, .int .i64 sc], .bool true] w fun e w' => e = .returned (.tuple #[.agg #[.int .i64 NB, .string ⟨#[]⟩], .int .i64 (EB)]) ∧ Gr w w')
    (hNA : ∀ w, Calls Try.prog 38 #[.agg #[.int .i64 n, .int .i64 s], .agg #[.int .i64 NA, .int .i64 sc], .bool false] w fun e w' => e = .returned (.bool true) ∧ Gr w w')
    (hB0 : (EB == 0) = false) (hB1 : (EB != 0) = true) (w : World) :
    Calls Try.prog 12 #[.agg #[.int .i64 n, .int .i64 s], .agg #[.int .i64 k, .int .i64 l, .int .i64 sc]] w fun e w' => e = .returned (.bool true) ∧ Gr w w' := by
  go_enter Try.func12, Try.ntmps12
  go_wp2_with (first | (go_at_call 13; with_reducible refine (hW _).mono ?_; rintro e wa ⟨rfl, wah⟩; obtain ⟨wac, waf⟩ := wah.cells; have was := wah.size; (try simp at was); have waz : w.heap.size + 1 < wa.heap.size := (by omega); have way : w.heap.size < wa.heap.size := (by omega)) | (go_at_call 28; with_reducible refine (hA _).mono ?_; rintro e wx ⟨rfl, wxh⟩; obtain ⟨wxc, wxf⟩ := wxh.cells; have wxs := wxh.size; (try simp at wxs); have wxz : w.heap.size + 1 < wx.heap.size := (by omega); have wxy : w.heap.size < wx.heap.size := (by omega)) | ((go_at_call 28; with_reducible refine (hB _).mono ?_; rintro e wy ⟨rfl, wyh⟩; obtain ⟨wyc, wyf⟩ := wyh.cells; have wys := wyh.size; (try simp at wys); have wyz : w.heap.size + 1 < wy.heap.size := (by omega); have wyy : w.heap.size < wy.heap.size := (by omega)); have wyx : wx.heap.size < wy.heap.size := by omega) | ((go_at_call 38; with_reducible refine (hNA _).mono ?_; rintro e wn ⟨rfl, wnh⟩; obtain ⟨wnc, wnf⟩ := wnh.cells; have wns := wnh.size; (try simp at wns); have wnz : w.heap.size + 1 < wn.heap.size := (by omega); have wny : w.heap.size < wn.heap.size := (by omega)); have wnx : wx.heap.size < wn.heap.size := (by omega); have wny : wy.heap.size < wn.heap.size := (by omega)))
  go_ret
  exact ⟨rfl, (by repeat (first | exact Gr.refl _ | assumption | refine Gr.alloc ?_ _ | refine Gr.drew ?_ | refine Gr.drewN ?_ _ | refine Gr.setCell ?_ (by simp <;> omega) _ | refine Gr.trans ?_ (by assumption)))⟩

set_option maxHeartbeats 2000000 in
set_option maxRecDepth 100000 in
theorem core10 (n s k l sc NA NB : Int) (EA : Int)
    (hW : ∀ w, Calls Try.prog 13 #[] w fun e w' => e = .returned (.bool true) ∧ Gr w w')
    (hA : ∀ w, Calls Try.prog 28 #[.agg #[.int .i64 n, .int .i64 s], .agg #[.int .i64 k, .int .i64 l, .int .i64 sc], .bool false] w fun e w' => e = .returned (.tuple #[.agg #[.int .i64 NA, .string ⟨#[]⟩], .int .i64 (EA)]) ∧ Gr w w')
    (hB : ∀ w, Calls Try.prog 28 #[.agg #[.int .i64 n, .int .i64 s], .agg #[.int .i64 k, .int .i64 l, .int .i64 sc], .bool true] w fun e w' => e = .returned (.tuple #[.agg #[.int .i64 NB, .string ⟨#[]⟩], .int .i64 (0)]) ∧ Gr w w')
    (hNB : ∀ w, Calls Try.prog 38 #[.agg #[.int .i64 n, .int .i64 s], .agg #[.int .i64 NB, .int .i64 sc], .bool true] w fun e w' => e = .returned (.bool true) ∧ Gr w w')
    (hA0 : (EA == 0) = false) (hA1 : (EA != 0) = true) (w : World) :
    Calls Try.prog 12 #[.agg #[.int .i64 n, .int .i64 s], .agg #[.int .i64 k, .int .i64 l, .int .i64 sc]] w fun e w' => e = .returned (.bool true) ∧ Gr w w' := by
  go_enter Try.func12, Try.ntmps12
  go_wp2_with (first | (go_at_call 13; with_reducible refine (hW _).mono ?_; rintro e wa ⟨rfl, wah⟩; obtain ⟨wac, waf⟩ := wah.cells; have was := wah.size; (try simp at was); have waz : w.heap.size + 1 < wa.heap.size := (by omega); have way : w.heap.size < wa.heap.size := (by omega)) | (go_at_call 28; with_reducible refine (hA _).mono ?_; rintro e wx ⟨rfl, wxh⟩; obtain ⟨wxc, wxf⟩ := wxh.cells; have wxs := wxh.size; (try simp at wxs); have wxz : w.heap.size + 1 < wx.heap.size := (by omega); have wxy : w.heap.size < wx.heap.size := (by omega)) | ((go_at_call 28; with_reducible refine (hB _).mono ?_; rintro e wy ⟨rfl, wyh⟩; obtain ⟨wyc, wyf⟩ := wyh.cells; have wys := wyh.size; (try simp at wys); have wyz : w.heap.size + 1 < wy.heap.size := (by omega); have wyy : w.heap.size < wy.heap.size := (by omega)); have wyx : wx.heap.size < wy.heap.size := by omega) | ((go_at_call 38; with_reducible refine (hNB _).mono ?_; rintro e wm ⟨rfl, wmh⟩; obtain ⟨wmc, wmf⟩ := wmh.cells; have wms := wmh.size; (try simp at wms); have wmz : w.heap.size + 1 < wm.heap.size := (by omega); have wmy : w.heap.size < wm.heap.size := (by omega)); have wmx : wx.heap.size < wm.heap.size := (by omega); have wmy : wy.heap.size < wm.heap.size := (by omega)))
  go_ret
  exact ⟨rfl, (by repeat (first | exact Gr.refl _ | assumption | refine Gr.alloc ?_ _ | refine Gr.drew ?_ | refine Gr.drewN ?_ _ | refine Gr.setCell ?_ (by simp <;> omega) _ | refine Gr.trans ?_ (by assumption)))⟩

set_option maxHeartbeats 2000000 in
set_option maxRecDepth 100000 in
theorem core11 (n s k l sc NA NB : Int) (EA : Int) (EB : Int)
    (hW : ∀ w, Calls Try.prog 13 #[] w fun e w' => e = .returned (.bool true) ∧ Gr w w')
    (hA : ∀ w, Calls Try.prog 28 #[.agg #[.int .i64 n, .int .i64 s], .agg #[.int .i64 k, .int .i64 l, .int .i64 sc], .bool false] w fun e w' => e = .returned (.tuple #[.agg #[.int .i64 NA, .string ⟨#[]⟩], .int .i64 (EA)]) ∧ Gr w w')
    (hB : ∀ w, Calls Try.prog 28 #[.agg #[.int .i64 n, .int .i64 s], .agg #[.int .i64 k, .int .i64 l, .int .i64 sc], .bool true] w fun e w' => e = .returned (.tuple #[.agg #[.int .i64 NB, .string ⟨#[]⟩], .int .i64 (EB)]) ∧ Gr w w')
    (hA0 : (EA == 0) = false) (hA1 : (EA != 0) = true)
    (hB0 : (EB == 0) = false) (hB1 : (EB != 0) = true) (w : World) :
    Calls Try.prog 12 #[.agg #[.int .i64 n, .int .i64 s], .agg #[.int .i64 k, .int .i64 l, .int .i64 sc]] w fun e w' => e = .returned (.bool true) ∧ Gr w w' := by
  go_enter Try.func12, Try.ntmps12
  go_wp2_with (first | (go_at_call 13; with_reducible refine (hW _).mono ?_; rintro e wa ⟨rfl, wah⟩; obtain ⟨wac, waf⟩ := wah.cells; have was := wah.size; (try simp at was); have waz : w.heap.size + 1 < wa.heap.size := (by omega); have way : w.heap.size < wa.heap.size := (by omega)) | (go_at_call 28; with_reducible refine (hA _).mono ?_; rintro e wx ⟨rfl, wxh⟩; obtain ⟨wxc, wxf⟩ := wxh.cells; have wxs := wxh.size; (try simp at wxs); have wxz : w.heap.size + 1 < wx.heap.size := (by omega); have wxy : w.heap.size < wx.heap.size := (by omega)) | ((go_at_call 28; with_reducible refine (hB _).mono ?_; rintro e wy ⟨rfl, wyh⟩; obtain ⟨wyc, wyf⟩ := wyh.cells; have wys := wyh.size; (try simp at wys); have wyz : w.heap.size + 1 < wy.heap.size := (by omega); have wyy : w.heap.size < wy.heap.size := (by omega)); have wyx : wx.heap.size < wy.heap.size := by omega))
  go_ret
  exact ⟨rfl, (by repeat (first | exact Gr.refl _ | assumption | refine Gr.alloc ?_ _ | refine Gr.drew ?_ | refine Gr.drewN ?_ _ | refine Gr.setCell ?_ (by simp <;> omega) _ | refine Gr.trans ?_ (by assumption)))⟩

theorem law (n s k l sc : Int) (_w0 : (Lit.int .i64 n).wf = true) (_w1 : (Lit.int .i64 s).wf = true) (_w2 : (Lit.int .i64 k).wf = true) (_w3 : (Lit.int .i64 l).wf = true) (_w4 : (Lit.int .i64 sc).wf = true) (w : World) :
    Calls Try.prog 12 #[.agg #[.int .i64 n, .int .i64 s], .agg #[.int .i64 k, .int .i64 l, .int .i64 sc]] w fun e w' => e = .returned (.bool true) ∧ Gr w w' := by
  have hA := Converted_any n s k l sc false
  have hB := Converted_any n s k l sc true
  by_cases a0 : cvE n s k l sc false = 0
  · have hNA := near_cv a0
    rw [a0] at hA
    by_cases b0 : cvE n s k l sc true = 0
    · have hNB := near_cv b0
      rw [b0] at hB
      exact core00 n s k l sc _ _ awake_any hA hB hNA hNB w
    · exact core01 n s k l sc _ _ _ awake_any hA hB hNA (by simp [b0]) (by simp [b0]) w
  · by_cases b0 : cvE n s k l sc true = 0
    · have hNB := near_cv b0
      rw [b0] at hB
      exact core10 n s k l sc _ _ _ awake_any hA hB hNB (by simp [a0]) (by simp [a0]) w
    · exact core11 n s k l sc _ _ _ _ awake_any hA hB (by simp [a0]) (by simp [a0]) (by simp [b0]) (by simp [b0]) w


theorem own : ownKnob Try.prog.godebug = none := by kernel_rfl
theorem cells_dt : Try.prog.cellsOf 23 = 3 := by kernel_rfl
theorem cells_nu : Try.prog.cellsOf 48 = 2 := by kernel_rfl
set_option maxRecDepth 100000 in
theorem lifted (os : Os) (started : os.Started) (H : Type) (enc : TypeId × Value → H) :
    ReturnsInHanded {} Try.checked os 12 .any (Rows.numericNearSpec.pre6 enc Try.prog Try.f12 Rows.numericNearRow.domain false) (Rows.numericNearSpec.post enc Try.prog Try.f12 false true false false) := by
  refine returnsInHanded_of_change (C := Try.checked) own started (by kernel_rfl) Try.func12
    (ChangeSpec.witness6 (enc := enc) (C := Try.checked) false ⟨#[], #[.agg #[.int .i64 0, .int .i64 0], .agg #[.int .i64 0, .int .i64 0, .int .i64 0]], []⟩ 8 (by kernel_rfl) (by kernel_rfl) (by kernel_rfl) (by kernel_rfl)) ?_
  intro W base args ds gs before hval0 hW hcnd _
  have hval : ∀ (j : Nat) t v, Try.f12.params[j]? = some t → args[j]? = some v → Value.okWide Try.prog W .any base t v := hval0
  have hW' := hW
  obtain ⟨p, q, hA0, hV, rfl, hfz, hnd⟩ := hW
  have hA : DataW.TrodAll enc Try.prog W 0 (fun _ => true) true Try.f12.params.toList args.toList ds p := hA0
  rw [Try.params12] at hA hval
  obtain ⟨v0, vs0, d0, ds0, p0, q0, hargs, rfl, rfl, h0, r0⟩ := trodAll_cons hA
  obtain ⟨v1, vs1, d1, ds1, p1, q1, rfl, rfl, rfl, h1, r1⟩ := trodAll_cons r0
  obtain ⟨rfl, rfl, rfl⟩ := trodAll_nil r1
  obtain rfl : args = #[v0, v1] := by cases args; simp_all
  obtain ⟨rfl, rfl⟩ := trodVars_none hV
  obtain ⟨c00, c01, y00, y01, m0, rfl, rfl, rfl, g00, g01⟩ := open_agg2 Try.underlying48 (by kernel_rfl) cells_nu (hval 0 48 v0 rfl rfl) h0
  obtain ⟨a00, e00, rfl, w00⟩ := DataW.trod_int Try.underlying3 g00
  obtain ⟨a01, e01, rfl, w01⟩ := DataW.trod_int Try.underlying3 g01
  simp at e00 e01
  subst e00 e01
  obtain ⟨c10, c11, c12, y10, y11, y12, m1, rfl, rfl, rfl, g10, g11, g12⟩ := open_agg3 Try.underlying23 (by kernel_rfl) cells_dt (hval 1 23 v1 rfl rfl) h1
  obtain ⟨a10, e10, rfl, w10⟩ := DataW.trod_int Try.underlying3 g10
  obtain ⟨a11, e11, rfl, w11⟩ := DataW.trod_int Try.underlying3 g11
  obtain ⟨a12, e12, rfl, w12⟩ := DataW.trod_int Try.underlying3 g12
  simp at e10 e11 e12
  subst e10 e11 e12
  clear hA0 hval0
  simp only [List.append_nil] at hW'
  refine (law a00 a01 a10 a11 a12 w00 w01 w10 w11 w12 W).mono fun e W' ⟨he, hg⟩ => ?_
  subst he
  have hB : Below W.heap.size W W' := hg
  exact ⟨_, rfl, _, _, _, [], [], [], hW', (trodAll_cons_mk (shut_bool Try.underlying4 _) trodAll_mk0), (trodAll_cons_mk (shut_agg2 (y0 := (.lit (.int .i64 a00), [])) (y1 := (.lit (.int .i64 a01), [])) Try.underlying48 (by kernel_rfl) cells_nu ⟨1, by simp [DataW.trod, Try.underlying3, w00]⟩ ⟨1, by simp [DataW.trod, Try.underlying3, w01]⟩) (trodAll_cons_mk (shut_agg3 (y0 := (.lit (.int .i64 a10), [])) (y1 := (.lit (.int .i64 a11), [])) (y2 := (.lit (.int .i64 a12), [])) Try.underlying23 (by kernel_rfl) cells_dt ⟨1, by simp [DataW.trod, Try.underlying3, w10]⟩ ⟨1, by simp [DataW.trod, Try.underlying3, w11]⟩ ⟨1, by simp [DataW.trod, Try.underlying3, w12]⟩) trodAll_mk0)), rfl, hB.frame _, fun h => by cases h⟩

theorem proved : Rows.NumericNearSaid :=
  OpenClaim.holds_of_wide 12 Try.f12 rfl rfl rfl rfl rfl rfl rfl ⟨rfl, rfl, rfl, rfl, rfl⟩ rfl rfl rfl rfl rfl (by kernel_rfl) Try.func12 (by kernel_rfl)
    (of_decide_eq_true (by kernel_rfl)) (by unfold Func.isWrapper; first | (rw [if_pos (by decide +kernel)]; kernel_rfl) | (rw [if_neg (by decide +kernel)]; exact ⟨rfl, rfl⟩))
    (fun os started H enc _ => lifted os started H enc)
#print axioms proved

end Go.Proofs.Ytmejhccdiimmlaa.lawNear
