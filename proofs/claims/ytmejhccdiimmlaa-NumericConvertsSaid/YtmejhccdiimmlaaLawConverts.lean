/- NumericConverts: for every number and every data type, rounded or cut off, the law returns true (the program's value, or error, is the reference's); no condition. -/
import Derived.Test.YtmejhccdiimmlaaRm
import Derived.Test.YtmejhccdiimmlaaK
import Derived.OpenShut
import Derived.Lib.SmallJoins
namespace Go.Proofs.Ytmejhccdiimmlaa.lawConverts
set_option linter.unusedSimpArgs false
set_option linter.unusedVariables false
open Go.Proofs.Ytmejhccdiimmlaa
open Go.ChangeShapes Go.WideShapes Go.ChangeAt Go.RowKit Go.Joins
set_option linter.unusedVariables false

set_option maxHeartbeats 2000000 in
set_option maxRecDepth 100000 in
theorem coreE (n s k l sc : Int) (half : Bool) (E : Int)
    (hW : ∀ w, Calls Try.prog 13 #[] w fun e w' => e = .returned (.bool true) ∧ Gr w w')
    (hA : ∀ w, Calls Try.prog 28 #[.agg #[.int .i64 n, .int .i64 s], .agg #[.int .i64 k, .int .i64 l, .int .i64 sc], .bool half] w fun e w' => e = .returned (.tuple #[.agg #[.int .i64 0, .string ⟨#[]⟩], .int .i64 E]) ∧ Gr w w')
    (hB : ∀ w, Calls Try.prog 29 #[.agg #[.int .i64 n, .int .i64 s], .agg #[.int .i64 k, .int .i64 l, .int .i64 sc], .bool half] w fun e w' => e = .returned (.tuple #[.agg #[.int .i64 0, .string ⟨#[]⟩], .int .i64 E]) ∧ Gr w w')
    (h0 : (E != 0) = true) (w : World) :
    Calls Try.prog 6 #[.agg #[.int .i64 n, .int .i64 s], .agg #[.int .i64 k, .int .i64 l, .int .i64 sc], .bool half] w fun e w' => e = .returned (.bool true) ∧ Gr w w' := by
  go_enter Try.func6, Try.ntmps6
  go_wp2_with (first | (go_at_call 13; with_reducible refine (hW _).mono ?_; rintro e wa ⟨rfl, wah⟩; obtain ⟨wac, waf⟩ := wah.cells; have was := wah.size; (try simp at was); have waz : w.heap.size + 1 < wa.heap.size := (by omega); have way : w.heap.size < wa.heap.size := (by omega)) | (go_at_call 28; with_reducible refine (hA _).mono ?_; rintro e wx ⟨rfl, wxh⟩; obtain ⟨wxc, wxf⟩ := wxh.cells; have wxs := wxh.size; (try simp at wxs); have wxz : w.heap.size + 1 < wx.heap.size := (by omega); have wxy : w.heap.size < wx.heap.size := (by omega)) | ((go_at_call 29; with_reducible refine (hB _).mono ?_; rintro e wy ⟨rfl, wyh⟩; obtain ⟨wyc, wyf⟩ := wyh.cells; have wys := wyh.size; (try simp at wys); have wyz : w.heap.size + 1 < wy.heap.size := (by omega); have wyy : w.heap.size < wy.heap.size := (by omega)); have wyx : wx.heap.size < wy.heap.size := by omega))
  go_ret
  exact ⟨rfl, (by repeat (first | exact Gr.refl _ | assumption | refine Gr.alloc ?_ _ | refine Gr.drew ?_ | refine Gr.drewN ?_ _ | refine Gr.setCell ?_ (by simp <;> omega) _ | refine Gr.trans ?_ (by assumption)))⟩
set_option maxHeartbeats 2000000 in
set_option maxRecDepth 100000 in
theorem coreN (n s k l sc : Int) (half : Bool) (N : Int)
    (hW : ∀ w, Calls Try.prog 13 #[] w fun e w' => e = .returned (.bool true) ∧ Gr w w')
    (hA : ∀ w, Calls Try.prog 28 #[.agg #[.int .i64 n, .int .i64 s], .agg #[.int .i64 k, .int .i64 l, .int .i64 sc], .bool half] w fun e w' => e = .returned (.tuple #[.agg #[.int .i64 N, .string ⟨#[]⟩], .int .i64 0]) ∧ Gr w w')
    (hB : ∀ w, Calls Try.prog 29 #[.agg #[.int .i64 n, .int .i64 s], .agg #[.int .i64 k, .int .i64 l, .int .i64 sc], .bool half] w fun e w' => e = .returned (.tuple #[.agg #[.int .i64 N, .string ⟨#[]⟩], .int .i64 0]) ∧ Gr w w') (w : World) :
    Calls Try.prog 6 #[.agg #[.int .i64 n, .int .i64 s], .agg #[.int .i64 k, .int .i64 l, .int .i64 sc], .bool half] w fun e w' => e = .returned (.bool true) ∧ Gr w w' := by
  go_enter Try.func6, Try.ntmps6
  go_wp2_with (first | (go_at_call 13; with_reducible refine (hW _).mono ?_; rintro e wa ⟨rfl, wah⟩; obtain ⟨wac, waf⟩ := wah.cells; have was := wah.size; (try simp at was); have waz : w.heap.size + 1 < wa.heap.size := (by omega); have way : w.heap.size < wa.heap.size := (by omega)) | (go_at_call 28; with_reducible refine (hA _).mono ?_; rintro e wx ⟨rfl, wxh⟩; obtain ⟨wxc, wxf⟩ := wxh.cells; have wxs := wxh.size; (try simp at wxs); have wxz : w.heap.size + 1 < wx.heap.size := (by omega); have wxy : w.heap.size < wx.heap.size := (by omega)) | ((go_at_call 29; with_reducible refine (hB _).mono ?_; rintro e wy ⟨rfl, wyh⟩; obtain ⟨wyc, wyf⟩ := wyh.cells; have wys := wyh.size; (try simp at wys); have wyz : w.heap.size + 1 < wy.heap.size := (by omega); have wyy : w.heap.size < wy.heap.size := (by omega)); have wyx : wx.heap.size < wy.heap.size := by omega))
  go_ret
  exact ⟨rfl, (by repeat (first | exact Gr.refl _ | assumption | refine Gr.alloc ?_ _ | refine Gr.drew ?_ | refine Gr.drewN ?_ _ | refine Gr.setCell ?_ (by simp <;> omega) _ | refine Gr.trans ?_ (by assumption)))⟩

theorem cvN_zero {n s k l sc : Int} {half : Bool} (h : cvE n s k l sc half ≠ 0) : cvN n s k l sc half = 0 := by
  unfold cvE cvN at *
  by_cases e : cvErr n s k l sc = 0
  · rw [if_neg (by simp [e])] at h ⊢
    unfold pE at h; unfold pN
    split at h
    · rename_i g; rw [if_pos g]
    · exact absurd rfl h
  · rw [if_pos e]
theorem law (n s k l sc : Int) (half : Bool) (_w0 : (Lit.int .i64 n).wf = true) (_w1 : (Lit.int .i64 s).wf = true) (_w2 : (Lit.int .i64 k).wf = true) (_w3 : (Lit.int .i64 l).wf = true) (_w4 : (Lit.int .i64 sc).wf = true) (w : World) :
    Calls Try.prog 6 #[.agg #[.int .i64 n, .int .i64 s], .agg #[.int .i64 k, .int .i64 l, .int .i64 sc], .bool half] w fun e w' => e = .returned (.bool true) ∧ Gr w w' := by
  have hA := Converted_any n s k l sc half
  have hB := refConverted_any n s k l sc half
  by_cases h : cvE n s k l sc half = 0
  · rw [h] at hA hB
    exact coreN n s k l sc half _ awake_any hA hB w
  · rw [cvN_zero h] at hA hB
    exact coreE n s k l sc half _ awake_any hA hB (by simp [h]) w

theorem own : ownKnob Try.prog.godebug = none := by kernel_rfl
theorem cells_dt : Try.prog.cellsOf 23 = 3 := by kernel_rfl
theorem cells_nu : Try.prog.cellsOf 48 = 2 := by kernel_rfl
set_option maxRecDepth 100000 in
theorem lifted (os : Os) (started : os.Started) (H : Type) (enc : TypeId × Value → H) :
    ReturnsInHanded {} Try.checked os 6 .any (Rows.numericConvertsSpec.pre6 enc Try.prog Try.f6 Rows.numericConvertsRow.domain false) (Rows.numericConvertsSpec.post enc Try.prog Try.f6 false true false false) := by
  refine returnsInHanded_of_change (C := Try.checked) own started (by kernel_rfl) Try.func6
    (ChangeSpec.witness6 (enc := enc) (C := Try.checked) false ⟨#[], #[.agg #[.int .i64 0, .int .i64 0], .agg #[.int .i64 0, .int .i64 0, .int .i64 0], .bool false], []⟩ 8 (by kernel_rfl) (by kernel_rfl) (by kernel_rfl) (by kernel_rfl)) ?_
  intro W base args ds gs before hval0 hW hcnd _
  have hval : ∀ (j : Nat) t v, Try.f6.params[j]? = some t → args[j]? = some v → Value.okWide Try.prog W .any base t v := hval0
  have hW' := hW
  obtain ⟨p, q, hA0, hV, rfl, hfz, hnd⟩ := hW
  have hA : DataW.TrodAll enc Try.prog W 0 (fun _ => true) true Try.f6.params.toList args.toList ds p := hA0
  rw [Try.params6] at hA hval
  obtain ⟨v0, vs0, d0, ds0, p0, q0, hargs, rfl, rfl, h0, r0⟩ := trodAll_cons hA
  obtain ⟨v1, vs1, d1, ds1, p1, q1, rfl, rfl, rfl, h1, r1⟩ := trodAll_cons r0
  obtain ⟨v2, vs2, d2, ds2, p2, q2, rfl, rfl, rfl, h2, r2⟩ := trodAll_cons r1
  obtain ⟨rfl, rfl, rfl⟩ := trodAll_nil r2
  obtain rfl : args = #[v0, v1, v2] := by cases args; simp_all
  obtain ⟨rfl, rfl⟩ := trodVars_none hV
  obtain ⟨c00, c01, y00, y01, m0, rfl, rfl, rfl, g00, g01⟩ := open_agg2 Try.underlying48 (by kernel_rfl) cells_nu (hval 0 48 v0 rfl rfl) h0
  obtain ⟨a00, e00, rfl, w00⟩ := DataW.trod_int Try.underlying3 g00
  obtain ⟨a01, e01, rfl, w01⟩ := DataW.trod_int Try.underlying3 g01
  simp at e00 e01
  subst e00 e01
  obtain ⟨c10, c11, c12, y10, y11, y12, m1, rfl, rfl, rfl, g10, g11, g12⟩ := open_agg3 Try.underlying23 (by kernel_rfl) cells_dt (hval 1 23 v1 rfl rfl) h1
  obtain ⟨a10, e10, rfl, w10⟩ := DataW.trod_int Try.underlying3 g10
  obtain ⟨a11, e11, rfl, w11⟩ := DataW.trod_int Try.underlying3 g11
  obtain ⟨a12, e12, rfl, w12⟩ := DataW.trod_int Try.underlying3 g12
  simp at e10 e11 e12
  subst e10 e11 e12
  obtain ⟨a2, rfl, rfl, rfl⟩ := open_bool Try.underlying4 (hval 2 4 v2 rfl rfl) h2
  clear hA0 hval0
  simp only [List.append_nil] at hW'
  refine (law a00 a01 a10 a11 a12 a2 w00 w01 w10 w11 w12 W).mono fun e W' ⟨he, hg⟩ => ?_
  subst he
  have hB : Below W.heap.size W W' := hg
  exact ⟨_, rfl, _, _, _, [], [], [], hW', (trodAll_cons_mk (shut_bool Try.underlying4 _) trodAll_mk0), (trodAll_cons_mk (shut_agg2 (y0 := (.lit (.int .i64 a00), [])) (y1 := (.lit (.int .i64 a01), [])) Try.underlying48 (by kernel_rfl) cells_nu ⟨1, by simp [DataW.trod, Try.underlying3, w00]⟩ ⟨1, by simp [DataW.trod, Try.underlying3, w01]⟩) (trodAll_cons_mk (shut_agg3 (y0 := (.lit (.int .i64 a10), [])) (y1 := (.lit (.int .i64 a11), [])) (y2 := (.lit (.int .i64 a12), [])) Try.underlying23 (by kernel_rfl) cells_dt ⟨1, by simp [DataW.trod, Try.underlying3, w10]⟩ ⟨1, by simp [DataW.trod, Try.underlying3, w11]⟩ ⟨1, by simp [DataW.trod, Try.underlying3, w12]⟩) (trodAll_cons_mk (shut_bool Try.underlying4 _) trodAll_mk0))), rfl, hB.frame _, fun h => by cases h⟩

theorem proved : Rows.NumericConvertsSaid :=
  OpenClaim.holds_of_wide 6 Try.f6 rfl rfl rfl rfl rfl rfl rfl ⟨rfl, rfl, rfl, rfl, rfl⟩ rfl rfl rfl rfl rfl (by kernel_rfl) Try.func6 (by kernel_rfl)
    (of_decide_eq_true (by kernel_rfl)) (by unfold Func.isWrapper; first | (rw [if_pos (by decide +kernel)]; kernel_rfl) | (rw [if_neg (by decide +kernel)]; exact ⟨rfl, rfl⟩))
    (fun os started H enc _ => lifted os started H enc)
#print axioms proved

end Go.Proofs.Ytmejhccdiimmlaa.lawConverts
