/- NumericCalculates: for every operation, all pairs of numbers and every data type, rounded or cut off, the law returns true (the program's value, or error, is the reference's); no condition. -/
import Derived.Test.YtnaflaokhldfnaaQ29
import Derived.Test.YtnaflaokhldfnaaQ32
import Derived.Test.YtnaflaokhldfnaaQ33
import Derived.Test.YtnaflaokhldfnaaQ34
import Derived.Test.YtnaflaokhldfnaaQ35
import Derived.Test.YtnaflaokhldfnaaQ37
namespace Go.Proofs.Ytnaflaokhldfnaa.lawCalculates
set_option linter.unusedSimpArgs false
set_option linter.unusedVariables false
open Go.Proofs.Ytnaflaokhldfnaa
open Go.ChangeShapes Go.WideShapes Go.ChangeAt Go.RowKit Go.Joins Go.Deep
set_option linter.unusedVariables false

set_option maxHeartbeats 2000000 in
set_option maxRecDepth 100000 in
theorem coreE (op n s m t k l sc : Int) (half : Bool) (E : Int)
    (hW : ∀ w, Calls Try.prog 7 #[] w fun e w' => e = .returned (.bool true) ∧ Gr w w')
    (hA : ∀ w, Calls Try.prog 8 #[.int .i64 op, .agg #[.int .i64 n, .int .i64 s], .agg #[.int .i64 m, .int .i64 t], .agg #[.int .i64 k, .int .i64 l, .int .i64 sc], .bool half] w fun e w' => e = .returned (.tuple #[.agg #[.int .i64 0, .string ⟨#[]⟩], .int .i64 E]) ∧ Gr w w')
    (hB : ∀ w, Calls Try.prog 9 #[.agg #[.int .i64 op, .int .i64 k, .int .i64 l, .int .i64 sc, .bool half], .agg #[.int .i64 n, .int .i64 s], .agg #[.int .i64 m, .int .i64 t]] w fun e w' => e = .returned (.tuple #[.agg #[.int .i64 0, .string ⟨#[]⟩], .int .i64 E]) ∧ Gr w w')
    (h0 : (E != 0) = true) (w : World) :
    Calls Try.prog 3 #[.agg #[.int .i64 op, .int .i64 k, .int .i64 l, .int .i64 sc, .bool half], .agg #[.int .i64 n, .int .i64 s, .int .i64 m, .int .i64 t]] w fun e w' => e = .returned (.bool true) ∧ Gr w w' := by
  go_enter Try.func3, Try.ntmps3
  go_wp2_with (first | (go_at_call 7; with_reducible refine (hW _).mono ?_; rintro e wa ⟨rfl, wah⟩; obtain ⟨wac, waf⟩ := wah.cells; have was := wah.size; (try simp at was); have waz : w.heap.size + 1 < wa.heap.size := (by omega); have way : w.heap.size < wa.heap.size := (by omega)) | (go_at_call 8; with_reducible refine (hA _).mono ?_; rintro e wx ⟨rfl, wxh⟩; obtain ⟨wxc, wxf⟩ := wxh.cells; have wxs := wxh.size; (try simp at wxs); have wxz : w.heap.size + 1 < wx.heap.size := (by omega); have wxy : w.heap.size < wx.heap.size := (by omega)) | ((go_at_call 9; with_reducible refine (hB _).mono ?_; rintro e wy ⟨rfl, wyh⟩; obtain ⟨wyc, wyf⟩ := wyh.cells; have wys := wyh.size; (try simp at wys); have wyz : w.heap.size + 1 < wy.heap.size := (by omega); have wyy : w.heap.size < wy.heap.size := (by omega)); have wyx : wx.heap.size < wy.heap.size := by omega))
  go_ret
  exact ⟨rfl, (by repeat (first | (with_reducible exact Gr.refl _) | (with_reducible assumption) | (with_reducible refine Gr.alloc ?_ _) | (with_reducible refine Gr.drew ?_) | (with_reducible refine Gr.drewN ?_ _) | (with_reducible refine Gr.setCell ?_ (by simp <;> omega) _) | (with_reducible refine Gr.trans ?_ (by with_reducible assumption)) | exact Gr.refl _ | assumption | refine Gr.alloc ?_ _ | refine Gr.drew ?_ | refine Gr.drewN ?_ _ | refine Gr.setCell ?_ (by simp <;> omega) _ | refine Gr.trans ?_ (by assumption)))⟩
set_option maxHeartbeats 2000000 in
set_option maxRecDepth 100000 in
theorem coreN (op n s m t k l sc : Int) (half : Bool) (N : Int)
    (hW : ∀ w, Calls Try.prog 7 #[] w fun e w' => e = .returned (.bool true) ∧ Gr w w')
    (hA : ∀ w, Calls Try.prog 8 #[.int .i64 op, .agg #[.int .i64 n, .int .i64 s], .agg #[.int .i64 m, .int .i64 t], .agg #[.int .i64 k, .int .i64 l, .int .i64 sc], .bool half] w fun e w' => e = .returned (.tuple #[.agg #[.int .i64 N, .string ⟨#[]⟩], .int .i64 0]) ∧ Gr w w')
    (hB : ∀ w, Calls Try.prog 9 #[.agg #[.int .i64 op, .int .i64 k, .int .i64 l, .int .i64 sc, .bool half], .agg #[.int .i64 n, .int .i64 s], .agg #[.int .i64 m, .int .i64 t]] w fun e w' => e = .returned (.tuple #[.agg #[.int .i64 N, .string ⟨#[]⟩], .int .i64 0]) ∧ Gr w w')
    (w : World) :
    Calls Try.prog 3 #[.agg #[.int .i64 op, .int .i64 k, .int .i64 l, .int .i64 sc, .bool half], .agg #[.int .i64 n, .int .i64 s, .int .i64 m, .int .i64 t]] w fun e w' => e = .returned (.bool true) ∧ Gr w w' := by
  go_enter Try.func3, Try.ntmps3
  go_wp2_with (first | (go_at_call 7; with_reducible refine (hW _).mono ?_; rintro e wa ⟨rfl, wah⟩; obtain ⟨wac, waf⟩ := wah.cells; have was := wah.size; (try simp at was); have waz : w.heap.size + 1 < wa.heap.size := (by omega); have way : w.heap.size < wa.heap.size := (by omega)) | (go_at_call 8; with_reducible refine (hA _).mono ?_; rintro e wx ⟨rfl, wxh⟩; obtain ⟨wxc, wxf⟩ := wxh.cells; have wxs := wxh.size; (try simp at wxs); have wxz : w.heap.size + 1 < wx.heap.size := (by omega); have wxy : w.heap.size < wx.heap.size := (by omega)) | ((go_at_call 9; with_reducible refine (hB _).mono ?_; rintro e wy ⟨rfl, wyh⟩; obtain ⟨wyc, wyf⟩ := wyh.cells; have wys := wyh.size; (try simp at wys); have wyz : w.heap.size + 1 < wy.heap.size := (by omega); have wyy : w.heap.size < wy.heap.size := (by omega)); have wyx : wx.heap.size < wy.heap.size := by omega))
  go_ret
  exact ⟨rfl, (by repeat (first | (with_reducible exact Gr.refl _) | (with_reducible assumption) | (with_reducible refine Gr.alloc ?_ _) | (with_reducible refine Gr.drew ?_) | (with_reducible refine Gr.drewN ?_ _) | (with_reducible refine Gr.setCell ?_ (by simp <;> omega) _) | (with_reducible refine Gr.trans ?_ (by with_reducible assumption)) | exact Gr.refl _ | assumption | refine Gr.alloc ?_ _ | refine Gr.drew ?_ | refine Gr.drewN ?_ _ | refine Gr.setCell ?_ (by simp <;> omega) _ | refine Gr.trans ?_ (by assumption)))⟩
theorem caN_zero {op n s m t k l sc : Int} {half : Bool} (h : caE op n s m t k l sc half ≠ 0) : caN op n s m t k l sc half = 0 := by
  unfold caE caN at *
  by_cases e : caErr op n s m t k l sc = 0
  · rw [if_neg (by simp [e])] at h ⊢
    unfold pE at h; unfold pN
    split at h
    · rename_i g; rw [if_pos g]
    · exact absurd rfl h
  · rw [if_pos e]
theorem law (op k l sc : Int) (half : Bool) (n s m t : Int) (w : World) :
    Calls Try.prog 3 #[.agg #[.int .i64 op, .int .i64 k, .int .i64 l, .int .i64 sc, .bool half], .agg #[.int .i64 n, .int .i64 s, .int .i64 m, .int .i64 t]] w fun e w' => e = .returned (.bool true) ∧ Gr w w' := by
  have hA := Calculated_any remOk op n s m t k l sc half
  have hB := refCalculated_any op n s m t k l sc half
  by_cases h : caE op n s m t k l sc half = 0
  · rw [h] at hA hB
    exact coreN op n s m t k l sc half _ awake_any hA hB w
  · rw [caN_zero h] at hA hB
    exact coreE op n s m t k l sc half _ awake_any hA hB (by simp [h]) w

set_option maxRecDepth 100000 in
theorem lifted (os : Os) (started : os.Started) (H : Type) (enc : TypeId × Value → H) :
    ReturnsInHanded {} Try.checked os 3 .any (Rows.numericCalculatesSpec.pre6 enc Try.prog Try.f3 Rows.numericCalculatesRow.domain false) (Rows.numericCalculatesSpec.post enc Try.prog Try.f3 false true false false) := by
  refine returnsInHanded_of_change (C := Try.checked) own_knob started (by kernel_rfl) Try.func3
    (ChangeSpec.witness6 (enc := enc) (C := Try.checked) false ⟨#[], #[.agg #[.int .i64 0, .int .i64 0, .int .i64 0, .int .i64 0, .bool false], .agg #[.int .i64 0, .int .i64 0, .int .i64 0, .int .i64 0]], []⟩ 8 (by kernel_rfl) (by kernel_rfl) (by kernel_rfl) (by kernel_rfl)) ?_
  intro W base args ds gs before hval0 hW hcnd _
  have hval : ∀ (j : Nat) t v, Try.f3.params[j]? = some t → args[j]? = some v → Value.okWide Try.prog W .any base t v := hval0
  have hW' := hW
  obtain ⟨p, q, hA0, hV, rfl, hfz, hnd⟩ := hW
  have hA : DataW.TrodAll enc Try.prog W 0 (fun _ => true) true Try.f3.params.toList args.toList ds p := hA0
  rw [Try.params3] at hA hval
  obtain ⟨v0, vs0, d0, ds0, p0, q0, hargs, rfl, rfl, h0, r0⟩ := trodAll_cons hA
  obtain ⟨v1, vs1, d1, ds1, p1, q1, hargs1, rfl, rfl, h1, r1⟩ := trodAll_cons r0
  obtain ⟨hvz, rfl, rfl⟩ := trodAll_nil r1
  rw [hvz] at hargs1
  rw [hargs1] at hargs
  obtain rfl : args = #[v0, v1] := by cases args; simp_all
  obtain ⟨rfl, rfl⟩ := trodVars_none hV
  obtain ⟨a0, a1, a2, a3, a4, rfl⟩ := open_req (hval 0 25 v0 rfl rfl) h0
  obtain ⟨b0, b1, b2, b3, rfl, -, -, -, -, -, -⟩ := open_pair (hval 1 29 v1 rfl rfl) h1
  refine (law a0 a1 a2 a3 a4 b0 b1 b2 b3 W ).mono fun e W' ⟨he, hg⟩ => ?_
  subst he
  have hB : Below W.heap.size W W' := hg
  have hlt := fun x hx => hW'.lt x hx
  have hst := fun (sp' : Nat → Bool) => trodAll_stay laidOut (sp' := sp') (by kernel_rfl) hA0 (fun x hx => hB.same (hlt x (List.mem_append_left _ hx)))
  refine ⟨_, rfl, _, _, _, [], _, [], hW', (trodAll_cons_mk (shut_bool Try.underlying4 _) trodAll_mk0), hst _ (fun x hx => by simpa using hlt x (List.mem_append_left _ hx)), rfl, ?_, fun h => by cases h⟩
  exact World.keptBut_mono (fun x hx => ⟨hx, Or.inr (by simpa using hx)⟩) (hB.frame (· ∈ _))

theorem proved : Rows.NumericCalculatesSaid :=
  OpenClaim.holds_of_wide 3 Try.f3 rfl rfl rfl rfl rfl rfl rfl ⟨rfl, rfl, rfl, rfl, rfl⟩ rfl rfl rfl rfl rfl (by kernel_rfl) Try.func3 (by kernel_rfl)
    (of_decide_eq_true (by kernel_rfl)) (by unfold Func.isWrapper; first | (rw [if_pos (by decide +kernel)]; kernel_rfl) | (rw [if_neg (by decide +kernel)]; exact ⟨rfl, rfl⟩))
    (fun os started H enc _ => lifted os started H enc)
#print axioms proved
end Go.Proofs.Ytnaflaokhldfnaa.lawCalculates
