/- EditParts: for every word the law returns true (the parts of a word are as specified, or the index and the error); no condition but that the listed tables are laid, which the card ties to the program's text. -/
import Derived.Test.YtmdpejllbalnnaaDoorQ19
import Derived.Test.YtmdpejllbalnnaaDoorQ18
import Derived.Test.YtmdpejllbalnnaaDoorQ21
import Derived.Laws.StructEq
namespace Go.Proofs.YtmdpejllbalnnaaDoor.lawEditParts
set_option linter.unusedSimpArgs false
set_option linter.unusedVariables false
open Go.Proofs.YtmdpejllbalnnaaDoor
open Go.ChangeShapes Go.WideShapes Go.ChangeAt Go.RowKit Go.Joins Go.Deep

theorem eq_ty : Tryd.prog.underlying 24 = some (.struct (Tryd.prog.fieldsOf 24)) := by kernel_rfl
theorem eq_held : Tryd.prog.stoodInHeld 24 = false := by kernel_rfl
set_option maxRecDepth 100000 in
theorem eq_parts (a b c : Int) (d : Bool) (w : World) : (binOp BinOp.eql 24 (.agg #[.int .i64 a, .int .i64 b, .int .i64 c, .bool d]) (.agg #[.int .i64 a, .int .i64 b, .int .i64 c, .bool d])).run Tryd.prog w = .ok (.bool true) w := by
  rw [run_eql_struct, run_equalIn_struct w 9999 _ _ _ eq_ty eq_held]
  simp [go_sem, Tryd.underlying24, Tryd.underlying3, Tryd.underlying4]
set_option maxHeartbeats 2000000 in
set_option maxRecDepth 100000 in
theorem core (X : ByteArray) (bo st sp A E : Int) (ast : Bool) (hx : X.size ≤ maxLen)
    (h1 : ∀ w, Calls Tryd.prog 6 #[.string X] w fun e w' => e = .returned (.tuple #[.agg #[.int .i64 bo, .int .i64 st, .int .i64 sp, .bool ast], .int .i64 A, .int .i64 E]) ∧ Gr w w')
    (h2 : ∀ w, Calls Tryd.prog 7 #[.string X] w fun e w' => e = .returned (.tuple #[.agg #[.int .i64 bo, .int .i64 st, .int .i64 sp, .bool ast], .int .i64 A, .int .i64 E]) ∧ Gr w w') (w : World) (hw : PW w) :
    Calls Tryd.prog 3 #[.string X] w fun e w' => e = .returned (.bool true) ∧ Gr w w' := by
  unfold maxLen at hx
  have HW := Lib.hid hw
  have heq := eq_parts bo st sp ast
  clear hw
  by_cases h3 : (100 : Int) < X.size
  · have b1 : decide ((100 : Int) < (X.size : Int)) = true := by simp; omega
    clear h3
    go_enter Tryd.func3, Tryd.ntmps3
    go_wp2_with (go_at_call 5; (with_reducible refine (awake_any _ HW.out).mono ?_); rintro e wa ⟨rfl, hba⟩)
    go_ret
    exact ⟨rfl, (by repeat (first | (with_reducible exact Gr.refl _) | (with_reducible assumption) | (with_reducible refine Gr.alloc ?_ _) | (with_reducible refine Gr.drew ?_) | (with_reducible refine Gr.drewN ?_ _) | (with_reducible refine Gr.setCell ?_ (by simp <;> omega) _) | (with_reducible refine Gr.trans ?_ (by with_reducible assumption)) | exact Gr.refl _ | assumption | refine Gr.alloc ?_ _ | refine Gr.drew ?_ | refine Gr.drewN ?_ _ | refine Gr.setCell ?_ (by simp <;> omega) _ | refine Gr.trans ?_ (by assumption)))⟩
  · have b1 : decide ((100 : Int) < (X.size : Int)) = false := by simp; omega
    clear h3
    go_enter Tryd.func3, Tryd.ntmps3
    go_wp2_with (first | go_at_call 5; (with_reducible refine (awake_any _ HW.out).mono ?_); rintro e wa ⟨rfl, hba⟩ | go_at_call 6; (with_reducible refine (h1 _).mono ?_); rintro e wb ⟨rfl, hbb⟩ | (go_at_call 7; (with_reducible refine (h2 _).mono ?_); rintro e wc ⟨rfl, hbc⟩; obtain ⟨hcc, hcf⟩ := hbc.cells; have hzz : wb.heap.size < wc.heap.size := (by have h := Gr.size hbc; simp at h; omega)))
    go_ret
    exact ⟨rfl, (by repeat (first | (with_reducible exact Gr.refl _) | (with_reducible assumption) | (with_reducible refine Gr.alloc ?_ _) | (with_reducible refine Gr.drew ?_) | (with_reducible refine Gr.drewN ?_ _) | (with_reducible refine Gr.setCell ?_ (by simp <;> omega) _) | (with_reducible refine Gr.trans ?_ (by with_reducible assumption)) | exact Gr.refl _ | assumption | refine Gr.alloc ?_ _ | refine Gr.drew ?_ | refine Gr.drewN ?_ _ | refine Gr.setCell ?_ (by simp <;> omega) _ | refine Gr.trans ?_ (by assumption)))⟩
theorem law (X : ByteArray) (w : World) (hx : X.size ≤ maxLen) (hw : PW w) :
    Calls Tryd.prog 3 #[.string X] w fun e w' => e = .returned (.bool true) ∧ Gr w w' := by
  have e : BL X.data.toList = X := BL_of X
  have h1 := PartsOf_any X.data.toList
  have h2 := refParts_any X.data.toList
  rw [e] at h1 h2
  obtain ⟨a, b, c, d, hv⟩ : ∃ a b c d, paV X.data.toList = .agg #[.int .i64 a, .int .i64 b, .int .i64 c, .bool d] := by
    unfold paV; split
    · exact ⟨_, _, _, _, rfl⟩
    · exact ⟨_, _, _, _, rfl⟩
  rw [hv] at h1 h2
  exact core X a b c _ _ d hx h1 h2 w hw

set_option maxRecDepth 100000 in
theorem lifted (os : Os) (started : os.Started) (H : Type) (enc : TypeId × Value → H) :
    ReturnsInHanded {} Tryd.checked os 3 .any (fun w args => (Rows.editPartsSpec.pre enc Tryd.prog Tryd.f3 [] false w args ∧ laidMetH Tryd.prog laidL w) ∧ sizedMet enc Tryd.prog Tryd.f3 (OpenSpec.ofChange Rows.editPartsSpec) false w args) (Rows.editPartsSpec.post enc Tryd.prog Tryd.f3 false true false false) := by
  refine wrap_shaped (C := Tryd.checked) (X := fun w _ => laidMetH Tryd.prog laidL w) (fun _ _ _ hh h => h.of_heap hh) own_knob started (by kernel_rfl) Tryd.func3
    (ChangeSpec.witness_shaped (enc := enc) (C := Tryd.checked) (os := os) (X := fun w _ => laidMetH Tryd.prog laidL w) false (World.laidAll Tryd.prog os laidL) #[.string ⟨#[]⟩] 8 (World.laidAll_os _ _ _) (shaped_laidAll os _) (by kernel_rfl) (by kernel_rfl) (by kernel_rfl) (met_laidAll os _)) ?_
  intro W base args ds gs before hval0 hW hL hsh
  have hval : ∀ (j : Nat) t v, Tryd.f3.params[j]? = some t → args[j]? = some v → Value.okWide Tryd.prog W .any base t v := hval0
  have hW' := hW
  obtain ⟨p, q, hA0, hV, rfl, hfz, hnd⟩ := hW
  have hA : DataW.TrodAll enc Tryd.prog W 0 (fun _ => true) true Tryd.f3.params.toList args.toList ds p := hA0
  rw [Tryd.params3] at hA hval
  obtain ⟨v0, vs0, d0, ds0, p0, q0, hargs, rfl, rfl, h0, r0⟩ := trodAll_cons hA
  obtain ⟨hvz, rfl, rfl⟩ := trodAll_nil r0
  rw [hvz] at hargs
  obtain rfl : args = #[v0] := by cases args; simp_all
  obtain ⟨rfl, rfl⟩ := trodVars_none hV
  obtain ⟨a0, rfl, e0, g0, w0⟩ := Go.ChangeMaps.open_string Tryd.underlying9 (hval 0 9 v0 rfl rfl) h0
  refine (law a0 W w0 (pw_of hL hsh)).mono fun e W' ⟨he, hg⟩ => ?_
  subst he
  have hB : Below W.heap.size W W' := hg
  have hlt := fun x hx => hW'.lt x hx
  have hst := fun (sp' : Nat → Bool) => trodAll_stay laidOut (sp' := sp') (by kernel_rfl) hA0 (fun x hx => hB.same (hlt x (List.mem_append_left _ hx)))
  refine ⟨_, rfl, _, _, _, [], _, [], hW', (trodAll_cons_mk (shut_bool Tryd.underlying4 _) trodAll_mk0), hst _ (fun x hx => by simpa using hlt x (List.mem_append_left _ hx)), rfl, ?_, fun h => by cases h⟩
  exact World.keptBut_mono (fun x hx => ⟨hx, Or.inr (by simpa using hx)⟩) (hB.frame (· ∈ _))

theorem proved : Rows.EditPartsSaid :=
  OpenClaim.holds_of_wide 3 Tryd.f3 rfl rfl rfl rfl rfl rfl rfl ⟨rfl, rfl, rfl, rfl, rfl⟩ rfl rfl rfl rfl rfl (by kernel_rfl) Tryd.func3 (by kernel_rfl)
    (of_decide_eq_true (by kernel_rfl)) (by unfold Func.isWrapper; first | (rw [if_pos (by decide +kernel)]; kernel_rfl) | (rw [if_neg (by decide +kernel)]; exact ⟨rfl, rfl⟩))
    (fun os started H enc _ => lifted os started H enc)
#print axioms proved

theorem card : Rows.EditPartsCardSaid :=
  Claim7.holds_tied_plain_at .later [] [.data, .data, .data, .data, .pinned] true Rows.editPartsCard.stood.harness false
    proved (fun _ h => by cases h) (by kernel_rfl) (fun _ h => by cases h) editParts_row_tie rfl ⟨rfl, rfl⟩ (by kernel_rfl) rfl
    (fun f fn hf hfn => by
      obtain rfl : f = 3 := Option.some.inj ((show Tryd.prog.funcNamed "midrange/midrangelaw02.EditParts" = some 3 by kernel_rfl).symm.trans hf) |>.symm
      obtain rfl : fn = Tryd.f3 := (Option.some.inj (Tryd.func3.symm.trans hfn)).symm
      exact ⟨by kernel_rfl, fun j t ht => by
        rw [Tryd.params3] at ht
        have hm : t ∈ [9] := by simpa using Array.mem_of_getElem? ht
        have hall : ([9].all fun u => !Tryd.prog.wantsStandIn u) = true := by kernel_rfl
        exact (show Tryd.prog.wantsStandIn t = false by simpa using List.all_eq_true.1 hall t hm)⟩)
    (by kernel_rfl)
end Go.Proofs.YtmdpejllbalnnaaDoor.lawEditParts
