/- EditWordReads: for every data type, text and edit word the law returns true (the value with a text by a word is as specified, or the error); no condition but that the listed tables are laid, which the card ties to the program's text. -/
import Derived.Test.YtmdpejllbalnnaaGreatDoorQ27
import Derived.Test.YtmdpejllbalnnaaGreatDoorQ26
import Derived.Test.YtmdpejllbalnnaaGreatDoorQ29
namespace Go.Proofs.YtmdpejllbalnnaaGreatDoor.lawEditWordReads
set_option linter.unusedSimpArgs false
set_option linter.unusedVariables false
open Go.Proofs.YtmdpejllbalnnaaGreatDoor
open Go.ChangeShapes Go.WideShapes Go.ChangeAt Go.RowKit Go.Joins Go.Deep

set_option maxHeartbeats 4000000 in
set_option maxRecDepth 100000 in
theorem core (k l s n E : Int) (X T : ByteArray) (hX : X.size ≤ maxLen) (hT : T.size ≤ maxLen)
    (h1 : X.size ≤ 100 → T.size ≤ 100 → ∀ w, PW w → Calls Tryz.prog 21 #[.agg #[.int .i64 k, .int .i64 l, .int .i64 s], .string X, .string T] w (UnR n E w))
    (h2 : X.size ≤ 100 → T.size ≤ 100 → ∀ w, Calls Tryz.prog 22 #[.agg #[.int .i64 k, .int .i64 l, .int .i64 s], .string X, .string T] w (UnR n E w)) (w : World) (hw : PW w) :
    Calls Tryz.prog 7 #[.agg #[.int .i64 k, .int .i64 l, .int .i64 s], .string X, .string T] w fun e w' => e = .returned (.bool true) ∧ Gr w w' := by
  unfold maxLen at hX hT
  have HW := Lib.hid hw
  have heq := eq_vals n
  clear hw
  by_cases h3 : (100 : Int) < X.size
  · have b1 : decide ((100 : Int) < (X.size : Int)) = true := by simp; omega
    clear h3 h1 h2
    go_enter Tryz.func7, Tryz.ntmps7
    go_wp2_with ((go_at_call 11; (with_reducible refine (awake_any _ (HW.out.gr (by repeat (first | (with_reducible exact Gr.refl _) | (with_reducible assumption) | (with_reducible refine Gr.alloc ?_ _) | (with_reducible refine Gr.drew ?_) | (with_reducible refine Gr.drewN ?_ _) | (with_reducible refine Gr.setCell ?_ (by simp <;> omega) _) | (with_reducible refine Gr.trans ?_ (by with_reducible assumption)) | exact Gr.refl _ | assumption | refine Gr.alloc ?_ _ | refine Gr.drew ?_ | refine Gr.drewN ?_ _ | refine Gr.setCell ?_ (by simp <;> omega) _ | refine Gr.trans ?_ (by assumption))))).mono ?_); rintro e w1 ⟨rfl, hb⟩; obtain ⟨hc, hf⟩ := gcells hb (w.heap.size + 1) (by first | exact hz | omega | (simp; done) | (simp; omega)); have hz : w.heap.size + 1 ≤ w1.heap.size := (by have h := hb.size; (try simp at h); omega); have hz0 : w.heap.size < w1.heap.size := (by omega)))
    go_ret
    exact ⟨rfl, (by repeat (first | (with_reducible exact Gr.refl _) | (with_reducible assumption) | (with_reducible refine Gr.alloc ?_ _) | (with_reducible refine Gr.drew ?_) | (with_reducible refine Gr.drewN ?_ _) | (with_reducible refine Gr.setCell ?_ (by simp <;> omega) _) | (with_reducible refine Gr.trans ?_ (by with_reducible assumption)) | exact Gr.refl _ | assumption | refine Gr.alloc ?_ _ | refine Gr.drew ?_ | refine Gr.drewN ?_ _ | refine Gr.setCell ?_ (by simp <;> omega) _ | refine Gr.trans ?_ (by assumption)))⟩
  · have b1 : decide ((100 : Int) < (X.size : Int)) = false := by simp; omega
    by_cases h4 : (100 : Int) < T.size
    · have b2 : decide ((100 : Int) < (T.size : Int)) = true := by simp; omega
      clear h3 h4 h1 h2
      go_enter Tryz.func7, Tryz.ntmps7
      go_wp2_with ((go_at_call 11; (with_reducible refine (awake_any _ (HW.out.gr (by repeat (first | (with_reducible exact Gr.refl _) | (with_reducible assumption) | (with_reducible refine Gr.alloc ?_ _) | (with_reducible refine Gr.drew ?_) | (with_reducible refine Gr.drewN ?_ _) | (with_reducible refine Gr.setCell ?_ (by simp <;> omega) _) | (with_reducible refine Gr.trans ?_ (by with_reducible assumption)) | exact Gr.refl _ | assumption | refine Gr.alloc ?_ _ | refine Gr.drew ?_ | refine Gr.drewN ?_ _ | refine Gr.setCell ?_ (by simp <;> omega) _ | refine Gr.trans ?_ (by assumption))))).mono ?_); rintro e w1 ⟨rfl, hb⟩; obtain ⟨hc, hf⟩ := gcells hb (w.heap.size + 1) (by first | exact hz | omega | (simp; done) | (simp; omega)); have hz : w.heap.size + 1 ≤ w1.heap.size := (by have h := hb.size; (try simp at h); omega); have hz0 : w.heap.size < w1.heap.size := (by omega)))
      go_ret
      exact ⟨rfl, (by repeat (first | (with_reducible exact Gr.refl _) | (with_reducible assumption) | (with_reducible refine Gr.alloc ?_ _) | (with_reducible refine Gr.drew ?_) | (with_reducible refine Gr.drewN ?_ _) | (with_reducible refine Gr.setCell ?_ (by simp <;> omega) _) | (with_reducible refine Gr.trans ?_ (by with_reducible assumption)) | exact Gr.refl _ | assumption | refine Gr.alloc ?_ _ | refine Gr.drew ?_ | refine Gr.drewN ?_ _ | refine Gr.setCell ?_ (by simp <;> omega) _ | refine Gr.trans ?_ (by assumption)))⟩
    · have b2 : decide ((100 : Int) < (T.size : Int)) = false := by simp; omega
      replace h1 := h1 (by omega) (by omega)
      replace h2 := h2 (by omega) (by omega)
      clear h3 h4
      go_enter Tryz.func7, Tryz.ntmps7
      go_wp2_with (first | ((go_at_call 11; (with_reducible refine (awake_any _ (HW.out.gr (by repeat (first | (with_reducible exact Gr.refl _) | (with_reducible assumption) | (with_reducible refine Gr.alloc ?_ _) | (with_reducible refine Gr.drew ?_) | (with_reducible refine Gr.drewN ?_ _) | (with_reducible refine Gr.setCell ?_ (by simp <;> omega) _) | (with_reducible refine Gr.trans ?_ (by with_reducible assumption)) | exact Gr.refl _ | assumption | refine Gr.alloc ?_ _ | refine Gr.drew ?_ | refine Gr.drewN ?_ _ | refine Gr.setCell ?_ (by simp <;> omega) _ | refine Gr.trans ?_ (by assumption))))).mono ?_); rintro e wa ⟨rfl, wah⟩; obtain ⟨wac, waf⟩ := wah.cells; have was := wah.size; (try simp at was); have waz : w.heap.size < wa.heap.size := (by omega))) | ((go_at_call 21; (with_reducible refine (h1 _ (HW.out.gr (by repeat (first | (with_reducible exact Gr.refl _) | (with_reducible assumption) | (with_reducible refine Gr.alloc ?_ _) | (with_reducible refine Gr.drew ?_) | (with_reducible refine Gr.drewN ?_ _) | (with_reducible refine Gr.setCell ?_ (by simp <;> omega) _) | (with_reducible refine Gr.trans ?_ (by with_reducible assumption)) | exact Gr.refl _ | assumption | refine Gr.alloc ?_ _ | refine Gr.drew ?_ | refine Gr.drewN ?_ _ | refine Gr.setCell ?_ (by simp <;> omega) _ | refine Gr.trans ?_ (by assumption))))).mono ?_); rintro e wb ⟨rfl, wbh⟩; obtain ⟨wbc, wbf⟩ := wbh.cells; have wbs := wbh.size; (try simp at wbs); have wbz : w.heap.size < wb.heap.size := (by omega))) | ((go_at_call 22; (with_reducible refine (h2 _).mono ?_); rintro e wc ⟨rfl, wch⟩; obtain ⟨wcc, wcf⟩ := wch.cells; have wcs := wch.size; (try simp at wcs); have wcz : w.heap.size < wc.heap.size := (by omega)); have hz3 : wb.heap.size < wc.heap.size := (by omega)))
      go_ret
      exact ⟨rfl, (by repeat (first | (with_reducible exact Gr.refl _) | (with_reducible assumption) | (with_reducible refine Gr.alloc ?_ _) | (with_reducible refine Gr.drew ?_) | (with_reducible refine Gr.drewN ?_ _) | (with_reducible refine Gr.setCell ?_ (by simp <;> omega) _) | (with_reducible refine Gr.trans ?_ (by with_reducible assumption)) | exact Gr.refl _ | assumption | refine Gr.alloc ?_ _ | refine Gr.drew ?_ | refine Gr.drewN ?_ _ | refine Gr.setCell ?_ (by simp <;> omega) _ | refine Gr.trans ?_ (by assumption)))⟩
theorem law (k l s : Int) (X T : ByteArray) (w : World) (hX : X.size ≤ maxLen) (hT : T.size ≤ maxLen) (hw : PW w) :
    Calls Tryz.prog 7 #[.agg #[.int .i64 k, .int .i64 l, .int .i64 s], .string X, .string T] w fun e w' => e = .returned (.bool true) ∧ Gr w w' := by
  have e : BL X.data.toList = X := BL_of X
  have eT : BL T.data.toList = T := BL_of T
  have hl : X.data.toList.length = X.size := Array.length_toList
  have hlT : T.data.toList.length = T.size := Array.length_toList
  have h1 := fun (h : X.size ≤ 100) (g : T.size ≤ 100) w ht => UneditedBy_any k l s X.data.toList T.data.toList (by omega) (by omega) w ht
  have h2 := fun (h : X.size ≤ 100) (g : T.size ≤ 100) w => refUneditedBy_any k l s X.data.toList T.data.toList (by omega) (by omega) w
  rw [e, eT] at h1 h2
  exact core k l s _ _ X T hX hT h1 h2 w hw

set_option maxRecDepth 100000 in
theorem lifted (os : Os) (started : os.Started) (H : Type) (enc : TypeId × Value → H) :
    ReturnsInHanded {} Tryz.checked os 7 .any (fun w args => (Rows.editWordReadsSpec.pre enc Tryz.prog Tryz.f7 [] false w args ∧ laidMetH Tryz.prog laidL w) ∧ sizedMet enc Tryz.prog Tryz.f7 (OpenSpec.ofChange Rows.editWordReadsSpec) false w args) (Rows.editWordReadsSpec.post enc Tryz.prog Tryz.f7 false true false false) := by
  refine wrap_shaped (C := Tryz.checked) (X := fun w _ => laidMetH Tryz.prog laidL w) (fun _ _ _ hh h => h.of_heap hh) own_knob started (by kernel_rfl) Tryz.func7
    (ChangeSpec.witness_shaped (enc := enc) (C := Tryz.checked) (os := os) (X := fun w _ => laidMetH Tryz.prog laidL w) false (World.laidAll Tryz.prog os laidL) #[.agg #[.int .i64 0, .int .i64 0, .int .i64 0], .string ⟨#[]⟩, .string ⟨#[]⟩] 8 (World.laidAll_os _ _ _) (shaped_laidAll os _) (by kernel_rfl) (by kernel_rfl) (by kernel_rfl) (met_laidAll os _)) ?_
  intro W base args ds gs before hval0 hW hL hsh
  have hval : ∀ (j : Nat) t v, Tryz.f7.params[j]? = some t → args[j]? = some v → Value.okWide Tryz.prog W .any base t v := hval0
  have hW' := hW
  obtain ⟨p, q, hA0, hV, rfl, hfz, hnd⟩ := hW
  have hA : DataW.TrodAll enc Tryz.prog W 0 (fun _ => true) true Tryz.f7.params.toList args.toList ds p := hA0
  rw [Tryz.params7] at hA hval
  obtain ⟨v0, vs0, d0, ds0, p0, q0, hargs, rfl, rfl, h0, r0⟩ := trodAll_cons hA
  obtain ⟨v1, vs1, d1, ds1, p1, q1, hargs1, rfl, rfl, h1, r1⟩ := trodAll_cons r0
  obtain ⟨v2, vs2, d2, ds2, p2, q2, hargs2, rfl, rfl, h2, r2⟩ := trodAll_cons r1
  obtain ⟨hvz, rfl, rfl⟩ := trodAll_nil r2
  rw [hvz] at hargs2
  rw [hargs2] at hargs1
  rw [hargs1] at hargs
  obtain rfl : args = #[v0, v1, v2] := by cases args; simp_all
  obtain ⟨rfl, rfl⟩ := trodVars_none hV
  obtain ⟨kk, ll, ss, rfl⟩ := open_dtc (hval 0 23 v0 rfl rfl) h0
  obtain ⟨a1, rfl, e1, g1, w1⟩ := Go.ChangeMaps.open_string Tryz.underlying9 (hval 1 9 v1 rfl rfl) h1
  obtain ⟨a2, rfl, e2, g2, w2⟩ := Go.ChangeMaps.open_string Tryz.underlying9 (hval 2 9 v2 rfl rfl) h2
  refine (law kk ll ss a1 a2 W w1 w2 (pw_of hL hsh)).mono fun e W' ⟨he, hg⟩ => ?_
  subst he
  have hB : Below W.heap.size W W' := hg
  have hlt := fun x hx => hW'.lt x hx
  have hst := fun (sp' : Nat → Bool) => trodAll_stay laidOut (sp' := sp') (by kernel_rfl) hA0 (fun x hx => hB.same (hlt x (List.mem_append_left _ hx)))
  refine ⟨_, rfl, _, _, _, [], _, [], hW', (trodAll_cons_mk (shut_bool Tryz.underlying4 _) trodAll_mk0), hst _ (fun x hx => by simpa using hlt x (List.mem_append_left _ hx)), rfl, ?_, fun h => by cases h⟩
  exact World.keptBut_mono (fun x hx => ⟨hx, Or.inr (by simpa using hx)⟩) (hB.frame (· ∈ _))

theorem proved : Rows.EditWordReadsSaid :=
  OpenClaim.holds_of_wide 7 Tryz.f7 rfl rfl rfl rfl rfl rfl rfl ⟨rfl, rfl, rfl, rfl, rfl⟩ rfl rfl rfl rfl rfl (by kernel_rfl) Tryz.func7 (by kernel_rfl)
    (of_decide_eq_true (by kernel_rfl)) (by unfold Func.isWrapper; first | (rw [if_pos (by decide +kernel)]; kernel_rfl) | (rw [if_neg (by decide +kernel)]; exact ⟨rfl, rfl⟩))
    (fun os started H enc _ => lifted os started H enc)
#print axioms proved

theorem card : Rows.EditWordReadsCardSaid :=
  Claim7.holds_tied_plain_at .later [] [.data, .data, .data, .data, .pinned] true Rows.editWordReadsCard.stood.harness false
    proved (fun _ h => by cases h) (by kernel_rfl) (fun _ h => by cases h) editWordReads_row_tie rfl ⟨rfl, rfl⟩ (by kernel_rfl) rfl
    (fun f fn hf hfn => by
      obtain rfl : f = 7 := Option.some.inj ((show Tryz.prog.funcNamed "midrange/midrangelaw02.EditWordReads" = some 7 by kernel_rfl).symm.trans hf) |>.symm
      obtain rfl : fn = Tryz.f7 := (Option.some.inj (Tryz.func7.symm.trans hfn)).symm
      exact ⟨by kernel_rfl, fun j t ht => by
        rw [Tryz.params7] at ht
        have hm : t ∈ [23, 9, 9] := by simpa using Array.mem_of_getElem? ht
        have hall : ([23, 9, 9].all fun u => !Tryz.prog.wantsStandIn u) = true := by kernel_rfl
        exact (show Tryz.prog.wantsStandIn t = false by simpa using List.all_eq_true.1 hall t hm)⟩)
    (by kernel_rfl)
