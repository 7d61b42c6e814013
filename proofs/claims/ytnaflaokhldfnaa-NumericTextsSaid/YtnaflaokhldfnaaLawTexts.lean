/- NumericTexts: for every string the law returns true (the number that is read, and its length, or the offset and the error, are the reference's); no condition. -/
import Derived.Test.YtnaflaokhldfnaaQ51
import Derived.Test.YtnaflaokhldfnaaQ32
import Derived.Test.YtnaflaokhldfnaaQ35
namespace Go.Proofs.Ytnaflaokhldfnaa.lawTexts
set_option linter.unusedSimpArgs false
set_option linter.unusedVariables false
open Go.Proofs.Ytnaflaokhldfnaa
open Go.ChangeShapes Go.WideShapes Go.ChangeAt Go.RowKit Go.Joins Go.Deep
set_option linter.unusedVariables false

theorem tx_one {x : ByteArray} {N Sc At E N' Sc' At' E' : Int} (h : TxR x N Sc At E) (k : TxR x N' Sc' At' E') : N' = N ∧ Sc' = Sc ∧ At' = At ∧ E' = E := by
  rcases h with ⟨h, rfl, rfl, rfl, rfl⟩ | ⟨h, rfl, rfl, rfl, rfl⟩ | ⟨h1, h2, h3, rfl, rfl, rfl, rfl⟩ | ⟨h1, h2, h3, h4, rfl, rfl, rfl, rfl⟩ | ⟨h1, h2, h3, h4, rfl, rfl, rfl, rfl⟩ <;>
  rcases k with ⟨k, rfl, rfl, rfl, rfl⟩ | ⟨k, rfl, rfl, rfl, rfl⟩ | ⟨k1, k2, k3, rfl, rfl, rfl, rfl⟩ | ⟨k1, k2, k3, k4, rfl, rfl, rfl, rfl⟩ | ⟨k1, k2, k3, k4, rfl, rfl, rfl, rfl⟩ <;>
  first | exact ⟨rfl, rfl, rfl, rfl⟩ | (exfalso; omega) | (exfalso; exact k3 h3) | (exfalso; exact h3 k3)
set_option maxHeartbeats 1000000 in
set_option maxRecDepth 100000 in
theorem large (x : ByteArray) (hx : x.size ≤ maxLen) (h : (100 : Int) < x.size) (w : World) :
    Calls Try.prog 6 #[.string x] w fun e w' => e = .returned (.bool true) ∧ Gr w w' := by
  unfold maxLen at hx
  go_enter Try.func6, Try.ntmps6
  go_wp2_with (go_at_call 7; (with_reducible refine (awake_any _).mono ?_); rintro e wa ⟨rfl, hb⟩)
  go_ret
  exact ⟨rfl, (by repeat (first | (with_reducible exact Gr.refl _) | (with_reducible assumption) | (with_reducible refine Gr.alloc ?_ _) | (with_reducible refine Gr.drew ?_) | (with_reducible refine Gr.drewN ?_ _) | (with_reducible refine Gr.setCell ?_ (by simp <;> omega) _) | (with_reducible refine Gr.trans ?_ (by with_reducible assumption)) | exact Gr.refl _ | assumption | refine Gr.alloc ?_ _ | refine Gr.drew ?_ | refine Gr.drewN ?_ _ | refine Gr.setCell ?_ (by simp <;> omega) _ | refine Gr.trans ?_ (by assumption)))⟩
set_option maxHeartbeats 2000000 in
set_option maxRecDepth 100000 in
theorem core (x : ByteArray) (N Sc At E : Int) (hx : (x.size : Int) ≤ 100)
    (hP : ∀ w, Calls Try.prog 14 #[.string x] w fun e w' => e = .returned (.tuple #[.agg #[.int .i64 N, .int .i64 Sc], .int .i64 At, .int .i64 E]) ∧ Gr w w')
    (hQ : ∀ w, Calls Try.prog 15 #[.string x] w fun e w' => e = .returned (.agg #[.int .i64 N, .int .i64 Sc, .int .i64 At, .int .i64 E]) ∧ Gr w w') (w : World) :
    Calls Try.prog 6 #[.string x] w fun e w' => e = .returned (.bool true) ∧ Gr w w' := by
  go_enter Try.func6, Try.ntmps6
  go_wp2_with (first
    | (go_at_call 7; (with_reducible refine (awake_any _).mono ?_); rintro e wa ⟨rfl, hb⟩)
    | (go_at_call 14; (with_reducible refine (hP _).mono ?_); rintro e wp ⟨rfl, hb2⟩)
    | (go_at_call 15; (with_reducible refine (hQ _).mono ?_); rintro e wq ⟨rfl, hb3⟩; obtain ⟨hc3, hf3⟩ := hb3.cells; have hs3 := hb3.size; (try simp at hs3); have hz3 : wp.heap.size < wq.heap.size := (by omega)))
  go_ret
  exact ⟨ret_bool (by simp), (by repeat (first | (with_reducible exact Gr.refl _) | (with_reducible assumption) | (with_reducible refine Gr.alloc ?_ _) | (with_reducible refine Gr.drew ?_) | (with_reducible refine Gr.drewN ?_ _) | (with_reducible refine Gr.setCell ?_ (by simp <;> omega) _) | (with_reducible refine Gr.trans ?_ (by with_reducible assumption)) | exact Gr.refl _ | assumption | refine Gr.alloc ?_ _ | refine Gr.drew ?_ | refine Gr.drewN ?_ _ | refine Gr.setCell ?_ (by simp <;> omega) _ | refine Gr.trans ?_ (by assumption)))⟩
theorem law (x : ByteArray) (w : World) (hx : x.size ≤ maxLen) :
    Calls Try.prog 6 #[.string x] w fun e w' => e = .returned (.bool true) ∧ Gr w w' := by
  by_cases h1 : (100 : Int) < x.size
  · exact large x hx h1 w
  obtain ⟨N, Sc, At, E, hR⟩ := tx_ex x
  refine core x N Sc At E (by omega) (fun w => ParseNumber_any x N Sc At E hR (by omega) w) (fun w => (refParse_any x (by omega) w).mono fun e w' h => ?_) w
  obtain ⟨N', Sc', At', E', hR', he, hg⟩ := h
  obtain ⟨rfl, rfl, rfl, rfl⟩ := tx_one hR hR'
  exact ⟨he, hg⟩

set_option maxRecDepth 100000 in
theorem lifted (os : Os) (started : os.Started) (H : Type) (enc : TypeId × Value → H) :
    ReturnsInHanded {} Try.checked os 6 .any (Rows.numericTextsSpec.pre6 enc Try.prog Try.f6 Rows.numericTextsRow.domain false) (Rows.numericTextsSpec.post enc Try.prog Try.f6 false true false false) := by
  refine returnsInHanded_of_change (C := Try.checked) own_knob started (by kernel_rfl) Try.func6
    (ChangeSpec.witness6 (enc := enc) (C := Try.checked) false ⟨#[], #[.string ⟨#[]⟩], []⟩ 8 (by kernel_rfl) (by kernel_rfl) (by kernel_rfl) (by kernel_rfl)) ?_
  intro W base args ds gs before hval0 hW hcnd _
  have hval : ∀ (j : Nat) t v, Try.f6.params[j]? = some t → args[j]? = some v → Value.okWide Try.prog W .any base t v := hval0
  have hW' := hW
  obtain ⟨p, q, hA0, hV, rfl, hfz, hnd⟩ := hW
  have hA : DataW.TrodAll enc Try.prog W 0 (fun _ => true) true Try.f6.params.toList args.toList ds p := hA0
  rw [Try.params6] at hA hval
  obtain ⟨v0, vs0, d0, ds0, p0, q0, hargs, rfl, rfl, h0, r0⟩ := trodAll_cons hA
  obtain ⟨hvz, rfl, rfl⟩ := trodAll_nil r0
  rw [hvz] at hargs
  obtain rfl : args = #[v0] := by cases args; simp_all
  obtain ⟨rfl, rfl⟩ := trodVars_none hV
  obtain ⟨a0, rfl, e0, g0, w0⟩ := Go.ChangeMaps.open_string Try.underlying9 (hval 0 9 v0 rfl rfl) h0
  refine (law a0 W w0).mono fun e W' ⟨he, hg⟩ => ?_
  subst he
  have hB : Below W.heap.size W W' := hg
  have hlt := fun x hx => hW'.lt x hx
  have hst := fun (sp' : Nat → Bool) => trodAll_stay laidOut (sp' := sp') (by kernel_rfl) hA0 (fun x hx => hB.same (hlt x (List.mem_append_left _ hx)))
  refine ⟨_, rfl, _, _, _, [], _, [], hW', (trodAll_cons_mk (shut_bool Try.underlying4 _) trodAll_mk0), hst _ (fun x hx => by simpa using hlt x (List.mem_append_left _ hx)), rfl, ?_, fun h => by cases h⟩
  exact World.keptBut_mono (fun x hx => ⟨hx, Or.inr (by simpa using hx)⟩) (hB.frame (· ∈ _))

theorem proved : Rows.NumericTextsSaid :=
  OpenClaim.holds_of_wide 6 Try.f6 rfl rfl rfl rfl rfl rfl rfl ⟨rfl, rfl, rfl, rfl, rfl⟩ rfl rfl rfl rfl rfl (by kernel_rfl) Try.func6 (by kernel_rfl)
    (of_decide_eq_true (by kernel_rfl)) (by unfold Func.isWrapper; first | (rw [if_pos (by decide +kernel)]; kernel_rfl) | (rw [if_neg (by decide +kernel)]; exact ⟨rfl, rfl⟩))
    (fun os started H enc _ => lifted os started H enc)
#print axioms proved
#print axioms proved
end Go.Proofs.Ytnaflaokhldfnaa.lawTexts
