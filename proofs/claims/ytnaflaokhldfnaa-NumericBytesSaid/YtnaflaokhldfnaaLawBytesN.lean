/- NumericBytes: for every operation, all pairs of operands and every data type, rounded or cut off, the law returns true (the bytes of the result, or the offset and the error, are the reference's); no condition. -/
import Derived.Test.YtnaflaokhldfnaaQ46
import Derived.Test.YtnaflaokhldfnaaQ32
import Derived.Test.YtnaflaokhldfnaaQ47
import Derived.Test.YtnaflaokhldfnaaQ35
import Derived.Test.YtnaflaokhldfnaaQ37
namespace Go.Proofs.Ytnaflaokhldfnaa.lawBytesN
set_option linter.unusedSimpArgs false
set_option linter.unusedVariables false
open Go.Proofs.Ytnaflaokhldfnaa
open Go.ChangeShapes Go.WideShapes Go.ChangeAt Go.RowKit Go.Joins Go.Deep
set_option linter.unusedVariables false

set_option maxHeartbeats 2000000 in
set_option maxRecDepth 100000 in
theorem large (op k l sc : Int) (half : Bool) (ka la sa : Int) (xa : ByteArray) (kb lb sb : Int) (xb : ByteArray) (hx : xa.size ≤ maxLen) (hy : xb.size ≤ maxLen) (h : (700 : Int) < xa.size ∨ ((xa.size : Int) ≤ 700 ∧ (700 : Int) < xb.size)) (w : World) :
    Calls Try.prog 4 #[.agg #[.int .i64 op, .int .i64 k, .int .i64 l, .int .i64 sc, .bool half], .agg #[.int .i64 ka, .int .i64 la, .int .i64 sa, .string xa], .agg #[.int .i64 kb, .int .i64 lb, .int .i64 sb, .string xb]] w fun e w' => e = .returned (.bool true) ∧ Gr w w' := by
  unfold maxLen at hx hy
  rcases h with h | ⟨h, h2⟩
  all_goals
    go_enter Try.func4, Try.ntmps4
    go_wp2_with (go_at_call 7; (with_reducible refine (awake_any _).mono ?_); rintro e wa ⟨rfl, hb⟩; obtain ⟨hc, hf⟩ := hb.cells; have hz := hb.size; (try simp at hz); have hz2 : w.heap.size + 1 + 1 < wa.heap.size := (by omega); have hz1 : w.heap.size + 1 < wa.heap.size := (by omega); have hz0 : w.heap.size < wa.heap.size := (by omega))
    go_ret
    exact ⟨rfl, (by repeat (first | (with_reducible exact Gr.refl _) | (with_reducible assumption) | (with_reducible refine Gr.alloc ?_ _) | (with_reducible refine Gr.drew ?_) | (with_reducible refine Gr.drewN ?_ _) | (with_reducible refine Gr.setCell ?_ (by simp <;> omega) _) | (with_reducible refine Gr.trans ?_ (by with_reducible assumption)) | exact Gr.refl _ | assumption | refine Gr.alloc ?_ _ | refine Gr.drew ?_ | refine Gr.drewN ?_ _ | refine Gr.setCell ?_ (by simp <;> omega) _ | refine Gr.trans ?_ (by assumption)))⟩
set_option maxHeartbeats 4000000 in
set_option maxRecDepth 100000 in
theorem core (op k l sc : Int) (half : Bool) (ka la sa : Int) (xa : ByteArray) (kb lb sb : Int) (xb S : ByteArray) (At E : Int) (hx : (xa.size : Int) ≤ 700) (hy : (xb.size : Int) ≤ 700)
    (hP : ∀ w, Calls Try.prog 10 #[.int .i64 op, .agg #[.int .i64 ka, .int .i64 la, .int .i64 sa, .string xa], .agg #[.int .i64 kb, .int .i64 lb, .int .i64 sb, .string xb], .agg #[.int .i64 k, .int .i64 l, .int .i64 sc], .bool half] w fun e w' => e = .returned (.tuple #[.string S, .int .i64 At, .int .i64 E]) ∧ Gr w w')
    (hQ : ∀ w, Calls Try.prog 11 #[.agg #[.int .i64 op, .int .i64 k, .int .i64 l, .int .i64 sc, .bool half], .agg #[.int .i64 ka, .int .i64 la, .int .i64 sa, .string xa], .agg #[.int .i64 kb, .int .i64 lb, .int .i64 sb, .string xb]] w fun e w' => e = .returned (.agg #[.string S, .int .i64 At, .int .i64 E]) ∧ Gr w w') (w : World) :
    Calls Try.prog 4 #[.agg #[.int .i64 op, .int .i64 k, .int .i64 l, .int .i64 sc, .bool half], .agg #[.int .i64 ka, .int .i64 la, .int .i64 sa, .string xa], .agg #[.int .i64 kb, .int .i64 lb, .int .i64 sb, .string xb]] w fun e w' => e = .returned (.bool true) ∧ Gr w w' := by
  go_enter Try.func4, Try.ntmps4
  go_wp2_with (first
    | (go_at_call 7; (with_reducible refine (awake_any _).mono ?_); rintro e wa ⟨rfl, hb⟩; obtain ⟨hc, hf⟩ := hb.cells; have hz := hb.size; (try simp at hz); have hz2 : w.heap.size + 1 + 1 < wa.heap.size := (by omega); have hz1 : w.heap.size + 1 < wa.heap.size := (by omega); have hz0 : w.heap.size < wa.heap.size := (by omega))
    | (go_at_call 10; (with_reducible refine (hP _).mono ?_); rintro e wp ⟨rfl, hb2⟩; obtain ⟨hc2, hf2⟩ := hb2.cells; have hs2 := hb2.size; (try simp at hs2); have hz2 : w.heap.size + 1 + 1 < wp.heap.size := (by omega); have hz1 : w.heap.size + 1 < wp.heap.size := (by omega); have hz0 : w.heap.size < wp.heap.size := (by omega))
    | (go_at_call 11; (with_reducible refine (hQ _).mono ?_); rintro e wq ⟨rfl, hb3⟩; obtain ⟨hc3, hf3⟩ := hb3.cells; have hs3 := hb3.size; (try simp at hs3)))
  go_ret
  exact ⟨ret_bool (by simp), (by repeat (first | (with_reducible exact Gr.refl _) | (with_reducible assumption) | (with_reducible refine Gr.alloc ?_ _) | (with_reducible refine Gr.drew ?_) | (with_reducible refine Gr.drewN ?_ _) | (with_reducible refine Gr.setCell ?_ (by simp <;> omega) _) | (with_reducible refine Gr.trans ?_ (by with_reducible assumption)) | exact Gr.refl _ | assumption | refine Gr.alloc ?_ _ | refine Gr.drew ?_ | refine Gr.drewN ?_ _ | refine Gr.setCell ?_ (by simp <;> omega) _ | refine Gr.trans ?_ (by assumption)))⟩
theorem law (op k l sc : Int) (half : Bool) (ka la sa : Int) (xa : ByteArray) (kb lb sb : Int) (xb : ByteArray) (w : World) (hx : xa.size ≤ maxLen) (hy : xb.size ≤ maxLen) :
    Calls Try.prog 4 #[.agg #[.int .i64 op, .int .i64 k, .int .i64 l, .int .i64 sc, .bool half], .agg #[.int .i64 ka, .int .i64 la, .int .i64 sa, .string xa], .agg #[.int .i64 kb, .int .i64 lb, .int .i64 sb, .string xb]] w fun e w' => e = .returned (.bool true) ∧ Gr w w' := by
  by_cases h1 : (700 : Int) < xa.size
  · exact large op k l sc half ka la sa xa kb lb sb xb hx hy (.inl h1) w
  by_cases h2 : (700 : Int) < xb.size
  · exact large op k l sc half ka la sa xa kb lb sb xb hx hy (.inr ⟨by omega, h2⟩) w
  exact core op k l sc half ka la sa xa kb lb sb xb _ _ _ (by omega) (by omega) (prog_cb remOk op ka la sa xa kb lb sb xb k l sc half) (ref_cb op ka la sa xa kb lb sb xb k l sc half (by omega) (by omega)) w

set_option maxRecDepth 100000 in
theorem lifted (os : Os) (started : os.Started) (H : Type) (enc : TypeId × Value → H) :
    ReturnsInHanded {} Try.checked os 4 .any (Rows.numericBytesSpec.pre6 enc Try.prog Try.f4 Rows.numericBytesRow.domain false) (Rows.numericBytesSpec.post enc Try.prog Try.f4 false true false false) := by
  refine returnsInHanded_of_change (C := Try.checked) own_knob started (by kernel_rfl) Try.func4
    (ChangeSpec.witness6 (enc := enc) (C := Try.checked) false ⟨#[], #[.agg #[.int .i64 0, .int .i64 0, .int .i64 0, .int .i64 0, .bool false], .agg #[.int .i64 0, .int .i64 0, .int .i64 0, .string ⟨#[]⟩], .agg #[.int .i64 0, .int .i64 0, .int .i64 0, .string ⟨#[]⟩]], []⟩ 8 (by kernel_rfl) (by kernel_rfl) (by kernel_rfl) (by kernel_rfl)) ?_
  intro W base args ds gs before hval0 hW hcnd _
  have hval : ∀ (j : Nat) t v, Try.f4.params[j]? = some t → args[j]? = some v → Value.okWide Try.prog W .any base t v := hval0
  have hW' := hW
  obtain ⟨p, q, hA0, hV, rfl, hfz, hnd⟩ := hW
  have hA : DataW.TrodAll enc Try.prog W 0 (fun _ => true) true Try.f4.params.toList args.toList ds p := hA0
  rw [Try.params4] at hA hval
  obtain ⟨v0, vs0, d0, ds0, p0, q0, hargs, rfl, rfl, h0, r0⟩ := trodAll_cons hA
  obtain ⟨v1, vs1, d1, ds1, p1, q1, hargs1, rfl, rfl, h1, r1⟩ := trodAll_cons r0
  obtain ⟨v2, vs2, d2, ds2, p2, q2, hargs2, rfl, rfl, h2, r2⟩ := trodAll_cons r1
  obtain ⟨hvz, rfl, rfl⟩ := trodAll_nil r2
  rw [hvz] at hargs2
  rw [hargs2] at hargs1
  rw [hargs1] at hargs
  obtain rfl : args = #[v0, v1, v2] := by cases args; simp_all
  obtain ⟨rfl, rfl⟩ := trodVars_none hV
  obtain ⟨a0, a1, a2, a3, a4, rfl⟩ := open_req (hval 0 25 v0 rfl rfl) h0
  obtain ⟨b0, b1, b2, b3, rfl, bw⟩ := open_opr (hval 1 40 v1 rfl rfl) h1
  obtain ⟨d0, d1, d2, d3, rfl, dw⟩ := open_opr (hval 2 40 v2 rfl rfl) h2
  refine (law a0 a1 a2 a3 a4 b0 b1 b2 b3 d0 d1 d2 d3 W bw dw).mono fun e W' ⟨he, hg⟩ => ?_
  subst he
  have hB : Below W.heap.size W W' := hg
  have hlt := fun x hx => hW'.lt x hx
  have hst := fun (sp' : Nat → Bool) => trodAll_stay laidOut (sp' := sp') (by kernel_rfl) hA0 (fun x hx => hB.same (hlt x (List.mem_append_left _ hx)))
  refine ⟨_, rfl, _, _, _, [], _, [], hW', (trodAll_cons_mk (shut_bool Try.underlying4 _) trodAll_mk0), hst _ (fun x hx => by simpa using hlt x (List.mem_append_left _ hx)), rfl, ?_, fun h => by cases h⟩
  exact World.keptBut_mono (fun x hx => ⟨hx, Or.inr (by simpa using hx)⟩) (hB.frame (· ∈ _))

theorem proved : Rows.NumericBytesSaid :=
  OpenClaim.holds_of_wide 4 Try.f4 rfl rfl rfl rfl rfl rfl rfl ⟨rfl, rfl, rfl, rfl, rfl⟩ rfl rfl rfl rfl rfl (by kernel_rfl) Try.func4 (by kernel_rfl)
    (of_decide_eq_true (by kernel_rfl)) (by unfold Func.isWrapper; first | (rw [if_pos (by decide +kernel)]; kernel_rfl) | (rw [if_neg (by decide +kernel)]; exact ⟨rfl, rfl⟩))
    (fun os started H enc _ => lifted os started H enc)
#print axioms proved
end Go.Proofs.Ytnaflaokhldfnaa.lawBytesN
