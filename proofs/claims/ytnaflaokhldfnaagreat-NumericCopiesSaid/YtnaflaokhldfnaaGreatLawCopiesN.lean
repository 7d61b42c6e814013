/- NumericCopies: for every operand and every data type, rounded or cut off, the law returns true (the bytes of the operand's value in the other type, or the offset and the error, are the reference's); no condition. -/
import Derived.Test.YtnaflaokhldfnaaGreatQ26
import Derived.Test.YtnaflaokhldfnaaGreatQ15
import Derived.Test.YtnaflaokhldfnaaGreatQ27
import Derived.Test.YtnaflaokhldfnaaGreatQ28
namespace Go.Proofs.YtnaflaokhldfnaaGreat.lawCopiesN
set_option linter.unusedSimpArgs false
set_option linter.unusedVariables false
open Go.Proofs.YtnaflaokhldfnaaGreat
open Go.ChangeShapes Go.WideShapes Go.ChangeAt Go.RowKit Go.Joins Go.Deep
set_option linter.unusedVariables false

set_option maxHeartbeats 2000000 in
set_option maxRecDepth 100000 in
theorem large (kx lx sx : Int) (xa : ByteArray) (k l sc : Int) (half : Bool) (hx : xa.size ≤ maxLen) (h : (700 : Int) < xa.size) (w : World) :
    Calls Tryz.prog 3 #[.agg #[.int .i64 kx, .int .i64 lx, .int .i64 sx, .string xa], .agg #[.int .i64 k, .int .i64 l, .int .i64 sc], .bool half] w fun e w' => e = .returned (.bool true) ∧ Gr w w' := by
  unfold maxLen at hx
  go_enter Tryz.func3, Tryz.ntmps3
  go_wp2_with (go_at_call 4; (with_reducible refine (awake_any _).mono ?_); rintro e wa ⟨rfl, hb⟩; obtain ⟨hc, hf⟩ := hb.cells; have hz := hb.size; (try simp at hz); have hz1 : w.heap.size + 1 < wa.heap.size := (by omega); have hz0 : w.heap.size < wa.heap.size := (by omega))
  go_ret
  exact ⟨rfl, (by repeat (first | (with_reducible exact Gr.refl _) | (with_reducible assumption) | (with_reducible refine Gr.alloc ?_ _) | (with_reducible refine Gr.drew ?_) | (with_reducible refine Gr.drewN ?_ _) | (with_reducible refine Gr.setCell ?_ (by simp <;> omega) _) | (with_reducible refine Gr.trans ?_ (by with_reducible assumption)) | exact Gr.refl _ | assumption | refine Gr.alloc ?_ _ | refine Gr.drew ?_ | refine Gr.drewN ?_ _ | refine Gr.setCell ?_ (by simp <;> omega) _ | refine Gr.trans ?_ (by assumption)))⟩
set_option maxHeartbeats 4000000 in
set_option maxRecDepth 100000 in
theorem core (kx lx sx : Int) (xa : ByteArray) (k l sc : Int) (half : Bool) (S : ByteArray) (At E : Int) (hx : (xa.size : Int) ≤ 700)
    (hP : ∀ w, Calls Tryz.prog 5 #[.agg #[.int .i64 kx, .int .i64 lx, .int .i64 sx, .string xa], .agg #[.int .i64 k, .int .i64 l, .int .i64 sc], .bool half] w fun e w' => e = .returned (.tuple #[.string S, .int .i64 At, .int .i64 E]) ∧ Gr w w')
    (hQ : ∀ w, Calls Tryz.prog 6 #[.agg #[.int .i64 kx, .int .i64 lx, .int .i64 sx, .string xa], .agg #[.int .i64 k, .int .i64 l, .int .i64 sc], .bool half] w fun e w' => e = .returned (.agg #[.string S, .int .i64 At, .int .i64 E]) ∧ Gr w w') (w : World) :
    Calls Tryz.prog 3 #[.agg #[.int .i64 kx, .int .i64 lx, .int .i64 sx, .string xa], .agg #[.int .i64 k, .int .i64 l, .int .i64 sc], .bool half] w fun e w' => e = .returned (.bool true) ∧ Gr w w' := by
  go_enter Tryz.func3, Tryz.ntmps3
  go_wp2_with (first
    | (go_at_call 4; (with_reducible refine (awake_any _).mono ?_); rintro e wa ⟨rfl, hb⟩; obtain ⟨hc, hf⟩ := hb.cells; have hz := hb.size; (try simp at hz); have hz1 : w.heap.size + 1 < wa.heap.size := (by omega); have hz0 : w.heap.size < wa.heap.size := (by omega))
    | (go_at_call 5; (with_reducible refine (hP _).mono ?_); rintro e wp ⟨rfl, hb2⟩; obtain ⟨hc2, hf2⟩ := hb2.cells; have hs2 := hb2.size; (try simp at hs2); have hz1 : w.heap.size + 1 < wp.heap.size := (by omega); have hz0 : w.heap.size < wp.heap.size := (by omega))
    | (go_at_call 6; (with_reducible refine (hQ _).mono ?_); rintro e wq ⟨rfl, hb3⟩; obtain ⟨hc3, hf3⟩ := hb3.cells; have hs3 := hb3.size; (try simp at hs3)))
  go_ret
  exact ⟨ret_bool (by simp), (by repeat (first | (with_reducible exact Gr.refl _) | (with_reducible assumption) | (with_reducible refine Gr.alloc ?_ _) | (with_reducible refine Gr.drew ?_) | (with_reducible refine Gr.drewN ?_ _) | (with_reducible refine Gr.setCell ?_ (by simp <;> omega) _) | (with_reducible refine Gr.trans ?_ (by with_reducible assumption)) | exact Gr.refl _ | assumption | refine Gr.alloc ?_ _ | refine Gr.drew ?_ | refine Gr.drewN ?_ _ | refine Gr.setCell ?_ (by simp <;> omega) _ | refine Gr.trans ?_ (by assumption)))⟩
theorem law (kx lx sx : Int) (xa : ByteArray) (k l sc : Int) (half : Bool) (w : World) (hx : xa.size ≤ maxLen) :
    Calls Tryz.prog 3 #[.agg #[.int .i64 kx, .int .i64 lx, .int .i64 sx, .string xa], .agg #[.int .i64 k, .int .i64 l, .int .i64 sc], .bool half] w fun e w' => e = .returned (.bool true) ∧ Gr w w' := by
  by_cases h1 : (700 : Int) < xa.size
  · exact large kx lx sx xa k l sc half hx h1 w
  exact core kx lx sx xa k l sc half _ _ _ (by omega) (prog_cp kx lx sx xa k l sc half (by omega)) (ref_cp kx lx sx xa k l sc half (by omega)) w

section
variable {H : Type} {enc : TypeId × Value → H} {w : World} {base : Nat} {spare : Nat → Bool} {held : Bool}
theorem arr3 {cs : Array Value} (h : cs.size = 3) : ∃ a b c, cs = #[a, b, c] := by
  obtain ⟨l⟩ := cs
  match l, h with
  | [a, b, c], _ => exact ⟨a, b, c, rfl⟩
set_option maxRecDepth 100000 in
theorem open_dt {r : Reach} {b0 : Nat} {v : Value} {d : DataW H} {p : List MemPlace} (hv : Value.okWide Tryz.prog w r b0 23 v) (h : DataW.Trod enc Tryz.prog w base spare held 23 v d p) :
    ∃ k l s : Int, v = .agg #[.int .i64 k, .int .i64 l, .int .i64 s] := by
  obtain ⟨cs, rfl, hsz⟩ := okWide_struct Tryz.underlying23 hv
  obtain ⟨c0, c1, c2, rfl⟩ := arr3 (hsz.trans cells_dtq)
  obtain ⟨fuel, hf⟩ := h
  have hf' : DataW.trod enc Tryz.prog w base spare held fuel 23 [c0, c1, c2] = some (d, p) := by simpa [Value.cells] using hf
  obtain ⟨a, b, c, rfl, rfl, rfl⟩ := open_dt3 hf'
  exact ⟨a, b, c, rfl⟩
end

set_option maxRecDepth 100000 in
theorem lifted (os : Os) (started : os.Started) (H : Type) (enc : TypeId × Value → H) :
    ReturnsInHanded {} Tryz.checked os 3 .any (Rows.numericCopiesSpec.pre6 enc Tryz.prog Tryz.f3 Rows.numericCopiesRow.domain false) (Rows.numericCopiesSpec.post enc Tryz.prog Tryz.f3 false true false false) := by
  refine returnsInHanded_of_change (C := Tryz.checked) own_knob started (by kernel_rfl) Tryz.func3
    (ChangeSpec.witness6 (enc := enc) (C := Tryz.checked) false ⟨#[], #[.agg #[.int .i64 0, .int .i64 0, .int .i64 0, .string ⟨#[]⟩], .agg #[.int .i64 0, .int .i64 0, .int .i64 0], .bool false], []⟩ 8 (by kernel_rfl) (by kernel_rfl) (by kernel_rfl) (by kernel_rfl)) ?_
  intro W base args ds gs before hval0 hW hcnd _
  have hval : ∀ (j : Nat) t v, Tryz.f3.params[j]? = some t → args[j]? = some v → Value.okWide Tryz.prog W .any base t v := hval0
  have hW' := hW
  obtain ⟨p, q, hA0, hV, rfl, hfz, hnd⟩ := hW
  have hA : DataW.TrodAll enc Tryz.prog W 0 (fun _ => true) true Tryz.f3.params.toList args.toList ds p := hA0
  rw [Tryz.params3] at hA hval
  obtain ⟨v0, vs0, d0, ds0, p0, q0, hargs, rfl, rfl, h0, r0⟩ := trodAll_cons hA
  obtain ⟨v1, vs1, d1, ds1, p1, q1, hargs1, rfl, rfl, h1, r1⟩ := trodAll_cons r0
  obtain ⟨v2, vs2, d2, ds2, p2, q2, hargs2, rfl, rfl, h2, r2⟩ := trodAll_cons r1
  obtain ⟨hvz, rfl, rfl⟩ := trodAll_nil r2
  rw [hvz] at hargs2
  rw [hargs2] at hargs1
  rw [hargs1] at hargs
  obtain rfl : args = #[v0, v1, v2] := by cases args; simp_all
  obtain ⟨rfl, rfl⟩ := trodVars_none hV
  obtain ⟨b0, b1, b2, b3, rfl, bw⟩ := open_opr (hval 0 25 v0 rfl rfl) h0
  obtain ⟨c0, c1, c2, rfl⟩ := open_dt (hval 1 23 v1 rfl rfl) h1
  obtain ⟨a2, rfl, e2, g2⟩ := open_bool Tryz.underlying4 (hval 2 4 v2 rfl rfl) h2
  refine (law b0 b1 b2 b3 c0 c1 c2 a2 W bw).mono fun e W' ⟨he, hg⟩ => ?_
  subst he
  have hB : Below W.heap.size W W' := hg
  have hlt := fun x hx => hW'.lt x hx
  have hst := fun (sp' : Nat → Bool) => trodAll_stay laidOut (sp' := sp') (by kernel_rfl) hA0 (fun x hx => hB.same (hlt x (List.mem_append_left _ hx)))
  refine ⟨_, rfl, _, _, _, [], _, [], hW', (trodAll_cons_mk (shut_bool Tryz.underlying4 _) trodAll_mk0), hst _ (fun x hx => by simpa using hlt x (List.mem_append_left _ hx)), rfl, ?_, fun h => by cases h⟩
  exact World.keptBut_mono (fun x hx => ⟨hx, Or.inr (by simpa using hx)⟩) (hB.frame (· ∈ _))

theorem proved : Rows.NumericCopiesSaid :=
  OpenClaim.holds_of_wide 3 Tryz.f3 rfl rfl rfl rfl rfl rfl rfl ⟨rfl, rfl, rfl, rfl, rfl⟩ rfl rfl rfl rfl rfl (by kernel_rfl) Tryz.func3 (by kernel_rfl)
    (of_decide_eq_true (by kernel_rfl)) (by unfold Func.isWrapper; first | (rw [if_pos (by decide +kernel)]; kernel_rfl) | (rw [if_neg (by decide +kernel)]; exact ⟨rfl, rfl⟩))
    (fun os started H enc _ => lifted os started H enc)
#print axioms proved
#print axioms proved
end Go.Proofs.YtnaflaokhldfnaaGreat.lawCopiesN
