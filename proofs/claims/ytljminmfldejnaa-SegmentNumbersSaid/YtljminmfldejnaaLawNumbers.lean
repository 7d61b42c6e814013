/- SegmentNumbers: for every store and every list of operations the law returns true (each new segment gets a number that no segment had before, a number that was destroyed stays destroyed); no condition. -/
import Derived.Test.YtljminmfldejnaaKc
import Derived.Test.YtljminmfldejnaaOpen4
namespace Go.Proofs.Ytljminmfldejnaa.lawNumbers
set_option linter.unusedSimpArgs false
set_option linter.unusedVariables false
open Go.Proofs.Ytljminmfldejnaa
open Go.ChangeShapes Go.WideShapes Go.ChangeAt Go.RowKit Go.Joins Go.Deep

theorem law (A : Option Addr) (n c : Nat) (gs : List (Int × ByteArray)) (nx : Int) (B : Option Addr) (l cb : Nat) (ops : List (Int × Int × Int × Int × ByteArray)) (w : World) (hs : Sv w A n c 2 (sg gs)) (hb : Sh gs) (_hx : (Lit.int .i64 nx).wf = true) (ho : Sv w B l cb 5 (oc ops)) (hbo : ShO ops) :
    Calls Try.prog 9 #[.agg #[.slice A n c, .int .i64 nx], .slice B l cb] w fun e w' => e = .returned (.bool true) ∧ Gr w w' := by
  rcases Bool.eq_false_or_eq_true (fewB gs) with hf | hf
  rotate_left
  · exact sn_large A B n c l cb gs nx ops w hs hb ho hbo (.inl hf)
  rcases Bool.eq_false_or_eq_true (liB ops) with hl | hl
  rotate_left
  · exact sn_large A B n c l cb gs nx ops w hs hb ho hbo (.inr (.inl ⟨hf, hl⟩))
  by_cases he : stE nx gs = 0
  · exact sn_walk A B n c l cb gs nx ops w hs hb ho hbo hf hl he
  · exact sn_large A B n c l cb gs nx ops w hs hb ho hbo (.inr (.inr ⟨hf, hl, he⟩))

set_option maxRecDepth 100000 in
theorem lifted (os : Os) (started : os.Started) (H : Type) (enc : TypeId × Value → H) :
    ReturnsInHanded {} Try.checked os 9 .any (Rows.segmentNumbersSpec.pre6 enc Try.prog Try.f9 Rows.segmentNumbersRow.domain false) (Rows.segmentNumbersSpec.post enc Try.prog Try.f9 false true false false) := by
  refine returnsInHanded_of_change (C := Try.checked) own_knob started (by kernel_rfl) Try.func9
    (ChangeSpec.witness6 (enc := enc) (C := Try.checked) false ⟨#[], #[.agg #[.slice none 0 0, .int .i64 0], .slice none 0 0], []⟩ 8 (by kernel_rfl) (by kernel_rfl) (by kernel_rfl) (by kernel_rfl)) ?_
  intro W base args ds gs before hval0 hW hcnd _
  have hval : ∀ (j : Nat) t v, Try.f9.params[j]? = some t → args[j]? = some v → Value.okWide Try.prog W .any base t v := hval0
  have hW' := hW
  obtain ⟨p, q, hA0, hV, rfl, hfz, hnd⟩ := hW
  have hA : DataW.TrodAll enc Try.prog W 0 (fun _ => true) true Try.f9.params.toList args.toList ds p := hA0
  rw [Try.params9] at hA hval
  obtain ⟨v0, vs0, d0, ds0, p0, q0, hargs, rfl, rfl, h0, r0⟩ := trodAll_cons hA
  obtain ⟨v1, vs1, d1, ds1, p1, q1, hargs1, rfl, rfl, h1, r1⟩ := trodAll_cons r0
  obtain ⟨hvz, rfl, rfl⟩ := trodAll_nil r1
  rw [hvz] at hargs1
  rw [hargs1] at hargs
  obtain rfl : args = #[v0, v1] := by cases args; simp_all
  obtain ⟨rfl, rfl⟩ := trodVars_none hV
  obtain ⟨A, n, c, gs, nx, rfl, hs, hb, hx⟩ := open_sto (hval 0 24 v0 rfl rfl) h0
  obtain ⟨B, l, cb, ops, rfl, ho, hbo⟩ := open_ops (hval 1 55 v1 rfl rfl) h1
  refine (law A n c gs nx B l cb ops W hs hb hx ho hbo).mono fun e W' ⟨he, hg⟩ => ?_
  subst he
  have hB : Below W.heap.size W W' := hg
  have hlt := fun x hx => hW'.lt x hx
  have hst := fun (sp' : Nat → Bool) => trodAll_stay laidOut (sp' := sp') (by kernel_rfl) hA0 (fun x hx => hB.same (hlt x (List.mem_append_left _ hx)))
  refine ⟨_, rfl, _, _, _, [], _, [], hW', (trodAll_cons_mk (shut_bool Try.underlying4 _) trodAll_mk0), hst _ (fun x hx => by simpa using hlt x (List.mem_append_left _ hx)), rfl, ?_, fun h => by cases h⟩
  exact World.keptBut_mono (fun x hx => ⟨hx, Or.inr (by simpa using hx)⟩) (hB.frame (· ∈ _))

theorem proved : Rows.SegmentNumbersSaid :=
  OpenClaim.holds_of_wide 9 Try.f9 rfl rfl rfl rfl rfl rfl rfl ⟨rfl, rfl, rfl, rfl, rfl⟩ rfl rfl rfl rfl rfl (by kernel_rfl) Try.func9 (by kernel_rfl)
    (of_decide_eq_true (by kernel_rfl)) (by unfold Func.isWrapper; first | (rw [if_pos (by decide +kernel)]; kernel_rfl) | (rw [if_neg (by decide +kernel)]; exact ⟨rfl, rfl⟩))
    (fun os started H enc _ => lifted os started H enc)
#print axioms proved
end Go.Proofs.Ytljminmfldejnaa.lawNumbers
