/- TaggedStorages: for every storage and every number of quadwords the law returns true (Check, and the new storage or the error, are the reference's); no condition. -/
import Derived.Test.YtbgeghodiibmmaaVb
import Derived.Test.YtbgeghodiibmmaaOpen3
namespace Go.Proofs.Ytbgeghodiibmmaa.lawStorages
set_option linter.unusedSimpArgs false
set_option linter.unusedVariables false
open Go.Proofs.Ytbgeghodiibmmaa
open Go.ChangeShapes Go.WideShapes Go.ChangeAt Go.RowKit Go.Joins Go.Deep

theorem law (x : ByteArray) (A : Option Addr) (n c : Nat) (bs : List Bool) (q : Int) (w : World) (hs : Sv w A n c 1 (bv bs)) (hx : x.size ≤ maxLen) (_wq : (Lit.int .i64 q).wf = true) :
    Calls Try.prog 4 #[.agg #[.string x, .slice A n c], .int .i64 q] w fun e w' => e = .returned (.bool true) ∧ Gr w w' := by
  by_cases hf : fewB x n = true
  rotate_left
  · exact ts_large x A n c q w (by simpa using hf)
  have hn : n ≤ 1000000 := by simp [fewB] at hf; omega
  by_cases hi : inI q 64 = true
  · have h0 : 0 ≤ q ∧ q ≤ 64 := by simp [inI] at hi; omega
    obtain ⟨k, rfl⟩ := Int.eq_ofNat_of_zero_le h0.1
    have hk : k ≤ 64 := by omega
    exact ts_walk x (zS k) A n c k bs (List.replicate k false) k 0 w hs hx hn hf (fun W => NewStorage_yes k hk W) (.inr ⟨by simp [wiB]; omega, rfl, fun W => New_any k hk W⟩)
  · have hi' : inI q 64 = false := by simpa using hi
    exact ts_walk x ⟨#[]⟩ A n c 0 bs [] q 3 w hs hx hn hf (fun W => NewStorage_no q hi' W) (.inl ⟨by simp [inI] at hi'; simp [wiB]; omega, rfl, rfl, rfl⟩)

set_option maxRecDepth 100000 in
theorem lifted (os : Os) (started : os.Started) (H : Type) (enc : TypeId × Value → H) :
    ReturnsInHanded {} Try.checked os 4 .any (Rows.taggedStoragesSpec.pre6 enc Try.prog Try.f4 Rows.taggedStoragesRow.domain false) (Rows.taggedStoragesSpec.post enc Try.prog Try.f4 false true false false) := by
  refine returnsInHanded_of_change (C := Try.checked) own_knob started (by kernel_rfl) Try.func4
    (ChangeSpec.witness6 (enc := enc) (C := Try.checked) false ⟨#[], #[.agg #[.string ⟨#[]⟩, .slice none 0 0], .int .i64 0], []⟩ 8 (by kernel_rfl) (by kernel_rfl) (by kernel_rfl) (by kernel_rfl)) ?_
  intro W base args ds gs before hval0 hW hcnd _
  have hval : ∀ (j : Nat) t v, Try.f4.params[j]? = some t → args[j]? = some v → Value.okWide Try.prog W .any base t v := hval0
  have hW' := hW
  obtain ⟨p, q, hA0, hV, rfl, hfz, hnd⟩ := hW
  have hA : DataW.TrodAll enc Try.prog W 0 (fun _ => true) true Try.f4.params.toList args.toList ds p := hA0
  rw [Try.params4] at hA hval
  obtain ⟨v0, vs0, d0, ds0, p0, q0, hargs, rfl, rfl, h0, r0⟩ := trodAll_cons hA
  obtain ⟨v1, vs1, d1, ds1, p1, q1, hargs1, rfl, rfl, h1, r1⟩ := trodAll_cons r0
  obtain ⟨hvz, rfl, rfl⟩ := trodAll_nil r1
  rw [hvz] at hargs1
  rw [hargs1] at hargs
  obtain rfl : args = #[v0, v1] := by cases args; simp_all
  obtain ⟨rfl, rfl⟩ := trodVars_none hV
  obtain ⟨x, A, n, c, bs, rfl, hs, hx⟩ := open_st (hval 0 40 v0 rfl rfl) h0
  obtain ⟨a1, rfl, e1, g1, w1⟩ := open_int Try.underlying3 (hval 1 3 v1 rfl rfl) h1
  refine (law x A n c bs a1 W hs hx w1).mono fun e W' ⟨he, hg⟩ => ?_
  subst he
  have hB : Below W.heap.size W W' := hg
  have hlt := fun x hx => hW'.lt x hx
  have hst := fun (sp' : Nat → Bool) => trodAll_stay laidOut (sp' := sp') (by kernel_rfl) hA0 (fun x hx => hB.same (hlt x (List.mem_append_left _ hx)))
  refine ⟨_, rfl, _, _, _, [], _, [], hW', (trodAll_cons_mk (shut_bool Try.underlying4 _) trodAll_mk0), hst _ (fun x hx => by simpa using hlt x (List.mem_append_left _ hx)), rfl, ?_, fun h => by cases h⟩
  exact World.keptBut_mono (fun x hx => ⟨hx, Or.inr (by simpa using hx)⟩) (hB.frame (· ∈ _))

theorem proved : Rows.TaggedStoragesSaid :=
  OpenClaim.holds_of_wide 4 Try.f4 rfl rfl rfl rfl rfl rfl rfl ⟨rfl, rfl, rfl, rfl, rfl⟩ rfl rfl rfl rfl rfl (by kernel_rfl) Try.func4 (by kernel_rfl)
    (of_decide_eq_true (by kernel_rfl)) (by unfold Func.isWrapper; first | (rw [if_pos (by decide +kernel)]; kernel_rfl) | (rw [if_neg (by decide +kernel)]; exact ⟨rfl, rfl⟩))
    (fun os started H enc _ => lifted os started H enc)
#print axioms proved
end Go.Proofs.Ytbgeghodiibmmaa.lawStorages
