/- TaggedFinds: for every storage, place and pattern the law returns true (where the pattern stands, and which quadwords have a tag, are the reference's, or the errors); no condition. -/
import Derived.Test.YtbgeghodiibmmaaWd
import Derived.Test.YtbgeghodiibmmaaOpen3
import Derived.HandedShaped
import Derived.Shelf.Vars
namespace Go.Proofs.Ytbgeghodiibmmaa.lawFinds
set_option linter.unusedSimpArgs false
set_option linter.unusedVariables false
open Go.Proofs.Ytbgeghodiibmmaa
open Go.ChangeShapes Go.WideShapes Go.ChangeAt Go.RowKit Go.Joins Go.Deep

set_option maxHeartbeats 2000000 in
set_option maxRecDepth 100000 in
theorem tf_large (x d : ByteArray) (A : Option Addr) (n c : Nat) (a : Int) (w : World) (hfew : fewB x n = false ∨ (fewB x n = true ∧ (1200 : Int) < d.size)) :
    Calls Try.prog 8 #[.agg #[.string x, .slice A n c], .int .i64 a, .string d] w fun e w' => e = .returned (.bool true) ∧ Gr w w' := by
  rcases hfew with hf1 | ⟨hf1, hd⟩
  all_goals
    go_enter Try.func8, Try.ntmps8
    go_wp2_with (first | (go_at_call 10; (with_reducible refine (awake_any _).mono ?_); rintro e w1 ⟨rfl, hb⟩; obtain ⟨hc, hf⟩ := gcells hb (w.heap.size + 1) (by first | exact hz | omega | (simp; done) | (simp; omega)); have hz : w.heap.size + 1 ≤ w1.heap.size := (by have h := hb.size; (try simp at h); omega); have hz0 : w.heap.size < w1.heap.size := (by omega)) | (go_at_call 17; (with_reducible refine (few_any x A n c _).mono ?_); rintro e w1 ⟨rfl, hb⟩; obtain ⟨hc, hf⟩ := gcells hb (w.heap.size + 1) (by first | exact hz | omega | (simp; done) | (simp; omega)); have hz : w.heap.size + 1 ≤ w1.heap.size := (by have h := hb.size; (try simp at h); omega); have hz0 : w.heap.size < w1.heap.size := (by omega)))
    go_ret
    exact ⟨rfl, (by repeat (first | (with_reducible exact Gr.refl _) | (with_reducible assumption) | (with_reducible refine Gr.alloc ?_ _) | (with_reducible refine Gr.drew ?_) | (with_reducible refine Gr.drewN ?_ _) | (with_reducible refine Gr.setCell ?_ (by simp <;> omega) _) | (with_reducible refine Gr.trans ?_ (by with_reducible assumption)) | exact Gr.refl _ | assumption | refine Gr.alloc ?_ _ | refine Gr.drew ?_ | refine Gr.drewN ?_ _ | refine Gr.setCell ?_ (by simp <;> omega) _ | refine Gr.trans ?_ (by assumption)))⟩
theorem cb_bad {x : ByteArray} {bs : List Bool} {a n : Int} (h : ckErr x bs ≠ 0) : cbErr x bs a n = ckErr x bs := by unfold cbErr; rw [if_pos h]
theorem cb_out {x : ByteArray} {bs : List Bool} {a n : Int} (h : ckErr x bs = 0) (hh : hB x a n = false) : cbErr x bs a n = 3 := by unfold cbErr; rw [if_neg (by simp [h]), hh]; rfl
theorem cb_in {x : ByteArray} {bs : List Bool} {a n : Int} (h : ckErr x bs = 0) (hh : hB x a n = true) : cbErr x bs a n = 0 := by unfold cbErr; rw [if_neg (by simp [h]), hh]; rfl
theorem empty_size {d : ByteArray} (h : d.toList.isEmpty = false) : d.size ≠ 0 := by
  intro h0
  rw [ByteArray.toList_eq] at h
  have hl := len_tl d
  rw [h0] at hl
  rw [List.eq_nil_of_length_eq_zero hl] at h
  cases h

theorem law (x : ByteArray) (A : Option Addr) (n c : Nat) (bs : List Bool) (a : Int) (d : ByteArray) (w : World) (hs : Sv w A n c 1 (bv bs)) (hx : x.size ≤ maxLen) (_wa : (Lit.int .i64 a).wf = true) (hd : d.size ≤ maxLen) (mm : Int) (hm : w.cell? ⟨0, 0, none⟩ = some (.int .i64 mm)) :
    Calls Try.prog 8 #[.agg #[.string x, .slice A n c], .int .i64 a, .string d] w fun e w' => e = .returned (.bool true) ∧ Gr w w' := by
  by_cases hf : fewB x n = true
  rotate_left
  · exact tf_large x d A n c a w (.inl (by simpa using hf))
  by_cases hd2 : (d.size : Int) ≤ 1200
  rotate_left
  · exact tf_large x d A n c a w (.inr ⟨hf, by omega⟩)
  have hn : n ≤ 1000000 := by simp [fewB] at hf; omega
  have hn2 : n ≤ 1000 := by simp [fewB] at hf; omega
  by_cases hC : ckErr x bs = 0
  rotate_left
  · exact tf_walk x d A n c 0 bs [] a 0 _ _ mm w hs hx hn hf hd2 hm (fun W A c h _ => by have h1 := FindBytes_bad x d A n c bs a W h hx (by rw [cb_bad hC]; exact hC); rw [cb_bad hC] at h1; exact h1) (fun W A c h => PointersIn_bad x A n c bs W h hx hC)
      (.inl ⟨_, rfl, hC, rfl, rfl, rfl, rfl⟩)
  obtain ⟨h1, h2, -⟩ := ck_right hC
  have hP : ∀ W A c, Sv W A n c 1 (bv bs) → Calls Try.prog 41 #[.agg #[.string x, .slice A n c]] W (SlE (pO bs n) (pO bs n).length 0 W) := fun W A c h => PointersIn_good x A n c bs _ rfl W h hn2 hx hC
  have hQ : ∀ W A c, Sv W A n c 1 (bv bs) → Calls Try.prog 43 #[.agg #[.string x, .slice A n c]] W (SlI (pO bs n) (pO bs n).length W) := fun W A c h => Pointers_any x A n c bs _ rfl W h hn2
  by_cases hw : wiB a 0 x.size = true
  rotate_left
  · have hw' : wiB a 0 x.size = false := by simpa using hw
    have hb : hB x a 0 = false := by simp [wiB] at hw'; simp [hB]; omega
    have h3 := cb_out hC hb
    exact tf_walk x d A n c _ bs _ a 0 3 0 mm w hs hx hn hf hd2 hm (fun W A c h _ => by have h1 := FindBytes_bad x d A n c bs a W h hx (by rw [h3]; decide); rw [h3] at h1; exact h1) hP (.inr ⟨hC, rfl, hQ, .inl ⟨hw', rfl, rfl⟩⟩)
  have hr : 0 ≤ a ∧ a ≤ x.size := by simp [wiB] at hw; omega
  obtain ⟨k, rfl⟩ := Int.eq_ofNat_of_zero_le hr.1
  have hk : k ≤ x.size := by omega
  have h3 : cbErr x bs k 0 = 0 := cb_in hC (by simp [hB]; omega)
  rcases Bool.eq_false_or_eq_true d.toList.isEmpty with he | he
  · exact tf_walk x d A n c _ bs _ k 0 1 0 mm w hs hx hn hf hd2 hm (fun W A c h _ => FindBytes_empty x d A n c bs k W h hx h3 he) hP (.inr ⟨hC, rfl, hQ, .inr (.inl ⟨hw, he, rfl, rfl⟩)⟩)
  · rcases fd_index x d k hk (empty_size he) with ⟨hR, hJ⟩ | ⟨j, hR, hj, hJ⟩
    · exact tf_walk x d A n c _ bs _ k 0 40 0 mm w hs hx hn hf hd2 hm (fun W A c h hm => FindBytes_none x d A n c bs k mm W h h1 hk h3 he hJ hm) hP
        (.inr ⟨hC, rfl, hQ, .inr (.inr ⟨hw, he, -1, fun W A c => Find_any x d A n c k (-1) hR W h1 (by omega) hk, .inl ⟨rfl, rfl, rfl⟩⟩)⟩)
    · exact tf_walk x d A n c _ bs _ k ((k + j : Nat) : Int) 0 0 mm w hs hx hn hf hd2 hm (fun W A c h hm => FindBytes_at x d A n c bs k j mm W h h1 hj h3 he hJ hm) hP
        (.inr ⟨hC, rfl, hQ, .inr (.inr ⟨hw, he, _, fun W A c => Find_any x d A n c k _ hR W h1 (by omega) hk, .inr ⟨rfl, by omega, rfl⟩⟩)⟩)

set_option maxRecDepth 100000 in
theorem lifted (os : Os) (started : os.Started) (H : Type) (enc : TypeId × Value → H) :
    ReturnsInHanded {} Try.checked os 8 .any (Rows.taggedFindsSpec.pre6 enc Try.prog Try.f8 Rows.taggedFindsRow.domain false) (Rows.taggedFindsSpec.post enc Try.prog Try.f8 false true false false) := by
  refine returnsInHanded_of_change_shaped (C := Try.checked) own_knob started (by kernel_rfl) Try.func8
    (ChangeSpec.witness6 (enc := enc) (C := Try.checked) false ⟨#[], #[.agg #[.string ⟨#[]⟩, .slice none 0 0], .int .i64 0, .string ⟨#[]⟩], []⟩ 8 (by kernel_rfl) (by kernel_rfl) (by kernel_rfl) (by kernel_rfl)) ?_
  intro W base args ds gs before hval0 hW hcnd _ hsh _
  have hval : ∀ (j : Nat) t v, Try.f8.params[j]? = some t → args[j]? = some v → Value.okWide Try.prog W .any base t v := hval0
  have hW' := hW
  obtain ⟨p, q, hA0, hV, rfl, hfz, hnd⟩ := hW
  have hA : DataW.TrodAll enc Try.prog W 0 (fun _ => true) true Try.f8.params.toList args.toList ds p := hA0
  rw [Try.params8] at hA hval
  obtain ⟨v0, vs0, d0, ds0, p0, q0, hargs, rfl, rfl, h0, r0⟩ := trodAll_cons hA
  obtain ⟨v1, vs1, d1, ds1, p1, q1, hargs1, rfl, rfl, h1, r1⟩ := trodAll_cons r0
  obtain ⟨v2, vs2, d2, ds2, p2, q2, hargs2, rfl, rfl, h2, r2⟩ := trodAll_cons r1
  obtain ⟨hvz, rfl, rfl⟩ := trodAll_nil r2
  rw [hvz] at hargs2
  rw [hargs2] at hargs1
  rw [hargs1] at hargs
  obtain rfl : args = #[v0, v1, v2] := by cases args; simp_all
  obtain ⟨rfl, rfl⟩ := trodVars_none hV
  obtain ⟨x, A, n, c, bs, rfl, hs, hx⟩ := open_st (hval 0 40 v0 rfl rfl) h0
  obtain ⟨a1, rfl, e1, g1, w1⟩ := open_int Try.underlying3 (hval 1 3 v1 rfl rfl) h1
  obtain ⟨a2, rfl, e2, g2, w2⟩ := Go.ChangeMaps.open_string Try.underlying9 (hval 2 9 v2 rfl rfl) h2
  obtain ⟨mm, hmm⟩ := cell_of_shapedOpen_int (P := Try.prog) (g := 0) (t := 3) (zero := #[.int .i64 0]) hsh (of_decide_eq_true (by kernel_rfl)) (by kernel_rfl) rfl (by kernel_rfl) (by kernel_rfl) Try.underlying3
  refine (law x A n c bs a1 a2 W hs hx w1 w2 mm hmm).mono fun e W' ⟨he, hg⟩ => ?_
  subst he
  have hB : Below W.heap.size W W' := hg
  have hlt := fun x hx => hW'.lt x hx
  have hst := fun (sp' : Nat → Bool) => trodAll_stay laidOut (sp' := sp') (by kernel_rfl) hA0 (fun x hx => hB.same (hlt x (List.mem_append_left _ hx)))
  refine ⟨_, rfl, _, _, _, [], _, [], hW', (trodAll_cons_mk (shut_bool Try.underlying4 _) trodAll_mk0), hst _ (fun x hx => by simpa using hlt x (List.mem_append_left _ hx)), rfl, ?_, fun h => by cases h⟩
  exact World.keptBut_mono (fun x hx => ⟨hx, Or.inr (by simpa using hx)⟩) (hB.frame (· ∈ _))

theorem proved : Rows.TaggedFindsSaid :=
  OpenClaim.holds_of_wide 8 Try.f8 rfl rfl rfl rfl rfl rfl rfl ⟨rfl, rfl, rfl, rfl, rfl⟩ rfl rfl rfl rfl rfl (by kernel_rfl) Try.func8 (by kernel_rfl)
    (of_decide_eq_true (by kernel_rfl)) (by unfold Func.isWrapper; first | (rw [if_pos (by decide +kernel)]; kernel_rfl) | (rw [if_neg (by decide +kernel)]; exact ⟨rfl, rfl⟩))
    (fun os started H enc _ => lifted os started H enc)
#print axioms proved
end Go.Proofs.Ytbgeghodiibmmaa.lawFinds
