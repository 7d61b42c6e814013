/- SegmentUndone: for every store and operation the law returns true (after an operation and the operations that lead back behind it the store is as it was); no condition. -/
import Derived.Test.YthbinjoiljddkaaIx
namespace Go.Proofs.Ythbinjoiljddkaa.lawUndone
set_option linter.unusedSimpArgs false
set_option linter.unusedVariables false
open Go.Proofs.Ythbinjoiljddkaa
open Go.ChangeShapes Go.WideShapes Go.ChangeAt Go.RowKit Go.Joins Go.Deep

theorem few_set {gs : List (Int × ByteArray)} {i : Nat} {y : ByteArray} (h : fewB gs = true) (hi : i < gs.length) (hy : y.size ≤ 400) : fewB (setG gs i y) = true := by
  obtain ⟨h1, h2⟩ := few_yes h
  refine few_good (by rw [setG_len]; omega) ?_
  rw [fB_none _ _ 0 (fun k _ hk => ?_), Nat.zero_add]
  rw [setG_len] at hk
  unfold bigG
  rw [setG_by hi]
  split
  · exact decide_eq_false (by omega)
  · have := h2 k (by omega)
    exact decide_eq_false (by omega)
section
variable {gs : List (Int × ByteArray)} {kd sn o pg : Int} {b : ByteArray}
theorem unL_len : (unL gs kd sn o pg b).length ≤ 2 := by
  unfold unL pbL bbL
  repeat' split
  all_goals simp
theorem unL_sh (hx : (byG gs (fI gs sn)).size ≤ 287) : ShO (unL gs kd sn o pg b) := by
  intro i hi
  have hq : opAt (unL gs kd sn o pg b) i ∈ unL gs kd sn o pg b := by
    unfold opAt
    rw [List.getD_eq_getElem?_getD, List.getElem?_eq_getElem hi]
    exact List.getElem_mem hi
  generalize opAt (unL gs kd sn o pg b) i = q at hq
  have hz : ∀ s e, ((byG gs (fI gs sn)).extract s e).size ≤ maxLen := fun s e => by rw [ByteArray.size_extract]; unfold maxLen; omega
  have h0 : (⟨#[]⟩ : ByteArray).size ≤ maxLen := by unfold maxLen; exact Nat.zero_le _
  unfold unL pbL bbL at hq
  repeat' split at hq
  all_goals
    simp only [List.mem_cons, List.not_mem_nil, or_false] at hq
  all_goals first | (exact hq.elim) | (subst hq; first | exact h0 | exact hz _ _) | (rcases hq with hq | hq <;> subst hq <;> first | exact h0 | exact hz _ _)
end

theorem law (A : Option Addr) (n c : Nat) (gs : List (Int × ByteArray)) (nx kd sn o pg : Int) (b : ByteArray) (w : World) (hs : Sv w A n c 2 (sg gs)) (hb : Sh gs) (_hx : (Lit.int .i64 nx).wf = true) (hbz : b.size ≤ maxLen) :
    Calls Try.prog 10 #[.agg #[.slice A n c, .int .i64 nx], .agg #[.int .i64 kd, .int .i64 sn, .int .i64 o, .int .i64 pg, .string b]] w fun e w' => e = .returned (.bool true) ∧ Gr w w' := by
  rcases Bool.eq_false_or_eq_true (fewB gs) with hf | hf
  rotate_left
  · exact su_large A n c gs nx kd sn o pg b w hs hb (.inl hf)
  by_cases hd : (400 : Int) < b.size
  · exact su_large A n c gs nx kd sn o pg b w hs hb (.inr ⟨hf, hd⟩)
  have hlen := hs.segs
  have hn : n ≤ 1000000 := by have := (few_yes hf).1; omega
  obtain ⟨⟨g', x', N', E'⟩, hr⟩ : ∃ r, alR nx gs [(kd, sn, o, pg, b)] = r := ⟨_, rfl⟩
  by_cases hE : E' = 0
  rotate_left
  · exact su_bad A n c gs nx kd sn o pg E' [] b w hs hb hf (by omega) hn hE (fun W A c h => Undo_err A n c nx kd sn o pg b g' x' N' E' hE W (hAp A n c gs nx kd sn o pg b hbz W h hb g' x' N' E' hr))
  subst hE
  by_cases hk : kd = 0 ∨ kd = 3
  · exact su_bad A n c gs nx kd sn o pg 39 [] b w hs hb hf (by omega) hn (by decide) (fun W A c h => Undo_ref A n c nx kd sn o pg b g' x' N' hk W (hAp A n c gs nx kd sn o pg b hbz W h hb g' x' N' 0 hr))
  have hk0 : kd ≠ 0 := fun e => hk (.inl e)
  have hk3 : kd ≠ 3 := fun e => hk (.inr e)
  have hst : stE nx gs = 0 := by
    by_cases h : stE nx gs = 0
    · exact h
    · rw [alR, if_pos h] at hr
      unfold bad at hr
      simp only [Prod.mk.injEq] at hr
      exact hr.2.2.2
  have hop : (opR nx gs kd sn o pg b).2.2.2 = 0 := by
    by_cases h : (opR nx gs kd sn o pg b).2.2.2 = 0
    · exact h
    · rw [al_one hst, if_pos h] at hr
      simp only [Prod.mk.injEq] at hr
      exact hr.2.2.2
  obtain ⟨y, hy, ho, hu⟩ := undone hop hk0 hk3
  obtain ⟨hix, hcase⟩ := undo_case hop hk0 hk3
  obtain ⟨e1, e2, e3, -⟩ := ix_zero hix
  have hxo := seg_ok hix
  have hx : (byG gs (fI gs sn)).size ≤ 287 := by unfold PgOk at hxo; omega
  have hys : y.size ≤ 400 := by unfold PgOk at hy; omega
  have hr1 : alR nx gs [(kd, sn, o, pg, b)] = (setG gs (fI gs sn) y, nx, 1, 0) := by rw [al_one hst, ho]; rfl
  have hfa := few_set hf e2 hys
  have hba : Sh (setG gs (fI gs sn) y) := few_sh hfa
  have hll := unL_len (gs := gs) (kd := kd) (sn := sn) (o := o) (pg := pg) (b := b)
  have hls := unL_sh (gs := gs) (kd := kd) (sn := sn) (o := o) (pg := pg) (b := b) hx
  have HB : ∀ W, Calls Try.prog 61 #[.agg #[.int .i64 sn, .string (byG gs (fI gs sn))], .agg #[.int .i64 kd, .int .i64 sn, .int .i64 o, .int .i64 pg, .string b]] W (OpsR (unL gs kd sn o pg b) W) := by
    intro W
    rcases hcase with ⟨rfl, rfl, rfl, q, rfl, hq, hqf⟩ | ⟨rfl, rfl, rfl, q, rfl, hq, hqf⟩ | ⟨rfl, rfl, p, rfl, hpf⟩
    · have hl : unL gs 1 sn 0 q ⟨#[]⟩ = [(2, sn, 0, pgs (byG gs (fI gs sn)), ⟨#[]⟩)] := by rw [unL, if_pos rfl]
      rw [hl]
      exact backTo_1 sn _ sn 0 q ⟨#[]⟩ (by unfold maxLen; omega) W
    · have hl : unL gs 2 sn 0 q ⟨#[]⟩ = pbL sn (byG gs (fI gs sn)) q := by rw [unL, if_neg (by decide), if_pos rfl, Int.toNat_natCast]
      rw [hl]
      exact backTo_2 sn _ sn 0 q ⟨#[]⟩ _ (fun W => pagesBack_any sn _ q hqf hx (by unfold PgOk at hxo; omega) W) W
    · have hl : unL gs 4 sn p 0 b = bbL sn (byG gs (fI gs sn)) p b := by rw [unL, if_neg (by decide), if_neg (by decide), Int.toNat_natCast]
      rw [hl]
      exact backTo_4 sn _ sn p 0 b _ (fun W => bytesBack_any sn _ p p rfl b hpf (by omega) W) W
  clear hcase hop ho hr hst hk
  generalize unL gs kd sn o pg b = l at *
  have hgl : (setG gs (fI gs sn) y).length = n := by rw [setG_len]; exact hlen
  generalize setG gs (fI gs sn) y = ga at *
  refine su_walk A n c gs ga nx kd sn o pg l.length l b w hs hb hf hfa hba (by omega) hn rfl (by omega) (fun W A c h => ?_) (fun W A c B cb h1 h2 => ?_) (fun W A c B cb h1 h2 => ?_)
  · exact Undo_ok A n c gs nx kd sn o pg b ga nx 1 (by simp [hk0]) (by simp [hk3]) hix l W h hb (hAp A n c gs nx kd sn o pg b hbz W h hb ga nx 1 0 hr1) HB
  · have h := hAp A n c gs nx kd sn o pg b hbz W h1 hb ga nx 1 0 hr1 W B cb h2 (Gr.refl _)
    rw [hgl] at h
    exact h
  · have h := (al_both A B n c l.length cb ga nx l W h1 hba h2 hls).1
    rw [hu] at h
    unfold PrA at h
    dsimp only at h
    rw [hlen] at h
    exact h

section
variable {H : Type} {enc : TypeId × Value → H} {w : World} {base : Nat} {held : Bool}
set_option maxRecDepth 100000 in
theorem open_op1 {r : Reach} {b0 : Nat} {v : Value} {d : DataW H} {p : List MemPlace} (hv : Value.okWide Try.prog w r b0 62 v) (h : DataW.Trod enc Try.prog w base (fun _ => true) held 62 v d p) :
    ∃ (kd sn o pg : Int) (b : ByteArray), v = .agg #[.int .i64 kd, .int .i64 sn, .int .i64 o, .int .i64 pg, .string b] ∧ b.size ≤ maxLen := by
  obtain ⟨cs, rfl, hsz⟩ := okWide_struct Try.underlying62 hv
  obtain ⟨fuel, hf⟩ := h
  obtain ⟨kd, sn, o, pg, b, e, wb⟩ := open_op5 (by simpa [Value.cells] using hsz.trans cells_op) hf
  refine ⟨kd, sn, o, pg, b, ?_, wb⟩
  congr 1
  apply Array.toList_inj.1
  simpa [Value.cells] using e
end

set_option maxRecDepth 100000 in
theorem lifted (os : Os) (started : os.Started) (H : Type) (enc : TypeId × Value → H) :
    ReturnsInHanded {} Try.checked os 10 .any (Rows.segmentUndoneSpec.pre6 enc Try.prog Try.f10 Rows.segmentUndoneRow.domain false) (Rows.segmentUndoneSpec.post enc Try.prog Try.f10 false true false false) := by
  refine returnsInHanded_of_change (C := Try.checked) own_knob started (by kernel_rfl) Try.func10
    (ChangeSpec.witness6 (enc := enc) (C := Try.checked) false ⟨#[], #[.agg #[.slice none 0 0, .int .i64 0], .agg #[.int .i64 0, .int .i64 0, .int .i64 0, .int .i64 0, .string ⟨#[]⟩]], []⟩ 8 (by kernel_rfl) (by kernel_rfl) (by kernel_rfl) (by kernel_rfl)) ?_
  intro W base args ds gs before hval0 hW hcnd _
  have hval : ∀ (j : Nat) t v, Try.f10.params[j]? = some t → args[j]? = some v → Value.okWide Try.prog W .any base t v := hval0
  have hW' := hW
  obtain ⟨p, q, hA0, hV, rfl, hfz, hnd⟩ := hW
  have hA : DataW.TrodAll enc Try.prog W 0 (fun _ => true) true Try.f10.params.toList args.toList ds p := hA0
  rw [Try.params10] at hA hval
  obtain ⟨v0, vs0, d0, ds0, p0, q0, hargs, rfl, rfl, h0, r0⟩ := trodAll_cons hA
  obtain ⟨v1, vs1, d1, ds1, p1, q1, hargs1, rfl, rfl, h1, r1⟩ := trodAll_cons r0
  obtain ⟨hvz, rfl, rfl⟩ := trodAll_nil r1
  rw [hvz] at hargs1
  rw [hargs1] at hargs
  obtain rfl : args = #[v0, v1] := by cases args; simp_all
  obtain ⟨rfl, rfl⟩ := trodVars_none hV
  obtain ⟨A, n, c, gs, nx, rfl, hs, hb, hx⟩ := open_sto (hval 0 24 v0 rfl rfl) h0
  obtain ⟨kd, sn, o, pg, b, rfl, hbz⟩ := open_op1 (hval 1 62 v1 rfl rfl) h1
  refine (law A n c gs nx kd sn o pg b W hs hb hx hbz).mono fun e W' ⟨he, hg⟩ => ?_
  subst he
  have hB : Below W.heap.size W W' := hg
  have hlt := fun x hx => hW'.lt x hx
  have hst := fun (sp' : Nat → Bool) => trodAll_stay laidOut (sp' := sp') (by kernel_rfl) hA0 (fun x hx => hB.same (hlt x (List.mem_append_left _ hx)))
  refine ⟨_, rfl, _, _, _, [], _, [], hW', (trodAll_cons_mk (shut_bool Try.underlying4 _) trodAll_mk0), hst _ (fun x hx => by simpa using hlt x (List.mem_append_left _ hx)), rfl, ?_, fun h => by cases h⟩
  exact World.keptBut_mono (fun x hx => ⟨hx, Or.inr (by simpa using hx)⟩) (hB.frame (· ∈ _))

theorem proved : Rows.SegmentUndoneSaid :=
  OpenClaim.holds_of_wide 10 Try.f10 rfl rfl rfl rfl rfl rfl rfl ⟨rfl, rfl, rfl, rfl, rfl⟩ rfl rfl rfl rfl rfl (by kernel_rfl) Try.func10 (by kernel_rfl)
    (of_decide_eq_true (by kernel_rfl)) (by unfold Func.isWrapper; first | (rw [if_pos (by decide +kernel)]; kernel_rfl) | (rw [if_neg (by decide +kernel)]; exact ⟨rfl, rfl⟩))
    (fun os started H enc _ => lifted os started H enc)
#print axioms proved
end Go.Proofs.Ythbinjoiljddkaa.lawUndone
