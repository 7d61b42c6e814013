/- SegmentApplies: for every store and every list of operations the law returns true (the store behind them, their number, or the index and the error of the first that has one, are the reference's); no condition. -/
import Derived.Test.YthbinjoiljddkaaIc
import Derived.Test.YthbinjoiljddkaaOpen4
namespace Go.Proofs.Ythbinjoiljddkaa.lawApplies
set_option linter.unusedSimpArgs false
set_option linter.unusedVariables false
open Go.Proofs.Ythbinjoiljddkaa
open Go.ChangeShapes Go.WideShapes Go.ChangeAt Go.RowKit Go.Joins Go.Deep

set_option maxHeartbeats 2000000 in
set_option maxRecDepth 100000 in
theorem sa_large (A B : Option Addr) (n c l cb : Nat) (gs : List (Int × ByteArray)) (nx : Int) (ops : List (Int × Int × Int × Int × ByteArray)) (w : World) (hs : Sv w A n c 2 (sg gs)) (hb : Sh gs) (ho : Sv w B l cb 5 (oc ops)) (hbo : ShO ops) (hf : fewB gs = false ∨ (fewB gs = true ∧ liB ops = false)) :
    Calls Try.prog 7 #[.agg #[.slice A n c, .int .i64 nx], .slice B l cb] w fun e w' => e = .returned (.bool true) ∧ Gr w w' := by
  rcases hf with hf | ⟨hf, hl⟩
  · have HF := Lib.hid (fun W hg => few_is A n c gs nx _ hf W (hs.gr hg) hb)
    clear hs hb hf ho hbo
    go_enter Try.func7, Try.ntmps7
    go_wp2_with (first | (go_at_call 12; (with_reducible refine (awake_any _).mono ?_); rintro e w1 ⟨rfl, hb⟩; obtain ⟨hc, hf⟩ := gcells hb (w.heap.size + 1) (by first | exact hz | omega | (simp; done) | (simp; omega)); have hz : w.heap.size + 1 ≤ w1.heap.size := (by have h := hb.size; (try simp at h); omega); have hz0 : w.heap.size < w1.heap.size := (by omega)) | (go_at_call 13; (with_reducible refine (HF.out _ (by repeat (first | (with_reducible exact Gr.refl _) | (with_reducible assumption) | (with_reducible refine Gr.alloc ?_ _) | (with_reducible refine Gr.drew ?_) | (with_reducible refine Gr.drewN ?_ _) | (with_reducible refine Gr.setCell ?_ (by simp <;> omega) _) | (with_reducible refine Gr.trans ?_ (by with_reducible assumption)) | exact Gr.refl _ | assumption | refine Gr.alloc ?_ _ | refine Gr.drew ?_ | refine Gr.drewN ?_ _ | refine Gr.setCell ?_ (by simp <;> omega) _ | refine Gr.trans ?_ (by assumption)))).mono ?_); rintro e w1 ⟨rfl, hb⟩; obtain ⟨hc, hf⟩ := gcells hb (w.heap.size + 1) (by first | exact hz | omega | (simp; done) | (simp; omega)); have hz : w.heap.size + 1 ≤ w1.heap.size := (by have h := hb.size; (try simp at h); omega); have hz0 : w.heap.size < w1.heap.size := (by omega)))
    go_ret
    exact ⟨rfl, (by repeat (first | (with_reducible exact Gr.refl _) | (with_reducible assumption) | (with_reducible refine Gr.alloc ?_ _) | (with_reducible refine Gr.drew ?_) | (with_reducible refine Gr.drewN ?_ _) | (with_reducible refine Gr.setCell ?_ (by simp <;> omega) _) | (with_reducible refine Gr.trans ?_ (by with_reducible assumption)) | exact Gr.refl _ | assumption | refine Gr.alloc ?_ _ | refine Gr.drew ?_ | refine Gr.drewN ?_ _ | refine Gr.setCell ?_ (by simp <;> omega) _ | refine Gr.trans ?_ (by assumption)))⟩
  · have HF := Lib.hid (fun W hg => few_is A n c gs nx _ hf W (hs.gr hg) hb)
    have HL := Lib.hid (fun W hg => light_is B l cb ops _ hl W (ho.gr hg) hbo)
    clear hs hb hf ho hbo hl
    go_enter Try.func7, Try.ntmps7
    go_wp2_with (first | (go_at_call 12; (with_reducible refine (awake_any _).mono ?_); rintro e w1 ⟨rfl, hb⟩; obtain ⟨hc, hf⟩ := gcells hb (w.heap.size + 1) (by first | exact hz | omega | (simp; done) | (simp; omega)); have hz : w.heap.size + 1 ≤ w1.heap.size := (by have h := hb.size; (try simp at h); omega); have hz0 : w.heap.size < w1.heap.size := (by omega)) | (go_at_call 13; (with_reducible refine (HF.out _ (by repeat (first | (with_reducible exact Gr.refl _) | (with_reducible assumption) | (with_reducible refine Gr.alloc ?_ _) | (with_reducible refine Gr.drew ?_) | (with_reducible refine Gr.drewN ?_ _) | (with_reducible refine Gr.setCell ?_ (by simp <;> omega) _) | (with_reducible refine Gr.trans ?_ (by with_reducible assumption)) | exact Gr.refl _ | assumption | refine Gr.alloc ?_ _ | refine Gr.drew ?_ | refine Gr.drewN ?_ _ | refine Gr.setCell ?_ (by simp <;> omega) _ | refine Gr.trans ?_ (by assumption)))).mono ?_); rintro e w1 ⟨rfl, hb⟩; obtain ⟨hc, hf⟩ := gcells hb (w.heap.size + 1) (by first | exact hz | omega | (simp; done) | (simp; omega)); have hz : w.heap.size + 1 ≤ w1.heap.size := (by have h := hb.size; (try simp at h); omega); have hz0 : w.heap.size < w1.heap.size := (by omega)) | (go_at_call 32; (with_reducible refine (HL.out _ (by repeat (first | (with_reducible exact Gr.refl _) | (with_reducible assumption) | (with_reducible refine Gr.alloc ?_ _) | (with_reducible refine Gr.drew ?_) | (with_reducible refine Gr.drewN ?_ _) | (with_reducible refine Gr.setCell ?_ (by simp <;> omega) _) | (with_reducible refine Gr.trans ?_ (by with_reducible assumption)) | exact Gr.refl _ | assumption | refine Gr.alloc ?_ _ | refine Gr.drew ?_ | refine Gr.drewN ?_ _ | refine Gr.setCell ?_ (by simp <;> omega) _ | refine Gr.trans ?_ (by assumption)))).mono ?_); rintro e w1 ⟨rfl, hb⟩; obtain ⟨hc, hf⟩ := gcells hb (w.heap.size + 1) (by first | exact hz | omega | (simp; done) | (simp; omega)); have hz : w.heap.size + 1 ≤ w1.heap.size := (by have h := hb.size; (try simp at h); omega); have hz0 : w.heap.size < w1.heap.size := (by omega)))
    go_ret
    exact ⟨rfl, (by repeat (first | (with_reducible exact Gr.refl _) | (with_reducible assumption) | (with_reducible refine Gr.alloc ?_ _) | (with_reducible refine Gr.drew ?_) | (with_reducible refine Gr.drewN ?_ _) | (with_reducible refine Gr.setCell ?_ (by simp <;> omega) _) | (with_reducible refine Gr.trans ?_ (by with_reducible assumption)) | exact Gr.refl _ | assumption | refine Gr.alloc ?_ _ | refine Gr.drew ?_ | refine Gr.drewN ?_ _ | refine Gr.setCell ?_ (by simp <;> omega) _ | refine Gr.trans ?_ (by assumption)))⟩

set_option maxHeartbeats 4000000 in
set_option maxRecDepth 100000 in
theorem sa_walk (A B : Option Addr) (n c l cb : Nat) (gs g' : List (Int × ByteArray)) (nx x' N' E' : Int) (ops : List (Int × Int × Int × Int × ByteArray)) (w : World) (hs : Sv w A n c 2 (sg gs)) (hb : Sh gs) (ho : Sv w B l cb 5 (oc ops)) (hbo : ShO ops) (hf : fewB gs = true) (hl : liB ops = true) (hn : n ≤ 1000000) (hln : l ≤ 1000000) (hr : alR nx gs ops = (g', x', N', E')) :
    Calls Try.prog 7 #[.agg #[.slice A n c, .int .i64 nx], .slice B l cb] w fun e w' => e = .returned (.bool true) ∧ Gr w w' := by
  have HF := Lib.hid (fun W hg => few_is A n c gs nx _ hf W (hs.gr hg) hb)
  have HL := Lib.hid (fun W hg => light_is B l cb ops _ hl W (ho.gr hg) hbo)
  have HO := Lib.hid (fun W hg => Own_n A n c gs nx W (hs.gr hg) hn)
  have HP := Lib.hid (fun W hg => OwnOps_any B l cb ops W (ho.gr hg) hln)
  have HA := Lib.hid (fun W A c B cb (h1 : Sv W A n c 2 (sg gs)) (h2 : Sv W B l cb 5 (oc ops)) => (al_both A B n c l cb gs nx ops W h1 hb h2 hbo).1)
  have HX := Lib.hid (fun W (hg : Gr w W) => (al_both A B n c l cb gs nx ops W (hs.gr hg) hb (ho.gr hg) hbo).2)
  rw [hr] at HA HX
  unfold PrA at HA
  unfold RfA at HX
  dsimp only at HA HX
  clear hs hb hf ho hbo hl hr
  go_enter Try.func7, Try.ntmps7
  go_wp2_with (first
    | (go_at_call 12; (with_reducible refine (awake_any _).mono ?_); rintro e w1 ⟨rfl, hb⟩; obtain ⟨hc, hf⟩ := gcells hb (w.heap.size + 1) (by first | exact hz | omega | (simp; done) | (simp; omega)); have hz : w.heap.size + 1 ≤ w1.heap.size := (by have h := hb.size; (try simp at h); omega); have hz0 : w.heap.size < w1.heap.size := (by omega))
    | (go_at_call 13; (with_reducible refine (HF.out _ (by repeat (first | (with_reducible exact Gr.refl _) | (with_reducible assumption) | (with_reducible refine Gr.alloc ?_ _) | (with_reducible refine Gr.drew ?_) | (with_reducible refine Gr.drewN ?_ _) | (with_reducible refine Gr.setCell ?_ (by simp <;> omega) _) | (with_reducible refine Gr.trans ?_ (by with_reducible assumption)) | exact Gr.refl _ | assumption | refine Gr.alloc ?_ _ | refine Gr.drew ?_ | refine Gr.drewN ?_ _ | refine Gr.setCell ?_ (by simp <;> omega) _ | refine Gr.trans ?_ (by assumption)))).mono ?_); rintro e w1 ⟨rfl, hb⟩; obtain ⟨hc, hf⟩ := gcells hb (w.heap.size + 1) (by first | exact hz | omega | (simp; done) | (simp; omega)); have hz : w.heap.size + 1 ≤ w1.heap.size := (by have h := hb.size; (try simp at h); omega); have hz0 : w.heap.size < w1.heap.size := (by omega))
    | (go_at_call 32; (with_reducible refine (HL.out _ (by repeat (first | (with_reducible exact Gr.refl _) | (with_reducible assumption) | (with_reducible refine Gr.alloc ?_ _) | (with_reducible refine Gr.drew ?_) | (with_reducible refine Gr.drewN ?_ _) | (with_reducible refine Gr.setCell ?_ (by simp <;> omega) _) | (with_reducible refine Gr.trans ?_ (by with_reducible assumption)) | exact Gr.refl _ | assumption | refine Gr.alloc ?_ _ | refine Gr.drew ?_ | refine Gr.drewN ?_ _ | refine Gr.setCell ?_ (by simp <;> omega) _ | refine Gr.trans ?_ (by assumption)))).mono ?_); rintro e w1 ⟨rfl, hb⟩; obtain ⟨hc, hf⟩ := gcells hb (w.heap.size + 1) (by first | exact hz | omega | (simp; done) | (simp; omega)); have hz : w.heap.size + 1 ≤ w1.heap.size := (by have h := hb.size; (try simp at h); omega); have hz0 : w.heap.size < w1.heap.size := (by omega))
    | (go_at_call 15; (with_reducible refine (HO.out _ (by repeat (first | (with_reducible exact Gr.refl _) | (with_reducible assumption) | (with_reducible refine Gr.alloc ?_ _) | (with_reducible refine Gr.drew ?_) | (with_reducible refine Gr.drewN ?_ _) | (with_reducible refine Gr.setCell ?_ (by simp <;> omega) _) | (with_reducible refine Gr.trans ?_ (by with_reducible assumption)) | exact Gr.refl _ | assumption | refine Gr.alloc ?_ _ | refine Gr.drew ?_ | refine Gr.drewN ?_ _ | refine Gr.setCell ?_ (by simp <;> omega) _ | refine Gr.trans ?_ (by assumption)))).mono ?_); rintro e w2 ⟨A2, c2, rfl, hV2, hb, hzz⟩; have HV2 := Lib.hid hV2; clear hV2; obtain ⟨hc, hf⟩ := gcells hb (w.heap.size + 1) (by first | exact hz | (simp; done) | (simp; omega) | omega); have hz : w.heap.size + 1 ≤ w2.heap.size := (by have h := Gr.size hb; (try simp at h); omega); have hz0 : w.heap.size < w2.heap.size := (by omega))
    | (go_at_call 34; (with_reducible refine (HP.out _ (by repeat (first | (with_reducible exact Gr.refl _) | (with_reducible assumption) | (with_reducible refine Gr.alloc ?_ _) | (with_reducible refine Gr.drew ?_) | (with_reducible refine Gr.drewN ?_ _) | (with_reducible refine Gr.setCell ?_ (by simp <;> omega) _) | (with_reducible refine Gr.trans ?_ (by with_reducible assumption)) | exact Gr.refl _ | assumption | refine Gr.alloc ?_ _ | refine Gr.drew ?_ | refine Gr.drewN ?_ _ | refine Gr.setCell ?_ (by simp <;> omega) _ | refine Gr.trans ?_ (by assumption)))).mono ?_); rintro e w3 ⟨B3, cb3, rfl, hV3, hb⟩; have HV3 := Lib.hid hV3; clear hV3; have h3 := Lib.hid hb; obtain ⟨hc, hf⟩ := gcells hb (w.heap.size + 1) (by first | exact hz | (simp; done) | (simp; omega) | omega); have hz : w.heap.size + 1 ≤ w3.heap.size := (by have h := Gr.size hb; (try simp at h); omega); have hz0 : w.heap.size < w3.heap.size := (by omega))
    | (go_at_call 33; (with_reducible refine (HA.out _ _ _ _ _ (HV2.out.sv.gr h3.out) HV3.out.sv).mono ?_); rintro e w5 ⟨A5, c5, rfl, hV5, hne5, hb⟩; have HV5 := Lib.hid hV5; clear hV5 hne5; obtain ⟨hc, hf⟩ := gcells hb (w.heap.size + 1) (by first | exact hz | (simp; done) | (simp; omega) | omega); have hz : w.heap.size + 1 ≤ w5.heap.size := (by have h := Gr.size hb; (try simp at h); omega); have hz0 : w.heap.size < w5.heap.size := (by omega))
    | (go_at_call 35; (with_reducible refine (HX.out _ (by repeat (first | (with_reducible exact Gr.refl _) | (with_reducible assumption) | (with_reducible refine Gr.alloc ?_ _) | (with_reducible refine Gr.drew ?_) | (with_reducible refine Gr.drewN ?_ _) | (with_reducible refine Gr.setCell ?_ (by simp <;> omega) _) | (with_reducible refine Gr.trans ?_ (by with_reducible assumption)) | exact Gr.refl _ | assumption | refine Gr.alloc ?_ _ | refine Gr.drew ?_ | refine Gr.drewN ?_ _ | refine Gr.setCell ?_ (by simp <;> omega) _ | refine Gr.trans ?_ (by assumption)))).mono ?_); rintro e w6 ⟨A6, c6, rfl, hV6, hb⟩; have HV6 := Lib.hid hV6; clear hV6; have a0 := hb.keep (p := ⟨w5.heap.size, 0, none⟩) (v := .slice A5 g'.length c5) (by simp [go_sem]); have a1 := hb.keep (p := ⟨w5.heap.size, 1, none⟩) (v := .int .i64 x') (by simp [go_sem]); have hzA : w5.heap.size < w6.heap.size := (World.block_lt_of_cell? w6 _ a0); have VA := Lib.hid ((HV5.out.gr ((Gr.refl _).alloc _)).gr hb); obtain ⟨hc, hf⟩ := gcells hb (w.heap.size + 1) (by first | exact hz | (simp; done) | (simp; omega) | omega); have hz : w.heap.size + 1 ≤ w6.heap.size := (by have h := Gr.size hb; (try simp at h); omega); have hz0 : w.heap.size < w6.heap.size := (by omega))
    | (go_at_call 22; (with_reducible refine (is_any A5 A6 g'.length c5 c6 g' x' E' N' ⟨#[]⟩ _ (VA.out.gr (by repeat (first | (with_reducible exact Gr.refl _) | (with_reducible assumption) | (with_reducible refine Gr.alloc ?_ _) | (with_reducible refine Gr.drew ?_) | (with_reducible refine Gr.drewN ?_ _) | (with_reducible refine Gr.setCell ?_ (by simp <;> omega) _) | (with_reducible refine Gr.trans ?_ (by with_reducible assumption)) | exact Gr.refl _ | assumption | refine Gr.alloc ?_ _ | refine Gr.drew ?_ | refine Gr.drewN ?_ _ | refine Gr.setCell ?_ (by simp <;> omega) _ | refine Gr.trans ?_ (by assumption)))) (HV6.out.sv.gr (by repeat (first | (with_reducible exact Gr.refl _) | (with_reducible assumption) | (with_reducible refine Gr.alloc ?_ _) | (with_reducible refine Gr.drew ?_) | (with_reducible refine Gr.drewN ?_ _) | (with_reducible refine Gr.setCell ?_ (by simp <;> omega) _) | (with_reducible refine Gr.trans ?_ (by with_reducible assumption)) | exact Gr.refl _ | assumption | refine Gr.alloc ?_ _ | refine Gr.drew ?_ | refine Gr.drewN ?_ _ | refine Gr.setCell ?_ (by simp <;> omega) _ | refine Gr.trans ?_ (by assumption))))).mono ?_); rintro e w7 ⟨rfl, hb⟩; have x2 := hb.keep (p := ⟨w6.heap.size, 2, none⟩) (v := .int .i64 N') (by simp [go_sem]); obtain ⟨hc, hf⟩ := gcells hb (w.heap.size + 1) (by first | exact hz | (simp; done) | (simp; omega) | omega); have hz : w.heap.size + 1 ≤ w7.heap.size := (by have h := Gr.size hb; (try simp at h); omega); have hz0 : w.heap.size < w7.heap.size := (by omega)))
  go_ret
  exact ⟨ret_bool (by simp), (by repeat (first | (with_reducible exact Gr.refl _) | (with_reducible assumption) | (with_reducible refine Gr.alloc ?_ _) | (with_reducible refine Gr.drew ?_) | (with_reducible refine Gr.drewN ?_ _) | (with_reducible refine Gr.setCell ?_ (by simp <;> omega) _) | (with_reducible refine Gr.trans ?_ (by with_reducible assumption)) | exact Gr.refl _ | assumption | refine Gr.alloc ?_ _ | refine Gr.drew ?_ | refine Gr.drewN ?_ _ | refine Gr.setCell ?_ (by simp <;> omega) _ | refine Gr.trans ?_ (by assumption)))⟩

theorem law (A : Option Addr) (n c : Nat) (gs : List (Int × ByteArray)) (nx : Int) (B : Option Addr) (l cb : Nat) (ops : List (Int × Int × Int × Int × ByteArray)) (w : World) (hs : Sv w A n c 2 (sg gs)) (hb : Sh gs) (_hx : (Lit.int .i64 nx).wf = true) (ho : Sv w B l cb 5 (oc ops)) (hbo : ShO ops) :
    Calls Try.prog 7 #[.agg #[.slice A n c, .int .i64 nx], .slice B l cb] w fun e w' => e = .returned (.bool true) ∧ Gr w w' := by
  rcases Bool.eq_false_or_eq_true (fewB gs) with hf | hf
  rotate_left
  · exact sa_large A B n c l cb gs nx ops w hs hb ho hbo (.inl hf)
  rcases Bool.eq_false_or_eq_true (liB ops) with hl | hl
  rotate_left
  · exact sa_large A B n c l cb gs nx ops w hs hb ho hbo (.inr ⟨hf, hl⟩)
  have hn : n ≤ 1000000 := by have := (few_yes hf).1; have := hs.segs; omega
  have hln : l ≤ 1000000 := by have := (li_yes hl).1; have := ho.ops; omega
  obtain ⟨⟨g', x', N', E'⟩, hr⟩ : ∃ r, alR nx gs ops = r := ⟨_, rfl⟩
  exact sa_walk A B n c l cb gs g' nx x' N' E' ops w hs hb ho hbo hf hl hn hln hr

set_option maxRecDepth 100000 in
theorem lifted (os : Os) (started : os.Started) (H : Type) (enc : TypeId × Value → H) :
    ReturnsInHanded {} Try.checked os 7 .any (Rows.segmentAppliesSpec.pre6 enc Try.prog Try.f7 Rows.segmentAppliesRow.domain false) (Rows.segmentAppliesSpec.post enc Try.prog Try.f7 false true false false) := by
  refine returnsInHanded_of_change (C := Try.checked) own_knob started (by kernel_rfl) Try.func7
    (ChangeSpec.witness6 (enc := enc) (C := Try.checked) false ⟨#[], #[.agg #[.slice none 0 0, .int .i64 0], .slice none 0 0], []⟩ 8 (by kernel_rfl) (by kernel_rfl) (by kernel_rfl) (by kernel_rfl)) ?_
  intro W base args ds gs before hval0 hW hcnd _
  have hval : ∀ (j : Nat) t v, Try.f7.params[j]? = some t → args[j]? = some v → Value.okWide Try.prog W .any base t v := hval0
  have hW' := hW
  obtain ⟨p, q, hA0, hV, rfl, hfz, hnd⟩ := hW
  have hA : DataW.TrodAll enc Try.prog W 0 (fun _ => true) true Try.f7.params.toList args.toList ds p := hA0
  rw [Try.params7] at hA hval
  obtain ⟨v0, vs0, d0, ds0, p0, q0, hargs, rfl, rfl, h0, r0⟩ := trodAll_cons hA
  obtain ⟨v1, vs1, d1, ds1, p1, q1, hargs1, rfl, rfl, h1, r1⟩ := trodAll_cons r0
  obtain ⟨hvz, rfl, rfl⟩ := trodAll_nil r1
  rw [hvz] at hargs1
  rw [hargs1] at hargs
  obtain rfl : args = #[v0, v1] := by cases args; simp_all
  obtain ⟨rfl, rfl⟩ := trodVars_none hV
  obtain ⟨A, n, c, gs, nx, rfl, hs, hb, hx⟩ := open_sto (hval 0 24 v0 rfl rfl) h0
  obtain ⟨B, l, cb, ops, rfl, ho, hbo⟩ := open_ops (hval 1 55 v1 rfl rfl) h1
  refine (law A n c gs nx B l cb ops W hs hb hx ho hbo).mono fun e W' ⟨he, hg⟩ => ?_
  subst he
  have hB : Below W.heap.size W W' := hg
  have hlt := fun x hx => hW'.lt x hx
  have hst := fun (sp' : Nat → Bool) => trodAll_stay laidOut (sp' := sp') (by kernel_rfl) hA0 (fun x hx => hB.same (hlt x (List.mem_append_left _ hx)))
  refine ⟨_, rfl, _, _, _, [], _, [], hW', (trodAll_cons_mk (shut_bool Try.underlying4 _) trodAll_mk0), hst _ (fun x hx => by simpa using hlt x (List.mem_append_left _ hx)), rfl, ?_, fun h => by cases h⟩
  exact World.keptBut_mono (fun x hx => ⟨hx, Or.inr (by simpa using hx)⟩) (hB.frame (· ∈ _))

theorem proved : Rows.SegmentAppliesSaid :=
  OpenClaim.holds_of_wide 7 Try.f7 rfl rfl rfl rfl rfl rfl rfl ⟨rfl, rfl, rfl, rfl, rfl⟩ rfl rfl rfl rfl rfl (by kernel_rfl) Try.func7 (by kernel_rfl)
    (of_decide_eq_true (by kernel_rfl)) (by unfold Func.isWrapper; first | (rw [if_pos (by decide +kernel)]; kernel_rfl) | (rw [if_neg (by decide +kernel)]; exact ⟨rfl, rfl⟩))
    (fun os started H enc _ => lifted os started H enc)
#print axioms proved
end Go.Proofs.Ythbinjoiljddkaa.lawApplies
