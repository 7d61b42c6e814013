/- NumericNumbers: for all pairs of numbers the law returns true (which numbers are right, their order and their texts, or the errors, are the reference's); no condition but that strconv's table is laid, which the card ties to the program's text. -/
import Derived.Test.YtnaflaokhldfnaaDoorQ19
import Derived.Test.YtnaflaokhldfnaaDoorQ26
import Derived.Test.YtnaflaokhldfnaaDoorQ28
import Derived.Test.YtnaflaokhldfnaaDoorQ29
import Derived.Test.YtnaflaokhldfnaaDoorQ31
namespace Go.Proofs.YtnaflaokhldfnaaDoor.lawNumbersN
set_option linter.unusedSimpArgs false
set_option linter.unusedVariables false
open Go.Proofs.YtnaflaokhldfnaaDoor
open Go.ChangeShapes Go.WideShapes Go.ChangeAt Go.RowKit Go.Joins Go.Deep
set_option linter.unusedVariables false

def CcB (a : World) (s : Value) (W : World) : Prop := s = .bool false ∧ Gr a W
set_option maxHeartbeats 8000000 in
set_option maxRecDepth 100000 in
theorem core (n s m t R Ec E1 : Int) (S : ByteArray)
    (hC : ∀ w, Calls Tryd.prog 6 #[.agg #[.int .i64 n, .int .i64 s], .agg #[.int .i64 m, .int .i64 t]] w fun e w' => e = .returned (.tuple #[.int .i64 R, .int .i64 Ec]) ∧ Gr w w')
    (hF : ∀ w, TabW w → Calls Tryd.prog 7 #[.agg #[.int .i64 n, .int .i64 s]] w fun e w' => e = .returned (.tuple #[.string S, .int .i64 E1]) ∧ Gr w w')
    (hD : ∀ w, Calls Tryd.prog 8 #[.agg #[.int .i64 n, .int .i64 s], .agg #[.int .i64 m, .int .i64 t]] w fun e w' => e = .returned (.tuple #[.int .i64 R, .int .i64 Ec]) ∧ Gr w w')
    (hK : ∀ w, Calls Tryd.prog 9 #[.agg #[.int .i64 n, .int .i64 s]] w fun e w' => e = .returned (.int .i64 E1) ∧ Gr w w')
    (hN : ∀ w, Calls Tryd.prog 10 #[.agg #[.int .i64 n, .int .i64 s]] w fun e w' => e = .returned (.int .i64 E1) ∧ Gr w w')
    (hX : ((E1 != 0) = true ∧ S = ⟨#[]⟩) ∨ (E1 = 0 ∧ ∀ w, Calls Tryd.prog 11 #[.agg #[.int .i64 n, .int .i64 s]] w fun e w' => e = .returned (.string S) ∧ Gr w w')) (w : World) (hT : TabW w) :
    Calls Tryd.prog 3 #[.agg #[.int .i64 n, .int .i64 s], .agg #[.int .i64 m, .int .i64 t]] w fun e w' => e = .returned (.bool true) ∧ Gr w w' := by
  have HT := Lib.hid hT
  have HX := Lib.hid hX
  clear hX hT
  go_enter Tryd.func3, Tryd.ntmps3
  go_upto_region 1 with (fail)
  have q : ∀ W, W = (w.alloc (.cells #[.int .i64 n, .int .i64 s] 23)).alloc (.cells #[.int .i64 m, .int .i64 t] 23) → (W.cell? ⟨w.heap.size, 0, none⟩ = some (.int .i64 n) ∧ W.cell? ⟨w.heap.size, 1, none⟩ = some (.int .i64 s) ∧ W.cell? ⟨w.heap.size + 1, 0, none⟩ = some (.int .i64 m) ∧ W.cell? ⟨w.heap.size + 1, 1, none⟩ = some (.int .i64 t) ∧ Gr w W ∧ w.heap.size + 1 < W.heap.size) := by
    rintro W rfl
    refine ⟨?_, ?_, ?_, ?_, (by repeat (first | (with_reducible exact Gr.refl _) | (with_reducible assumption) | (with_reducible refine Gr.alloc ?_ _) | (with_reducible refine Gr.drew ?_) | (with_reducible refine Gr.drewN ?_ _) | (with_reducible refine Gr.setCell ?_ (by simp <;> omega) _) | (with_reducible refine Gr.trans ?_ (by with_reducible assumption)) | exact Gr.refl _ | assumption | refine Gr.alloc ?_ _ | refine Gr.drew ?_ | refine Gr.drewN ?_ _ | refine Gr.setCell ?_ (by simp <;> omega) _ | refine Gr.trans ?_ (by assumption))), ?_⟩ <;> first | (simp [go_sem]; done) | (simp; done) | (simp; omega)
  obtain ⟨q0, q1, q2, q3, hG, hz⟩ := q _ rfl
  have HG := Lib.hid hG
  have H0 := Lib.hid q0
  have H1 := Lib.hid q1
  have H2 := Lib.hid q2
  have H3 := Lib.hid q3
  clear q hG
  generalize (w.alloc (.cells #[.int .i64 n, .int .i64 s] 23)).alloc (.cells #[.int .i64 m, .int .i64 t] 23) = W0 at *
  generalize w.heap.size = G at *
  have la := World.block_lt_of_cell? _ _ q0
  have lb := World.block_lt_of_cell? _ _ q2
  (try dsimp only at la lb)
  go_upto_region 6 with (first
    | (go_at_call 5; (with_reducible refine (awake_any _).mono ?_); rintro e wa ⟨rfl, hb⟩; have g := (show Gr W0 wa from Gr.trans (by repeat (first | (with_reducible exact Gr.refl _) | (with_reducible assumption) | (with_reducible refine Gr.alloc ?_ _) | (with_reducible refine Gr.drew ?_) | (with_reducible refine Gr.drewN ?_ _) | (with_reducible refine Gr.setCell ?_ (by simp <;> omega) _) | (with_reducible refine Gr.trans ?_ (by with_reducible assumption)) | exact Gr.refl _ | assumption | refine Gr.alloc ?_ _ | refine Gr.drew ?_ | refine Gr.drewN ?_ _ | refine Gr.setCell ?_ (by simp <;> omega) _ | refine Gr.trans ?_ (by assumption))) hb); have q0 := g.keep H0.out; have q1 := g.keep H1.out; have q2 := g.keep H2.out; have q3 := g.keep H3.out; have la := World.block_lt_of_cell? _ _ q0; have lb := World.block_lt_of_cell? _ _ q2; (try dsimp only at la lb))
    | (go_at_call 6; (with_reducible refine (hC _).mono ?_); rintro e wb ⟨rfl, hb⟩; have g := (show Gr W0 wb from Gr.trans (by repeat (first | (with_reducible exact Gr.refl _) | (with_reducible assumption) | (with_reducible refine Gr.alloc ?_ _) | (with_reducible refine Gr.drew ?_) | (with_reducible refine Gr.drewN ?_ _) | (with_reducible refine Gr.setCell ?_ (by simp <;> omega) _) | (with_reducible refine Gr.trans ?_ (by with_reducible assumption)) | exact Gr.refl _ | assumption | refine Gr.alloc ?_ _ | refine Gr.drew ?_ | refine Gr.drewN ?_ _ | refine Gr.setCell ?_ (by simp <;> omega) _ | refine Gr.trans ?_ (by assumption))) hb); have q0 := g.keep H0.out; have q1 := g.keep H1.out; have q2 := g.keep H2.out; have q3 := g.keep H3.out; have la := World.block_lt_of_cell? _ _ q0; have lb := World.block_lt_of_cell? _ _ q2; (try dsimp only at la lb))
    | (go_at_call 7; (with_reducible refine (hF _ (HT.out.gr (HG.out.trans (by repeat (first | (with_reducible exact Gr.refl _) | (with_reducible assumption) | (with_reducible refine Gr.alloc ?_ _) | (with_reducible refine Gr.drew ?_) | (with_reducible refine Gr.drewN ?_ _) | (with_reducible refine Gr.setCell ?_ (by simp <;> omega) _) | (with_reducible refine Gr.trans ?_ (by with_reducible assumption)) | exact Gr.refl _ | assumption | refine Gr.alloc ?_ _ | refine Gr.drew ?_ | refine Gr.drewN ?_ _ | refine Gr.setCell ?_ (by simp <;> omega) _ | refine Gr.trans ?_ (by assumption)))))).mono ?_); rintro e wc ⟨rfl, hb⟩; have g := (show Gr W0 wc from Gr.trans (by repeat (first | (with_reducible exact Gr.refl _) | (with_reducible assumption) | (with_reducible refine Gr.alloc ?_ _) | (with_reducible refine Gr.drew ?_) | (with_reducible refine Gr.drewN ?_ _) | (with_reducible refine Gr.setCell ?_ (by simp <;> omega) _) | (with_reducible refine Gr.trans ?_ (by with_reducible assumption)) | exact Gr.refl _ | assumption | refine Gr.alloc ?_ _ | refine Gr.drew ?_ | refine Gr.drewN ?_ _ | refine Gr.setCell ?_ (by simp <;> omega) _ | refine Gr.trans ?_ (by assumption))) hb); have q0 := g.keep H0.out; have q1 := g.keep H1.out; have q2 := g.keep H2.out; have q3 := g.keep H3.out; have la := World.block_lt_of_cell? _ _ q0; have lb := World.block_lt_of_cell? _ _ q2; (try dsimp only at la lb))
    | (go_at_call 8; (with_reducible refine (hD _).mono ?_); rintro e wd ⟨rfl, hb⟩; have g := (show Gr W0 wd from Gr.trans (by repeat (first | (with_reducible exact Gr.refl _) | (with_reducible assumption) | (with_reducible refine Gr.alloc ?_ _) | (with_reducible refine Gr.drew ?_) | (with_reducible refine Gr.drewN ?_ _) | (with_reducible refine Gr.setCell ?_ (by simp <;> omega) _) | (with_reducible refine Gr.trans ?_ (by with_reducible assumption)) | exact Gr.refl _ | assumption | refine Gr.alloc ?_ _ | refine Gr.drew ?_ | refine Gr.drewN ?_ _ | refine Gr.setCell ?_ (by simp <;> omega) _ | refine Gr.trans ?_ (by assumption))) hb); have q0 := g.keep H0.out; have q1 := g.keep H1.out; have q2 := g.keep H2.out; have q3 := g.keep H3.out; have la := World.block_lt_of_cell? _ _ q0; have lb := World.block_lt_of_cell? _ _ q2; (try dsimp only at la lb); have GD := Lib.hid (HG.out.trans g)))
  go_cut [45] (fun s45 wx => CcB wd s45 wx)
  case first =>
    go_region_held3 (fun w' => w'.cell? ⟨G, 0, none⟩ = some (.int .i64 n) ∧ w'.cell? ⟨G, 1, none⟩ = some (.int .i64 s)) (((try go_split_ands); (repeat' apply And.intro) <;> ((try simp only [World.cell?_drew]); first | (with_reducible assumption) | (simp [go_sem]; done) | ((repeat (first | (refine keepFar ?_ (by first | (dsimp only; omega) | (simp; done) | (simp; omega))) | (refine (Gr.alloc (Gr.refl _) _).keep ?_))); (try simp only [World.cell?_drew]); first | (with_reducible assumption) | (refine hb.keep ?_; (try simp only [World.cell?_drew]); first | (with_reducible assumption) | (simp [go_sem]; done) | ((repeat (refine (Gr.alloc (Gr.refl _) _).keep ?_)); (try simp only [World.cell?_drew]); (with_reducible assumption))) | (simp [*, go_sem]; done)))))
      (first
        | (go_at_call 9; (with_reducible refine (hK _).mono ?_); rintro e wK ⟨rfl, hb⟩; have gK := Lib.hid (show Gr wd wK from Gr.trans (by repeat (first | (with_reducible exact Gr.refl _) | (with_reducible assumption) | (with_reducible refine Gr.alloc ?_ _) | (with_reducible refine Gr.drew ?_) | (with_reducible refine Gr.drewN ?_ _) | (with_reducible refine Gr.setCell ?_ (by simp <;> omega) _) | (with_reducible refine Gr.trans ?_ (by with_reducible assumption)) | exact Gr.refl _ | assumption | refine Gr.alloc ?_ _ | refine Gr.drew ?_ | refine Gr.drewN ?_ _ | refine Gr.setCell ?_ (by simp <;> omega) _ | refine Gr.trans ?_ (by assumption))) hb))
        | (go_at_call 10; (with_reducible refine (hN _).mono ?_); rintro e wN ⟨rfl, hb⟩; have gN := Lib.hid (show Gr wd wN from gK.out.trans (Gr.trans (by repeat (first | (with_reducible exact Gr.refl _) | (with_reducible assumption) | (with_reducible refine Gr.alloc ?_ _) | (with_reducible refine Gr.drew ?_) | (with_reducible refine Gr.drewN ?_ _) | (with_reducible refine Gr.setCell ?_ (by simp <;> omega) _) | (with_reducible refine Gr.trans ?_ (by with_reducible assumption)) | exact Gr.refl _ | assumption | refine Gr.alloc ?_ _ | refine Gr.drew ?_ | refine Gr.drewN ?_ _ | refine Gr.setCell ?_ (by simp <;> omega) _ | refine Gr.trans ?_ (by assumption))) hb))))
    all_goals
      go_wp2_with fail
      go_meet
      exact ⟨rfl, gN.out.trans (by repeat (first | (with_reducible exact Gr.refl _) | (with_reducible assumption) | (with_reducible refine Gr.alloc ?_ _) | (with_reducible refine Gr.drew ?_) | (with_reducible refine Gr.drewN ?_ _) | (with_reducible refine Gr.setCell ?_ (by simp <;> omega) _) | (with_reducible refine Gr.trans ?_ (by with_reducible assumption)) | exact Gr.refl _ | assumption | refine Gr.alloc ?_ _ | refine Gr.drew ?_ | refine Gr.drewN ?_ _ | refine Gr.setCell ?_ (by simp <;> omega) _ | refine Gr.trans ?_ (by assumption)))⟩
  case rest =>
    obtain ⟨rfl, hG⟩ := hcut
    have q0 := hG.keep q0
    have q1 := hG.keep q1
    have GE := Lib.hid (GD.out.trans hG)
    have la := World.block_lt_of_cell? _ _ q0
    (try dsimp only at la)
    rcases HX.out with ⟨h0, rfl⟩ | ⟨rfl, hTx⟩
    · clear HX hG
      go_wp2_with (first | (go_at_call 10; (with_reducible refine (hN _).mono ?_); rintro e we ⟨rfl, hb⟩))
      go_ret
      exact ⟨ret_bool (by simp), GE.out.trans (by repeat (first | (with_reducible exact Gr.refl _) | (with_reducible assumption) | (with_reducible refine Gr.alloc ?_ _) | (with_reducible refine Gr.drew ?_) | (with_reducible refine Gr.drewN ?_ _) | (with_reducible refine Gr.setCell ?_ (by simp <;> omega) _) | (with_reducible refine Gr.trans ?_ (by with_reducible assumption)) | exact Gr.refl _ | assumption | refine Gr.alloc ?_ _ | refine Gr.drew ?_ | refine Gr.drewN ?_ _ | refine Gr.setCell ?_ (by simp <;> omega) _ | refine Gr.trans ?_ (by assumption)))⟩
    · clear HX hG
      go_wp2_with (first | (go_at_call 10; (with_reducible refine (hN _).mono ?_); rintro e we ⟨rfl, hb⟩; have q0 := (show Gr _ we from Gr.trans (by repeat (first | (with_reducible exact Gr.refl _) | (with_reducible assumption) | (with_reducible refine Gr.alloc ?_ _) | (with_reducible refine Gr.drew ?_) | (with_reducible refine Gr.drewN ?_ _) | (with_reducible refine Gr.setCell ?_ (by simp <;> omega) _) | (with_reducible refine Gr.trans ?_ (by with_reducible assumption)) | exact Gr.refl _ | assumption | refine Gr.alloc ?_ _ | refine Gr.drew ?_ | refine Gr.drewN ?_ _ | refine Gr.setCell ?_ (by simp <;> omega) _ | refine Gr.trans ?_ (by assumption))) hb).keep q0; have q1 := (show Gr _ we from Gr.trans (by repeat (first | (with_reducible exact Gr.refl _) | (with_reducible assumption) | (with_reducible refine Gr.alloc ?_ _) | (with_reducible refine Gr.drew ?_) | (with_reducible refine Gr.drewN ?_ _) | (with_reducible refine Gr.setCell ?_ (by simp <;> omega) _) | (with_reducible refine Gr.trans ?_ (by with_reducible assumption)) | exact Gr.refl _ | assumption | refine Gr.alloc ?_ _ | refine Gr.drew ?_ | refine Gr.drewN ?_ _ | refine Gr.setCell ?_ (by simp <;> omega) _ | refine Gr.trans ?_ (by assumption))) hb).keep q1; have la := World.block_lt_of_cell? _ _ q0; (try dsimp only at la)) | (go_at_call 11; (with_reducible refine (hTx _).mono ?_); rintro e wf ⟨rfl, hb2⟩))
      go_ret
      exact ⟨ret_bool (by simp), GE.out.trans (by repeat (first | (with_reducible exact Gr.refl _) | (with_reducible assumption) | (with_reducible refine Gr.alloc ?_ _) | (with_reducible refine Gr.drew ?_) | (with_reducible refine Gr.drewN ?_ _) | (with_reducible refine Gr.setCell ?_ (by simp <;> omega) _) | (with_reducible refine Gr.trans ?_ (by with_reducible assumption)) | exact Gr.refl _ | assumption | refine Gr.alloc ?_ _ | refine Gr.drew ?_ | refine Gr.drewN ?_ _ | refine Gr.setCell ?_ (by simp <;> omega) _ | refine Gr.trans ?_ (by assumption)))⟩
theorem law (n s m t : Int) (w : World) (hT : TabW w) :
    Calls Tryd.prog 3 #[.agg #[.int .i64 n, .int .i64 s], .agg #[.int .i64 m, .int .i64 t]] w fun e w' => e = .returned (.bool true) ∧ Gr w w' := by
  by_cases h : numErr n s = 0
  · exact core n s m t _ _ 0 (fmtS n s.toNat) (Compared_any n s m t) (fun w hT => FormatNumber_ok n s s.toNat rfl h w hT) (refCompared_any n s m t) (by have := CheckNumber_any n s; rw [h] at this; exact this) (by have := NumberErr_any n s; rw [h] at this; exact this) (.inr ⟨rfl, Text_any n s s.toNat rfl h⟩) w hT
  · exact core n s m t _ _ _ _ (Compared_any n s m t) (fun w hT => FormatNumber_bad n s h w) (refCompared_any n s m t) (CheckNumber_any n s) (NumberErr_any n s) (.inl ⟨by simp [h], rfl⟩) w hT

set_option maxRecDepth 100000 in
theorem lifted (os : Os) (started : os.Started) (H : Type) (enc : TypeId × Value → H) :
    ReturnsInHanded {} Tryd.checked os 3 .any (fun w args => (Rows.numericNumbersSpec.pre enc Tryd.prog Tryd.f3 [] false w args ∧ laidMetH Tryd.prog laidL w) ∧ sizedMet enc Tryd.prog Tryd.f3 (OpenSpec.ofChange Rows.numericNumbersSpec) false w args) (Rows.numericNumbersSpec.post enc Tryd.prog Tryd.f3 false true false false) := by
  refine returnsInHanded_of_change_and (C := Tryd.checked) (X := fun w _ => laidMetH Tryd.prog laidL w) (fun _ _ _ hh h => h.of_heap hh) own_knob started (by kernel_rfl) Tryd.func3
    (ChangeSpec.witness_shaped (enc := enc) (C := Tryd.checked) (os := os) (X := fun w _ => laidMetH Tryd.prog laidL w) false (World.doorLaid Tryd.prog 24 os) #[.agg #[.int .i64 0, .int .i64 0], .agg #[.int .i64 0, .int .i64 0]] 8 rfl (World.shaped_of_RefB (by kernel_rfl) (by kernel_rfl)) (by kernel_rfl) (by kernel_rfl) (by kernel_rfl) (door_met os _)) ?_
  intro W base args ds gs before hval0 hW hcnd _ hL _
  have hval : ∀ (j : Nat) t v, Tryd.f3.params[j]? = some t → args[j]? = some v → Value.okWide Tryd.prog W .any base t v := hval0
  have hW' := hW
  obtain ⟨p, q, hA0, hV, rfl, hfz, hnd⟩ := hW
  have hA : DataW.TrodAll enc Tryd.prog W 0 (fun _ => true) true Tryd.f3.params.toList args.toList ds p := hA0
  rw [Tryd.params3] at hA hval
  obtain ⟨v0, vs0, d0, ds0, p0, q0, hargs, rfl, rfl, h0, r0⟩ := trodAll_cons hA
  obtain ⟨v1, vs1, d1, ds1, p1, q1, hargs1, rfl, rfl, h1, r1⟩ := trodAll_cons r0
  obtain ⟨hvz, rfl, rfl⟩ := trodAll_nil r1
  rw [hvz] at hargs1
  rw [hargs1] at hargs
  obtain rfl : args = #[v0, v1] := by cases args; simp_all
  obtain ⟨rfl, rfl⟩ := trodVars_none hV
  obtain ⟨a0, a1, rfl⟩ := open_nu (hval 0 23 v0 rfl rfl) h0
  obtain ⟨b0, b1, rfl⟩ := open_nu (hval 1 23 v1 rfl rfl) h1
  refine (law a0 a1 b0 b1 W (tab_of_laid hL)).mono fun e W' ⟨he, hg⟩ => ?_
  subst he
  have hB : Below W.heap.size W W' := hg
  have hlt := fun x hx => hW'.lt x hx
  have hst := fun (sp' : Nat → Bool) => trodAll_stay laidOut (sp' := sp') (by kernel_rfl) hA0 (fun x hx => hB.same (hlt x (List.mem_append_left _ hx)))
  refine ⟨_, rfl, _, _, _, [], _, [], hW', (trodAll_cons_mk (shut_bool Tryd.underlying4 _) trodAll_mk0), hst _ (fun x hx => by simpa using hlt x (List.mem_append_left _ hx)), rfl, ?_, fun h => by cases h⟩
  exact World.keptBut_mono (fun x hx => ⟨hx, Or.inr (by simpa using hx)⟩) (hB.frame (· ∈ _))

theorem proved : Rows.NumericNumbersSaid :=
  OpenClaim.holds_of_wide 3 Tryd.f3 rfl rfl rfl rfl rfl rfl rfl ⟨rfl, rfl, rfl, rfl, rfl⟩ rfl rfl rfl rfl rfl (by kernel_rfl) Tryd.func3 (by kernel_rfl)
    (of_decide_eq_true (by kernel_rfl)) (by unfold Func.isWrapper; first | (rw [if_pos (by decide +kernel)]; kernel_rfl) | (rw [if_neg (by decide +kernel)]; exact ⟨rfl, rfl⟩))
    (fun os started H enc _ => lifted os started H enc)
#print axioms proved

theorem card : Rows.NumericNumbersCardSaid :=
  Claim7.holds_tied_plain_at .later [] [.data, .data, .data] true Rows.numericNumbersCard.stood.harness false
    proved (fun _ h => by cases h) (by kernel_rfl) (fun _ h => by cases h) numericNumbers_row_tie rfl ⟨rfl, rfl⟩ (by kernel_rfl) rfl
    (fun f fn hf hfn => by
      obtain rfl : f = 3 := Option.some.inj ((show Tryd.prog.funcNamed "midrange/midrangelaw01.NumericNumbers" = some 3 by kernel_rfl).symm.trans hf) |>.symm
      obtain rfl : fn = Tryd.f3 := (Option.some.inj (Tryd.func3.symm.trans hfn)).symm
      exact ⟨by kernel_rfl, fun j t ht => by
        rw [Tryd.params3] at ht
        have hm : t ∈ [23, 23] := by simpa using Array.mem_of_getElem? ht
        have hall : ([23, 23].all fun u => !Tryd.prog.wantsStandIn u) = true := by kernel_rfl
        exact (show Tryd.prog.wantsStandIn t = false by simpa using List.all_eq_true.1 hall t hm)⟩)
    (by kernel_rfl)
#print axioms card
end Go.Proofs.YtnaflaokhldfnaaDoor.lawNumbersN
