/- Texts of the walks, merged. -/
import Derived.Test.YtmdpejllbalnnaaGreatDoorQ16
import Derived.Laws.IdiomStrings
namespace Go.Proofs.YtmdpejllbalnnaaGreatDoor
set_option linter.unusedSimpArgs false
set_option linter.unusedVariables false
open Go.RowKit

theorem frozen_set (w : World) (p a : Addr) (v : Value) : (w.setCell p v).frozen? a = w.frozen? a := by simp [go_sem]
theorem ByW.set {w : World} {g : Nat} {xs : List UInt8} (h : ByW w g xs) (q : Nat) (y : UInt8) : ByW (w.setCell ⟨g, q, none⟩ (.int .u8 (y.toNat : Int))) g (xs.set q y) := by
  intro j hj
  rw [List.length_set] at hj
  obtain ⟨h1, h2⟩ := h j hj
  refine ⟨?_, (frozen_set _ _ _ _).trans h2⟩
  by_cases e : j = q
  · subst e
    rw [World.cell?_setCell_same' w _ _ (by rw [h1]; rfl), show dAt (xs.set j y) j = y by simp [dAt, List.getD_eq_getElem?_getD, hj]]
  · rw [show dAt (xs.set q y) j = dAt xs j by simp [dAt, List.getD_eq_getElem?_getD, List.getElem?_set, Ne.symm e], ← h1]
    exact World.cell?_setCell_other w _ _ _ (by intro k; injection k with _ h2 _; exact e h2.symm)
/-- What []byte(s) lays. -/
theorem byw_new (W : World) (l : List UInt8) (cap : Nat) (E : TypeId) (N M : Nat) (hN : l.length ≤ N) :
    ByW (W.drew.alloc (.cells (bytesRow (BL l) cap) E (N, M))) W.heap.size l := by
  intro j hj
  have hj2 : j < (BL l).data.size := by show j < l.toArray.size; simpa using hj
  refine ⟨?_, ?_⟩
  · have h := World.cell?_alloc_mark W.drew (bytesRow (BL l) cap) E (N, M) j
    rw [bytesRow_at (BL l) cap j hj2] at h
    have e : (BL l).data[j] = dAt l j := by simp [BL, dAt, List.getD_eq_getElem?_getD, List.getElem?_eq_getElem hj]
    rw [e] at h
    exact h
  · have h := World.frozen?_alloc_mark W.drew (bytesRow (BL l) cap) E N M j
    rw [decide_eq_false (show ¬ N ≤ j by omega), Bool.false_and] at h
    exact h
/-- []byte(s): a world that holds the bytes. -/
theorem bytes_of (w : World) (l : List UInt8) : ∃ cap W, (convert 9 80 (.string (BL l))).run Tryz.prog w = .ok (.slice (some ⟨w.heap.size, 0, none⟩) l.length cap) W ∧ ByW W w.heap.size l ∧ Gr w W ∧ W.heap.size = w.heap.size + 1 := by
  have h := run_bytes_of_string (P := Tryz.prog) w 9 80 5 (BL l) Tryz.underlying9 Tryz.underlying80 Tryz.underlying5
  rw [BL_size] at h
  refine ⟨_, _, h, ?_, ?_, ?_⟩
  · refine byw_new w l _ _ _ _ ?_
    unfold bytesRow
    rw [Array.size_append, Array.size_map]
    show l.length ≤ l.toArray.size + _
    simp
  · exact (Gr.drew (Gr.refl w)).alloc _
  · simp
theorem u8_eqb (a b : UInt8) : ((a.toNat : Int) == (b.toNat : Int)) = (a == b) := by
  by_cases h : a = b
  · subst h; rw [beq_self_eq_true, beq_self_eq_true]
  · have : ¬ (a.toNat : Int) = b.toNat := fun e => h (by rw [← UInt8.toNat_inj]; omega)
    rw [beq_eq_false_iff_ne.2 this, beq_eq_false_iff_ne.2 h]
theorem bd_set (A T : List UInt8) (q : Nat) (hA : A.length = q) (hq : q < T.length) (y : UInt8) : (A ++ T.drop q).set q y = A ++ [y] ++ T.drop (q + 1) := by
  subst hA
  rw [List.drop_eq_getElem_cons hq, List.set_append_right _ _ (Nat.le_refl _), Nat.sub_self, List.set_cons_zero, List.append_assoc]; rfl
theorem bd_keep (A T : List UInt8) (q : Nat) (hq : q < T.length) : A ++ T.drop q = A ++ [dAt T q] ++ T.drop (q + 1) := by
  rw [List.drop_eq_getElem_cons hq, List.append_assoc]
  simp [dAt, List.getD_eq_getElem?_getD, List.getElem?_eq_getElem hq]
theorem byw_str {w : World} {g : Nat} {A : List UInt8} (h : ByW w g A) (n cap : Nat) (hn : A.length = n) : (convert 80 9 (.slice (some ⟨g, 0, none⟩) n cap)).run Tryz.prog w = .ok (.string (BL A)) w := by
  rw [← bI_str]
  refine run_convert_bytes_arg w 80 5 Tryz.underlying80 Tryz.underlying5 g 0 n cap (bI A) (by unfold bI; rw [List.length_map, hn]) (fun i hi => ?_) 9 Tryz.underlying9
  rw [Nat.zero_add, (h i (by omega)).1]
  have hi' : i < A.length := by omega
  simp [bI, dAt, List.getD_eq_getElem?_getD, List.getElem?_eq_getElem hi']
/-- The body's bytes in the block behind the parts' box. -/
def BtW (w : World) (bo st sp : Int) (ast : Bool) (xs : List UInt8) (wr : World) : Prop :=
  ByW wr (w.heap.size + 1) xs ∧ Gr w wr ∧ (wr.cell? ⟨w.heap.size, 0, none⟩ = some (.int .i64 bo) ∧ wr.cell? ⟨w.heap.size, 1, none⟩ = some (.int .i64 st) ∧ wr.cell? ⟨w.heap.size, 2, none⟩ = some (.int .i64 sp) ∧ wr.cell? ⟨w.heap.size, 3, none⟩ = some (.bool ast)) ∧ w.heap.size + 1 < wr.heap.size
theorem BtW.gr {w : World} {bo st sp : Int} {ast : Bool} {xs : List UInt8} {a b : World} (h : BtW w bo st sp ast xs a) (G : Gr a b) : BtW w bo st sp ast xs b := by
  obtain ⟨h1, h2, ⟨c0, c1, c2, c3⟩, hz⟩ := h
  exact ⟨h1.gr G hz, h2.trans G, ⟨G.keep c0, G.keep c1, G.keep c2, G.keep c3⟩, by have := Gr.size G; omega⟩
theorem BtW.set {w : World} {bo st sp : Int} {ast : Bool} {xs ys : List UInt8} {a : World} (h : BtW w bo st sp ast xs a) (q : Nat) (y8 : UInt8) (y : Int) (hy : (y8.toNat : Int) = y) (hx : xs.set q y8 = ys) : BtW w bo st sp ast ys (a.setCell ⟨w.heap.size + 1, q, none⟩ (.int .u8 y)) := by
  subst hy hx
  obtain ⟨h1, h2, ⟨c0, c1, c2, c3⟩, hz⟩ := h
  exact ⟨h1.set q y8, h2.setCell (by simp) _, ⟨(World.cell?_setCell_far _ _ _ _ (by simp)).trans c0, (World.cell?_setCell_far _ _ _ _ (by simp)).trans c1, (World.cell?_setCell_far _ _ _ _ (by simp)).trans c2, (World.cell?_setCell_far _ _ _ _ (by simp)).trans c3⟩, by rw [World.size_setCell]; exact hz⟩
theorem bdS_step (D T : List UInt8) (sp : Int) (fl : UInt8) (q : Nat) : bdS D T sp fl (q + 1) =
    ((bdS D T sp fl q).1 ++ [if dAt T q = 38 then 32 else if ((bdS D T sp fl q).2 && (!posB T sp q || ldO D T sp q == 48)) = true then fl else ldO D T sp q], (bdS D T sp fl q).2 && (!posB T sp q || ldO D T sp q == 48) && !decide ((q : Int) = sp)) := rfl
set_option maxHeartbeats 8000000 in
set_option maxRecDepth 100000 in
theorem bodyText_any (D T : List UInt8) (bo st sp : Int) (ast : Bool) (b : Nat) (hb' : bo = b) (hbT : b ≤ T.length) (hT : T.length ≤ 100) (hD : D.length = psN T sp b) (w : World) :
    Calls Tryz.prog 76 #[.string (BL D), .string (BL T), .agg #[.int .i64 bo, .int .i64 st, .int .i64 sp, .bool ast]] w fun e w' => e = .returned (.string (BL (bdS D T sp (if ast then 42 else 32) b).1)) ∧ Gr w w' := by
  obtain ⟨F, hF⟩ : ∃ F : UInt8, (if ast then 42 else 32) = F := ⟨_, rfl⟩
  rw [hF]
  obtain ⟨fi, hfi⟩ : ∃ fi : Int, (F.toNat : Int) = fi := ⟨_, rfl⟩
  have hast : (ast = true ∧ fi = 42) ∨ (ast = false ∧ fi = 32) := by cases ast <;> simp at hF <;> subst hF <;> subst hfi <;> simp
  have hsz : (BL T).size = T.length := BL_size T
  have hdz : (BL D).size = psN T sp b := by rw [BL_size]; exact hD
  have hcj := cut_j (BL T) bo b hb' (by omega)
  rw [BL_cut] at hcj
  have e0 : (T.drop 0).take (b - 0) = T.take b := by simp
  rw [e0] at hcj
  have hAT : ∀ q (h : q < (BL T).size), (((BL T)[q]'h).toNat : Int) = ((dAt T q).toNat : Int) := fun q h => by rw [BL_at]
  have hAD : ∀ q (h : q < (BL D).size), (((BL D)[q]'h).toNat : Int) = ((dAt D q).toNat : Int) := fun q h => by rw [BL_at]
  have hPo := fun (q : Nat) (h : q < T.length) => isPosition_any T (q : Int) q rfl h bo st sp ast
  have HAT := Lib.hid hAT
  have HAD := Lib.hid hAD
  have HP := Lib.hid hPo
  have HB := Lib.hid hb'
  have HF := Lib.hid hfi
  have HD := Lib.hid hD
  obtain ⟨cap, W1, hcv, hBy, hG1, hz1⟩ := bytes_of (w.alloc (.cells #[.int .i64 bo, .int .i64 st, .int .i64 sp, .bool ast] 66)) (T.take b)
  have hlen : (T.take b).length = b := by rw [List.length_take]; omega
  rw [hlen] at hcv
  have c0 : W1.cell? ⟨w.heap.size, 0, none⟩ = some (.int .i64 bo) := hG1.keep (by simp [go_sem])
  have c1 : W1.cell? ⟨w.heap.size, 1, none⟩ = some (.int .i64 st) := hG1.keep (by simp [go_sem])
  have c2 : W1.cell? ⟨w.heap.size, 2, none⟩ = some (.int .i64 sp) := hG1.keep (by simp [go_sem])
  have c3 : W1.cell? ⟨w.heap.size, 3, none⟩ = some (.bool ast) := hG1.keep (by simp [go_sem])
  have GW : Gr w W1 := Gr.trans ((Gr.refl w).alloc _) hG1
  simp only [World.size_alloc] at hz1 hBy hcv
  have hzz : w.heap.size + 1 < W1.heap.size := by omega
  have HX := Lib.hid (show BtW w bo st sp ast (T.take b) W1 from ⟨hBy, GW, ⟨c0, c1, c2, c3⟩, hzz⟩)
  have HL := Lib.hid hlen
  clear hAT hAD hPo hb' hfi hD hBy GW c0 c1 c2 c3 hG1 hz1 hlen e0 hF
  generalize BL T = X at *
  generalize BL D = Y at *
  go_enter Tryz.func76, Tryz.ntmps76
  go_upto_if 13 with (fail)
  go_cut [7] (fun o wx => o = .int .u8 fi ∧ wx = w.alloc (.cells #[.int .i64 bo, .int .i64 st, .int .i64 sp, .bool ast] 66))
  case first =>
    rcases hast with ⟨rfl, rfl⟩ | ⟨rfl, rfl⟩
    all_goals
      go_wp2
      go_meet
      exact ⟨rfl, rfl⟩
  case rest =>
    obtain ⟨rfl, rfl⟩ := hcut
    clear hast
    go_upto_region 5 with (fail)
    clear hcv hcj
    obtain ⟨bn, hbn⟩ : ∃ bn, psN T sp b = bn := ⟨_, rfl⟩
    rw [hbn] at hdz
    have HBN := Lib.hid hbn
    clear hbn
    go_wp2
    go_loopw [9, 10, 21] (fun v n i wr => ∃ q : Nat, q ≤ b ∧ i = .int .i64 q ∧ n = .int .i64 (psN T sp q : Nat) ∧ v = .bool (bdS D T sp F q).2 ∧ Hid (BtW w bo st sp ast ((bdS D T sp F q).1 ++ (T.take b).drop q) wr)) (fun _ _ i _ => b - (intOf i).toNat)
    case atStart => exact ⟨0, by omega, rfl, rfl, rfl, HX⟩
    case round =>
      obtain ⟨q, hq, rfl, rfl, rfl, hR⟩ := hrel
      by_cases hlt : q < b
      · have hst := bdS_step D T sp F q
        have hps := psN_step T sp q
        have hAl := bdS_len D T sp F q
        have hkn := fun h => psN_lt T sp (q := q) (b := b) hlt h
        rw [HBN.out] at hkn
        have hle := psN_le T sp q
        have hTq : dAt (T.take b) q = dAt T q := by
          unfold dAt; rw [List.getD_eq_getElem?_getD, List.getD_eq_getElem?_getD, List.getElem?_take_of_lt hlt]
        have hset := fun y => bd_set (bdS D T sp F q).1 (T.take b) q hAl (by rw [HL.out]; exact hlt) y
        have hkeep := bd_keep (bdS D T sp F q).1 (T.take b) q (by rw [HL.out]; exact hlt)
        rw [hTq] at hkeep
        have hqX : q < X.size := by omega
        have hbT := HAT.out q hqX
        have hpo := HP.out q (by omega)
        have hvd := fun (k : Nat) (h : k < Y.size) => HAD.out k h
        generalize (bdS D T sp F q).1 = A at *
        generalize (bdS D T sp F q).2 = S at *
        unfold ldO at hst
        generalize psN T sp q = k at *
        obtain ⟨t, ht⟩ : ∃ t, dAt T q = t := ⟨_, rfl⟩
        obtain ⟨m, hm⟩ : ∃ m, (t == 38) = m := ⟨_, rfl⟩
        obtain ⟨p, hp⟩ : ∃ p, decide ((q : Int) = sp) = p := ⟨_, rfl⟩
        have gp : ((q : Int) != sp) = !p := by
          rw [← hp]
          by_cases h : (q : Int) = sp
          · rw [h]; simp
          · simp [h]
        have gm : ((t.toNat : Int) == 38) = m := by rw [← hm]; exact u8_eqb t 38
        have hm2 : (t = 38) = (m = true) := by rw [← hm]; simp
        rw [ht, hp] at hst
        simp only [hm2] at hst
        rw [ht] at hbT hkeep
        obtain ⟨yt, hyt⟩ : ∃ yt, (t.toNat : Int) = yt := ⟨_, rfl⟩
        rw [hyt] at hbT gm
        have hxs := fun j hj => (hR.out.1 : ByW wr (w.heap.size + 1) (A ++ (T.take b).drop q)) j hj
        have hxl : (A ++ (T.take b).drop q).length = b := by rw [List.length_append, List.length_drop, hAl, HL.out]; omega
        obtain ⟨v0, hv0, hf0⟩ : ∃ v, wr.cell? ⟨w.heap.size + 1, q, none⟩ = some v ∧ wr.frozen? ⟨w.heap.size + 1, q, none⟩ = false := ⟨_, hxs q (by rw [hxl]; exact hlt)⟩
        obtain ⟨-, -, ⟨c0, c1, c2, c3⟩, hzz⟩ := hR.out
        have hset2 : ∀ y z : UInt8, (A ++ [y] ++ (T.take b).drop (q + 1)).set q z = A ++ [z] ++ (T.take b).drop (q + 1) := by
          intro y z
          rw [← hset y, List.set_set, hset z]
        have HH := Lib.hid (And.intro hset (And.intro hkeep hset2))
        cases hpb : posB T sp q
        · skip
          have hpo' : ∀ w, Calls Tryz.prog 75 #[.string X, .agg #[.int .i64 bo, .int .i64 st, .int .i64 sp, .bool ast], .int .i64 (q : Int)] w fun e w' => e = .returned (.bool false) ∧ Gr w w' := by rw [← hpb]; exact hpo
          rw [hpb] at hst hps
          have HS := Lib.hid hst
          have HPS := Lib.hid hps
          clear hst hps hpo hpb hset hset2 hkeep hxs hxl hAl hkn hle hTq hvd ht hm hm2 hp hyt HX
          cases S
          · cases m
            · skip
              have E := Lib.hid (show bdS D T sp F (q + 1) = (A ++ [t], false) by rw [HS.out]; simp)
              go_wp2_with (go_at_call 75; (with_reducible refine (hpo' _).mono ?_); rintro e w5 ⟨rfl, hb5⟩; have v5 := hb5.keep hv0; have f5 := (hb5.cells.2 _ _ hzz).trans hf0; have z5 : w.heap.size + 1 < w5.heap.size := (by have := Gr.size hb5; omega); have d0 := hb5.keep c0; have d1 := hb5.keep c1; have d2 := hb5.keep c2; have d3 := hb5.keep c3)
              go_roundw
              case rel => exact ⟨q + 1, by omega, by go_num, by rw [HPS.out]; simp, by rw [E.out], Lib.hid (by rw [E.out]; have h := hR.out.gr hb5; rw [HH.out.2.1] at h; exact h)⟩
              case measure => simp [intOf]; omega
            · skip
              have E := Lib.hid (show bdS D T sp F (q + 1) = (A ++ [32], false) by rw [HS.out]; simp)
              go_wp2_with (go_at_call 75; (with_reducible refine (hpo' _).mono ?_); rintro e w5 ⟨rfl, hb5⟩; have v5 := hb5.keep hv0; have f5 := (hb5.cells.2 _ _ hzz).trans hf0; have z5 : w.heap.size + 1 < w5.heap.size := (by have := Gr.size hb5; omega); have d0 := hb5.keep c0; have d1 := hb5.keep c1; have d2 := hb5.keep c2; have d3 := hb5.keep c3)
              go_roundw
              case rel => exact ⟨q + 1, by omega, by go_num, by rw [HPS.out]; simp, by rw [E.out], Lib.hid (by rw [E.out]; exact (hR.out.gr hb5).set q 32 32 rfl (HH.out.1 32))⟩
              case measure => simp [intOf]; omega
          · cases m
            · cases p
              · skip
                have E := Lib.hid (show bdS D T sp F (q + 1) = (A ++ [F], true) by rw [HS.out]; simp)
                go_wp2_with (go_at_call 75; (with_reducible refine (hpo' _).mono ?_); rintro e w5 ⟨rfl, hb5⟩; have v5 := hb5.keep hv0; have f5 := (hb5.cells.2 _ _ hzz).trans hf0; have z5 : w.heap.size + 1 < w5.heap.size := (by have := Gr.size hb5; omega); have d0 := hb5.keep c0; have d1 := hb5.keep c1; have d2 := hb5.keep c2; have d3 := hb5.keep c3)
                go_roundw
                case rel => exact ⟨q + 1, by omega, by go_num, by rw [HPS.out]; simp, by rw [E.out], Lib.hid (by rw [E.out]; exact (hR.out.gr hb5).set q F fi HF.out (HH.out.1 F))⟩
                case measure => simp [intOf]; omega
              · skip
                have E := Lib.hid (show bdS D T sp F (q + 1) = (A ++ [F], false) by rw [HS.out]; simp)
                go_wp2_with (go_at_call 75; (with_reducible refine (hpo' _).mono ?_); rintro e w5 ⟨rfl, hb5⟩; have v5 := hb5.keep hv0; have f5 := (hb5.cells.2 _ _ hzz).trans hf0; have z5 : w.heap.size + 1 < w5.heap.size := (by have := Gr.size hb5; omega); have d0 := hb5.keep c0; have d1 := hb5.keep c1; have d2 := hb5.keep c2; have d3 := hb5.keep c3)
                go_roundw
                case rel => exact ⟨q + 1, by omega, by go_num, by rw [HPS.out]; simp, by rw [E.out], Lib.hid (by rw [E.out]; exact (hR.out.gr hb5).set q F fi HF.out (HH.out.1 F))⟩
                case measure => simp [intOf]; omega
            · cases p
              · skip
                have E := Lib.hid (show bdS D T sp F (q + 1) = (A ++ [32], true) by rw [HS.out]; simp)
                go_wp2_with (go_at_call 75; (with_reducible refine (hpo' _).mono ?_); rintro e w5 ⟨rfl, hb5⟩; have v5 := hb5.keep hv0; have f5 := (hb5.cells.2 _ _ hzz).trans hf0; have z5 : w.heap.size + 1 < w5.heap.size := (by have := Gr.size hb5; omega); have d0 := hb5.keep c0; have d1 := hb5.keep c1; have d2 := hb5.keep c2; have d3 := hb5.keep c3)
                go_roundw
                case rel => exact ⟨q + 1, by omega, by go_num, by rw [HPS.out]; simp, by rw [E.out], Lib.hid (by rw [E.out]; exact (hR.out.gr hb5).set q 32 32 rfl (HH.out.1 32))⟩
                case measure => simp [intOf]; omega
              · skip
                have E := Lib.hid (show bdS D T sp F (q + 1) = (A ++ [32], false) by rw [HS.out]; simp)
                go_wp2_with (go_at_call 75; (with_reducible refine (hpo' _).mono ?_); rintro e w5 ⟨rfl, hb5⟩; have v5 := hb5.keep hv0; have f5 := (hb5.cells.2 _ _ hzz).trans hf0; have z5 : w.heap.size + 1 < w5.heap.size := (by have := Gr.size hb5; omega); have d0 := hb5.keep c0; have d1 := hb5.keep c1; have d2 := hb5.keep c2; have d3 := hb5.keep c3)
                go_roundw
                case rel => exact ⟨q + 1, by omega, by go_num, by rw [HPS.out]; simp, by rw [E.out], Lib.hid (by rw [E.out]; exact (hR.out.gr hb5).set q 32 32 rfl (HH.out.1 32))⟩
                case measure => simp [intOf]; omega
        · skip
          have hpo' : ∀ w, Calls Tryz.prog 75 #[.string X, .agg #[.int .i64 bo, .int .i64 st, .int .i64 sp, .bool ast], .int .i64 (q : Int)] w fun e w' => e = .returned (.bool true) ∧ Gr w w' := by rw [← hpb]; exact hpo
          rw [hpb] at hst hps
          have hkn2 := hkn hpb
          have hkY : k < Y.size := by omega
          have hbD := hvd k hkY
          obtain ⟨d, hd⟩ : ∃ d, dAt D k = d := ⟨_, rfl⟩
          obtain ⟨z, hz⟩ : ∃ z, (d == 48) = z := ⟨_, rfl⟩
          have gz : ((d.toNat : Int) == 48) = z := by rw [← hz]; exact u8_eqb d 48
          rw [hd] at hst hbD
          simp only [if_true, hz] at hst
          obtain ⟨yd, hyd⟩ : ∃ yd, (d.toNat : Int) = yd := ⟨_, rfl⟩
          rw [hyd] at hbD gz
          have HYD := Lib.hid hyd
          have hk1 : k ≤ 100 := by omega
          clear hd hz hyd
          have HS := Lib.hid hst
          have HPS := Lib.hid hps
          clear hst hps hpo hpb hset hset2 hkeep hxs hxl hAl hkn hle hTq hvd ht hm hm2 hp hyt HX
          cases S
          · cases m
            · skip
              have E := Lib.hid (show bdS D T sp F (q + 1) = (A ++ [d], false) by rw [HS.out]; simp)
              go_wp2_with (go_at_call 75; (with_reducible refine (hpo' _).mono ?_); rintro e w5 ⟨rfl, hb5⟩; have v5 := hb5.keep hv0; have f5 := (hb5.cells.2 _ _ hzz).trans hf0; have z5 : w.heap.size + 1 < w5.heap.size := (by have := Gr.size hb5; omega); have d0 := hb5.keep c0; have d1 := hb5.keep c1; have d2 := hb5.keep c2; have d3 := hb5.keep c3)
              go_roundw
              case rel => exact ⟨q + 1, by omega, by go_num, by rw [HPS.out]; simp, by rw [E.out], Lib.hid (by rw [E.out]; exact (hR.out.gr hb5).set q d yd HYD.out (HH.out.1 d))⟩
              case measure => simp [intOf]; omega
            · skip
              have E := Lib.hid (show bdS D T sp F (q + 1) = (A ++ [32], false) by rw [HS.out]; simp)
              go_wp2_with (go_at_call 75; (with_reducible refine (hpo' _).mono ?_); rintro e w5 ⟨rfl, hb5⟩; have v5 := hb5.keep hv0; have f5 := (hb5.cells.2 _ _ hzz).trans hf0; have z5 : w.heap.size + 1 < w5.heap.size := (by have := Gr.size hb5; omega); have d0 := hb5.keep c0; have d1 := hb5.keep c1; have d2 := hb5.keep c2; have d3 := hb5.keep c3)
              go_roundw
              case rel => exact ⟨q + 1, by omega, by go_num, by rw [HPS.out]; simp, by rw [E.out], Lib.hid (by rw [E.out]; exact ((hR.out.gr hb5).set q d yd HYD.out (HH.out.1 d)).set q 32 32 rfl (HH.out.2.2 d 32))⟩
              case measure => simp [intOf]; omega
          · cases z
            · cases m
              · skip
                have E := Lib.hid (show bdS D T sp F (q + 1) = (A ++ [d], false) by rw [HS.out]; simp)
                go_wp2_with (go_at_call 75; (with_reducible refine (hpo' _).mono ?_); rintro e w5 ⟨rfl, hb5⟩; have v5 := hb5.keep hv0; have f5 := (hb5.cells.2 _ _ hzz).trans hf0; have z5 : w.heap.size + 1 < w5.heap.size := (by have := Gr.size hb5; omega); have d0 := hb5.keep c0; have d1 := hb5.keep c1; have d2 := hb5.keep c2; have d3 := hb5.keep c3)
                go_roundw
                case rel => exact ⟨q + 1, by omega, by go_num, by rw [HPS.out]; simp, by rw [E.out], Lib.hid (by rw [E.out]; exact (hR.out.gr hb5).set q d yd HYD.out (HH.out.1 d))⟩
                case measure => simp [intOf]; omega
              · skip
                have E := Lib.hid (show bdS D T sp F (q + 1) = (A ++ [32], false) by rw [HS.out]; simp)
                go_wp2_with (go_at_call 75; (with_reducible refine (hpo' _).mono ?_); rintro e w5 ⟨rfl, hb5⟩; have v5 := hb5.keep hv0; have f5 := (hb5.cells.2 _ _ hzz).trans hf0; have z5 : w.heap.size + 1 < w5.heap.size := (by have := Gr.size hb5; omega); have d0 := hb5.keep c0; have d1 := hb5.keep c1; have d2 := hb5.keep c2; have d3 := hb5.keep c3)
                go_roundw
                case rel => exact ⟨q + 1, by omega, by go_num, by rw [HPS.out]; simp, by rw [E.out], Lib.hid (by rw [E.out]; exact ((hR.out.gr hb5).set q d yd HYD.out (HH.out.1 d)).set q 32 32 rfl (HH.out.2.2 d 32))⟩
                case measure => simp [intOf]; omega
            · cases m
              · cases p
                · skip
                  have E := Lib.hid (show bdS D T sp F (q + 1) = (A ++ [F], true) by rw [HS.out]; simp)
                  go_wp2_with (go_at_call 75; (with_reducible refine (hpo' _).mono ?_); rintro e w5 ⟨rfl, hb5⟩; have v5 := hb5.keep hv0; have f5 := (hb5.cells.2 _ _ hzz).trans hf0; have z5 : w.heap.size + 1 < w5.heap.size := (by have := Gr.size hb5; omega); have d0 := hb5.keep c0; have d1 := hb5.keep c1; have d2 := hb5.keep c2; have d3 := hb5.keep c3)
                  go_roundw
                  case rel => exact ⟨q + 1, by omega, by go_num, by rw [HPS.out]; simp, by rw [E.out], Lib.hid (by rw [E.out]; exact ((hR.out.gr hb5).set q d yd HYD.out (HH.out.1 d)).set q F fi HF.out (HH.out.2.2 d F))⟩
                  case measure => simp [intOf]; omega
                · skip
                  have E := Lib.hid (show bdS D T sp F (q + 1) = (A ++ [F], false) by rw [HS.out]; simp)
                  go_wp2_with (go_at_call 75; (with_reducible refine (hpo' _).mono ?_); rintro e w5 ⟨rfl, hb5⟩; have v5 := hb5.keep hv0; have f5 := (hb5.cells.2 _ _ hzz).trans hf0; have z5 : w.heap.size + 1 < w5.heap.size := (by have := Gr.size hb5; omega); have d0 := hb5.keep c0; have d1 := hb5.keep c1; have d2 := hb5.keep c2; have d3 := hb5.keep c3)
                  go_roundw
                  case rel => exact ⟨q + 1, by omega, by go_num, by rw [HPS.out]; simp, by rw [E.out], Lib.hid (by rw [E.out]; exact ((hR.out.gr hb5).set q d yd HYD.out (HH.out.1 d)).set q F fi HF.out (HH.out.2.2 d F))⟩
                  case measure => simp [intOf]; omega
              · cases p
                · skip
                  have E := Lib.hid (show bdS D T sp F (q + 1) = (A ++ [32], true) by rw [HS.out]; simp)
                  go_wp2_with (go_at_call 75; (with_reducible refine (hpo' _).mono ?_); rintro e w5 ⟨rfl, hb5⟩; have v5 := hb5.keep hv0; have f5 := (hb5.cells.2 _ _ hzz).trans hf0; have z5 : w.heap.size + 1 < w5.heap.size := (by have := Gr.size hb5; omega); have d0 := hb5.keep c0; have d1 := hb5.keep c1; have d2 := hb5.keep c2; have d3 := hb5.keep c3)
                  go_roundw
                  case rel => exact ⟨q + 1, by omega, by go_num, by rw [HPS.out]; simp, by rw [E.out], Lib.hid (by rw [E.out]; exact ((hR.out.gr hb5).set q d yd HYD.out (HH.out.1 d)).set q 32 32 rfl (HH.out.2.2 d 32))⟩
                  case measure => simp [intOf]; omega
                · skip
                  have E := Lib.hid (show bdS D T sp F (q + 1) = (A ++ [32], false) by rw [HS.out]; simp)
                  go_wp2_with (go_at_call 75; (with_reducible refine (hpo' _).mono ?_); rintro e w5 ⟨rfl, hb5⟩; have v5 := hb5.keep hv0; have f5 := (hb5.cells.2 _ _ hzz).trans hf0; have z5 : w.heap.size + 1 < w5.heap.size := (by have := Gr.size hb5; omega); have d0 := hb5.keep c0; have d1 := hb5.keep c1; have d2 := hb5.keep c2; have d3 := hb5.keep c3)
                  go_roundw
                  case rel => exact ⟨q + 1, by omega, by go_num, by rw [HPS.out]; simp, by rw [E.out], Lib.hid (by rw [E.out]; exact ((hR.out.gr hb5).set q d yd HYD.out (HH.out.1 d)).set q 32 32 rfl (HH.out.2.2 d 32))⟩
                  case measure => simp [intOf]; omega
      · obtain rfl : q = b := by omega
        have hbw := hR.out.1
        rw [List.drop_eq_nil_of_le (by rw [HL.out]; exact Nat.le_refl _), List.append_nil] at hbw
        have hcv := byw_str hbw q cap (bdS_len D T sp F q)
        obtain ⟨-, G9, -, -⟩ := hR.out
        clear hbw
        go_wp2
        go_ret
        exact ⟨rfl, G9⟩
end Go.Proofs.YtmdpejllbalnnaaGreatDoor
namespace Go.Proofs.YtmdpejllbalnnaaGreatDoor
set_option linter.unusedSimpArgs false
set_option linter.unusedVariables false
open Go.RowKit

/-- What lies in memory: strconv's table and bytealg.MaxLen. -/
def PW (w : World) : Prop := TabW w ∧ ∃ m, w.cell? ⟨0, 0, none⟩ = some (.int .i64 m)
theorem PW.gr {a b : World} (h : PW a) (G : Gr a b) : PW b := ⟨h.1.gr G, h.2.imp fun _ c => G.keep c⟩
theorem PW.tab {a : World} (h : PW a) : TabW a := h.1
theorem rpc_any : RpC PW := fun Y w hY hw => by
  obtain ⟨-, m, hm⟩ := hw
  have hz : (BL Y).size = Y.length := BL_size Y
  have hc : Lib.countB (BL Y) ⟨#[38]⟩ * 1 ≤ (BL Y).size := Lib.countB_mul_le ⟨#[38]⟩ (by decide) (BL Y).size (BL Y) (Nat.le_refl _)
  refine (Tryz.strings_ReplaceAll (BL Y) ⟨#[38]⟩ ⟨#[32]⟩ m w (by omega) hm (by decide) (by show (BL Y).size + Lib.countB (BL Y) ⟨#[38]⟩ * 1 ≤ _; omega)).mono fun e w' ⟨h1, h2⟩ => ⟨?_, h2⟩
  rw [h1, BL_list]
  show Ending.returned (.string (BL (Lib.replaceAll Y [38] [32]))) = _
  rw [repl_amp]
theorem stsF_bd (T : List UInt8) : ∀ n b, stsF T b n = -1 ∨ ∃ s : Nat, stsF T b n = s ∧ b ≤ s ∧ s < b + n
  | 0, b => Or.inl rfl
  | n + 1, b => by
    rw [stsF]
    split
    · exact Or.inr ⟨b, rfl, Nat.le_refl _, by omega⟩
    · rcases stsF_bd T n (b + 1) with h | ⟨s, h, h1, h2⟩
      · exact Or.inl h
      · exact Or.inr ⟨s, h, by omega, by omega⟩
/-- A value's text by a word. -/
def ebL (l n : Int) (T : List UInt8) : List UInt8 :=
  (bdS (dsL l.toNat n.natAbs) T (stpI T) (if astB T then 42 else 32) (bodI T).toNat).1 ++ expL T (bodI T) (stsI T) (decide (n < 0))
def ebE (k l s n : Int) (x : ByteArray) (T : List UInt8) : Int := if cwE k l s T ≠ 0 then cwE k l s T else valErr k l s n x
def ebT (k l s n : Int) (x : ByteArray) (T : List UInt8) : ByteArray := if cwE k l s T ≠ 0 then ⟨#[]⟩ else if valErr k l s n x ≠ 0 then ⟨#[]⟩ else BL (ebL l n T)
theorem nt_right {k l s : Int} (h1 : ntE k l s = 0) : typeErr k l s = 0 ∧ isNum k = true := by
  have t1 : typeErr k l s = 0 := by
    by_cases g : typeErr k l s = 0
    · exact g
    · unfold ntE at h1; simp [first0, g] at h1
  refine ⟨t1, ?_⟩
  cases g : isNum k
  · unfold ntE at h1; rw [t1, g] at h1; simp [first0, pick] at h1
  · rfl
theorem cw_right {k l s : Int} {T : List UInt8} (h : cwE k l s T = 0) : ntE k l s = 0 ∧ paE T = 0 ∧ (psN T (stpI T) (bodI T).toNat : Int) = l := by
  unfold cwE at h
  by_cases h1 : ntE k l s = 0
  · rw [if_neg (by omega)] at h
    by_cases h2 : paE T = 0
    · rw [if_neg (by omega)] at h
      by_cases h3 : (psN T (stpI T) (bodI T).toNat : Int) ≠ l
      · rw [if_pos h3] at h; simp at h
      · exact ⟨h1, h2, by omega⟩
    · rw [if_pos h2] at h; exact absurd h h2
  · rw [if_pos h1] at h; exact absurd h h1
theorem amp_len (l : List UInt8) : (amp l).length = l.length := by unfold amp; rw [List.length_map]
theorem expL_len (T : List UInt8) (body st : Int) (b : Bool) : (expL T body st b).length ≤ 2 * T.length + 2 := by
  have := sb_two (T.drop st.toNat)
  unfold expL
  rw [amp_len]
  split
  · simp only [List.length_append, List.length_take, List.length_drop, List.length_replicate]; omega
  · rw [List.length_drop]; omega
/-- editedBy, by a right word for a value that fits. -/
theorem editedBy_any (k l s n : Int) (T : List UInt8) (hc : cwE k l s T = 0) (hf : fitsB n l = true) (w : World) (hw : PW w) :
    Calls Tryz.prog 39 #[.agg #[.int .i64 k, .int .i64 l, .int .i64 s], .int .i64 n, .string (BL T), .agg #[.int .i64 (bodI T), .int .i64 (stsI T), .int .i64 (stpI T), .bool (astB T)]] w fun e w' => e = .returned (.string (BL (ebL l n T))) ∧ Gr w w' := by
  obtain ⟨c1, c2, c3⟩ := cw_right hc
  obtain ⟨a1, a2, a3, a4⟩ := pa_right c2
  obtain ⟨b0, b1, -, -, -⟩ := bod_bd T
  obtain ⟨t1, t2⟩ := nt_right c1
  obtain ⟨l0, l1, s0, s1, hk⟩ := num_right t1 t2
  obtain ⟨d1, d2⟩ := fits_len hf l0 l1
  have hDl := dsL_len l.toNat n.natAbs d1
  have hDg : ∀ w, PW w → Calls Tryz.prog 60 #[.agg #[.int .i64 k, .int .i64 l, .int .i64 s], .int .i64 n] w fun e w' => e = .returned (.string (BL (dsL l.toNat n.natAbs))) ∧ Gr w w' := fun w h => digitsOf_any k l s n n.natAbs l.toNat rfl (by omega) (by omega) d1 d2 w h.1
  have hBd := bodyText_any (dsL l.toNat n.natAbs) T (bodI T) (stsI T) (stpI T) (astB T) (bodI T).toNat (by omega) (by omega) (by omega) (by omega)
  have hst : stsI T = -1 ∨ ∃ s : Nat, stsI T = s ∧ (bodI T).toNat ≤ s ∧ s ≤ T.length := by
    unfold stsI
    rcases stsF_bd T (T.length - (bodI T).toNat) (bodI T).toNat with h | ⟨s, h, h1, h2⟩
    · exact Or.inl h
    · exact Or.inr ⟨s, h, h1, by omega⟩
  have hEx := fun w hw => exp_any T (decide (n < 0)) (bodI T) (stsI T) (stpI T) (astB T) (bodI T).toNat (by omega) (by omega) hst (by omega) PW (fun a b h G => h.gr G) rpc_any w hw
  have he := expL_len T (bodI T) (stsI T) (decide (n < 0))
  have hb := bdS_len (dsL l.toNat n.natAbs) T (stpI T) (if astB T then 42 else 32) (bodI T).toNat
  refine editedBy_core k l s n (bodI T) (stsI T) (stpI T) (astB T) (BL T) _ _ _ _ PW (fun a b h G => h.gr G) w hw hDg hBd hEx (fun w => ?_)
  rw [add_ss _ _ (by rw [BL_size, BL_size]; omega), BL_append]
  rfl
theorem EditedBy_any (k l s n : Int) (x : ByteArray) (T : List UInt8) (w : World) (hw : PW w) :
    Calls Tryz.prog 19 #[.agg #[.int .i64 k, .int .i64 l, .int .i64 s], .agg #[.int .i64 n, .string x], .string (BL T)] w (EdR (ebT k l s n x T) (ebE k l s n x T) w) := by
  have h1 := checkWord_any k l s T
  unfold ebT ebE
  by_cases hc : cwE k l s T = 0
  · have hv : cwV k l s T = .agg #[.int .i64 (bodI T), .int .i64 (stsI T), .int .i64 (stpI T), .bool (astB T)] := by unfold cwV; rw [if_pos hc]
    rw [hv] at h1
    refine EditedBy_core k l s n (cwE k l s T) (valErr k l s n x) (bodI T) (stsI T) (stpI T) (astB T) (BL T) x (BL (ebL l n T)) PW (fun a b h G => h.gr G) w hw h1 (CheckValue_any k l s n x) ?_
    intro _ h2 w hw
    obtain ⟨c1, c2, c3⟩ := cw_right hc
    obtain ⟨t1, t2⟩ := nt_right c1
    obtain ⟨l0, l1, s0, s1, hk⟩ := num_right t1 t2
    exact editedBy_any k l s n T hc (val_fits h2 t1 hk).2 w hw
  · have hv : cwV k l s T = .agg #[.int .i64 0, .int .i64 0, .int .i64 0, .bool false] := by unfold cwV; rw [if_neg hc]
    rw [hv] at h1
    refine EditedBy_core k l s n (cwE k l s T) (valErr k l s n x) 0 0 0 false (BL T) x (BL (ebL l n T)) PW (fun a b h G => h.gr G) w hw h1 (CheckValue_any k l s n x) ?_
    intro h; exact absurd h hc
end Go.Proofs.YtmdpejllbalnnaaGreatDoor
