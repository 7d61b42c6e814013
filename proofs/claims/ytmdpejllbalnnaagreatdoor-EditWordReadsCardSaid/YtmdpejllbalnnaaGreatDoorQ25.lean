/- Texts of the walks, merged. -/
import Derived.Test.YtmdpejllbalnnaaGreatDoorQ24
import Derived.Test.YtmdpejllbalnnaaGreatDoorQ20
namespace Go.Proofs.YtmdpejllbalnnaaGreatDoor
set_option linter.unusedSimpArgs false
set_option linter.unusedVariables false
open Go.RowKit

theorem sb_val1 (T : List UInt8) (q : Nat) (h : q < T.length) (h1 : dAt T q = 45) : sbL (T.drop q) = [45] := by
  have e0 : T.drop q = dAt T q :: T.drop (q + 1) := by
    rw [List.drop_eq_getElem_cons h]
    simp [dAt, List.getD_eq_getElem?_getD, List.getElem?_eq_getElem h]
  unfold sbL Lib.hasPrefix
  rw [e0, h1]
  simp
theorem sb_val2 (T : List UInt8) (q : Nat) (h : q + 1 < T.length) (h1 : dAt T q = 67) (h2 : dAt T (q + 1) = 82) : sbL (T.drop q) = [67, 82] := by
  have e0 : T.drop q = dAt T q :: T.drop (q + 1) := by
    rw [List.drop_eq_getElem_cons (show q < T.length by omega)]
    simp [dAt, List.getD_eq_getElem?_getD, List.getElem?_eq_getElem (show q < T.length by omega)]
  have e1 : T.drop (q + 1) = dAt T (q + 1) :: T.drop (q + 2) := by
    rw [List.drop_eq_getElem_cons h]
    simp [dAt, List.getD_eq_getElem?_getD, List.getElem?_eq_getElem h]
  unfold sbL Lib.hasPrefix
  rw [e0, e1, h1, h2]
  simp
set_option maxHeartbeats 16000000 in
set_option maxRecDepth 100000 in
theorem WordText_core (k l s n : Int) (D T : List UInt8) (st sp : Int) (ast : Bool) (b L sl : Nat) (hL : T.length = L) (hL1 : L ≤ 100) (hbL : b ≤ L) (hD : D.length = psN T sp b)
    (hst : st = -1 ∨ ∃ q : Nat, st = q ∧ q < L ∧ (sbL (T.drop q)) ≠ [])
    (hsl : st ≠ -1 → sl = (sbL (T.drop st.toNat)).length) (hsp : ∀ q : Nat, (q : Int) = sp → dAt T q ≠ 38)
    (hP : ∀ w, Calls Tryz.prog 44 #[.string (BL T)] w fun e w' => e = .returned (.tuple #[.agg #[.int .i64 (b : Int), .int .i64 st, .int .i64 sp, .bool ast], .int .i64 0, .int .i64 0]) ∧ Gr w w')
    (hDg : ∀ w, Calls Tryz.prog 65 #[.agg #[.int .i64 k, .int .i64 l, .int .i64 s], .int .i64 n] w fun e w' => e = .returned (.string (BL D)) ∧ Gr w w') (w : World) :
    Calls Tryz.prog 41 #[.agg #[.int .i64 k, .int .i64 l, .int .i64 s], .int .i64 n, .string (BL T)] w fun e w' => e = .returned (.string (BL ((bdS D T sp (if ast then 42 else 32) b).1 ++ exS T b st sl (decide (n < 0)) (L - b)))) ∧ Gr w w' := by
  obtain ⟨F, hF⟩ : ∃ F : UInt8, (if ast then 42 else 32) = F := ⟨_, rfl⟩
  rw [hF]
  obtain ⟨neg, hneg⟩ : ∃ neg, decide (n < 0) = neg := ⟨_, rfl⟩
  rw [hneg]
  have gn : decide (0 ≤ n) = !neg := by
    rw [← hneg]
    by_cases h : n < 0
    · rw [decide_eq_true h, decide_eq_false (by omega)]; rfl
    · rw [decide_eq_false h, decide_eq_true (by omega)]; rfl
  obtain ⟨fi, hfi⟩ : ∃ fi : Int, (F.toNat : Int) = fi := ⟨_, rfl⟩
  have hast : (ast = true ∧ fi = 42) ∨ (ast = false ∧ fi = 32) := by cases ast <;> simp at hF <;> subst hF <;> subst hfi <;> simp
  obtain ⟨i0, hi, hz0, hz1, hz2⟩ := info_parts infoB8
  have hsz : (BL T).size = L := by rw [BL_size]; exact hL
  have hdz : (BL D).size = psN T sp b := by rw [BL_size]; exact hD
  have HAT := Lib.hid fun q (h : q < (BL T).size) => show (((BL T)[q]'h).toNat : Int) = ((dAt T q).toNat : Int) by rw [BL_at]
  have HAD := Lib.hid fun q (h : q < (BL D).size) => show (((BL D)[q]'h).toNat : Int) = ((dAt D q).toNat : Int) by rw [BL_at]
  have HF := Lib.hid hfi
  have HD := Lib.hid hD
  have HSP := Lib.hid hsp
  have HST := Lib.hid hst
  have HSL := Lib.hid hsl
  have HL := Lib.hid hL
  obtain ⟨bn, hbn⟩ : ∃ bn, psN T sp b = bn := ⟨_, rfl⟩
  rw [hbn] at hdz
  have HBN := Lib.hid hbn
  clear hbn hfi hD hF hsp hst hsl hL hneg
  generalize BL T = X at *
  generalize BL D = Y at *
  go_enter Tryz.func41, Tryz.ntmps41
  go_upto_if 30 with (first | (go_at_call 44; (with_reducible refine (hP _).mono ?_); rintro e w2 ⟨rfl, w2h⟩; obtain ⟨w2c, w2f⟩ := w2h.cells; have w2s := w2h.size; (try simp at w2s); have w2z : w.heap.size < w2.heap.size := (by omega)) | ((go_at_call 65; (with_reducible refine (hDg _).mono ?_); rintro e w4 ⟨rfl, w4h⟩; obtain ⟨w4c, w4f⟩ := w4h.cells; have w4s := w4h.size; (try simp at w4s); have w4z : w.heap.size < w4.heap.size := (by omega)); have z3 : w2.heap.size < w4.heap.size := (by have h := Gr.size w4h; simp at h; omega); have e3 : w4.cell? ⟨w2.heap.size, 3, none⟩ = some (.bool ast) := w4h.keep (by simp [go_sem])))
  have WT : WtW w w2.heap.size (b : Int) st sp ast (.slice none 0 0) [] w4 := by
    refine ⟨Own.nil _ _ _ _, ?_, ⟨w4h.keep (by simp [go_sem]), w4h.keep (by simp [go_sem]), w4h.keep (by simp [go_sem]), w4h.keep (by simp [go_sem])⟩, z3, ?_⟩
    · exact Gr.trans (Gr.trans (by repeat (first | (with_reducible exact Gr.refl _) | (with_reducible assumption) | (with_reducible refine Gr.alloc ?_ _) | (with_reducible refine Gr.drew ?_) | (with_reducible refine Gr.drewN ?_ _) | (with_reducible refine Gr.setCell ?_ (by simp <;> omega) _) | (with_reducible refine Gr.trans ?_ (by with_reducible assumption)) | exact Gr.refl _ | assumption | refine Gr.alloc ?_ _ | refine Gr.drew ?_ | refine Gr.drewN ?_ _ | refine Gr.setCell ?_ (by simp <;> omega) _ | refine Gr.trans ?_ (by assumption))) w2h) (Gr.trans ((Gr.refl w2).alloc _) w4h)
    · have h := Gr.size w2h; (try simp at h); omega
  have HWT := Lib.hid WT
  obtain ⟨-, -, ⟨c0, c1, c2, c3⟩, -, -⟩ := WT
  clear w2c w2f w2s w2z w2h w4c w4f w4s w4z w4h hP hDg z3 e3
  generalize w2.heap.size = g at *
  generalize w4 = W4 at *
  go_cut [11] (fun o wx => o = .int .u8 fi ∧ wx = W4)
  case first =>
    rcases hast with ⟨rfl, rfl⟩ | ⟨rfl, rfl⟩
    all_goals
      go_wp2
      go_meet
      exact ⟨rfl, rfl⟩
  case rest =>
    obtain ⟨rfl, rfl⟩ := hcut
    clear hast
    go_wp2
    go_loopw [12, 13, 14, 15] (fun v u m i wr => ∃ q : Nat, q ≤ b ∧ i = .int .i64 q ∧ m = .int .i64 (psN T sp q : Nat) ∧ u = .bool (bdS D T sp F q).2 ∧ Hid (WtW w g (b : Int) st sp ast v (bdS D T sp F q).1 wr)) (fun _ _ _ i _ => b - (intOf i).toNat)
    case atStart => exact ⟨0, by omega, rfl, rfl, rfl, HWT⟩
    case round =>
      obtain ⟨q, hq, rfl, rfl, rfl, hR⟩ := hrel
      by_cases hlt : q < b
      · have hst := bdS_step D T sp F q
        have hps := psN_step T sp q
        have hAl := bdS_len D T sp F q
        have hkn := fun h => psN_lt T sp (q := q) (b := b) hlt h
        rw [HBN.out] at hkn
        have hle := psN_le T sp q
        have hqX : q < X.size := by omega
        have hbT := HAT.out q hqX
        have hvd := fun (k : Nat) (h : k < Y.size) => HAD.out k h
        have hsp38 := HSP.out q
        obtain ⟨hO, -, ⟨c0, c1, c2, c3⟩, hzz, hwg⟩ := hR.out
        generalize (bdS D T sp F q).1 = A at *
        generalize (bdS D T sp F q).2 = S at *
        unfold ldO at hst
        generalize psN T sp q = k at *
        have hO2 := Lib.hid hO
        have hbl : (bI A).length = q := by unfold bI; rw [List.length_map]; exact hAl
        have HBL := Lib.hid hbl
        clear hbl hO
        have hpo : posB T sp q = (dAt T q == 32 || decide ((q : Int) = sp)) := rfl
        obtain ⟨t, ht⟩ : ∃ t, dAt T q = t := ⟨_, rfl⟩
        obtain ⟨b32, h32⟩ : ∃ b, (t == 32) = b := ⟨_, rfl⟩
        obtain ⟨m, hm⟩ : ∃ m, (t == 38) = m := ⟨_, rfl⟩
        obtain ⟨p, hp⟩ : ∃ p, decide ((q : Int) = sp) = p := ⟨_, rfl⟩
        have gp : ((q : Int) != sp) = !p := by
          rw [← hp]
          by_cases h : (q : Int) = sp
          · rw [h]; simp
          · simp [h]
        have gp2 : ((q : Int) == sp) = p := by
          rw [← hp]
          by_cases h : (q : Int) = sp
          · rw [h]; simp
          · simp [h]
        have gm : ((t.toNat : Int) == 38) = m := by rw [← hm]; exact u8_eqb t 38
        have g32 : ((t.toNat : Int) == 32) = b32 := by rw [← h32]; exact u8_eqb t 32
        have hm2 : (t = 38) = (m = true) := by rw [← hm]; simp
        have hmx : b32 = true ∨ p = true → m = false := by
          intro h
          rw [← hm, beq_eq_false_iff_ne]
          rcases h with h | h
          · rw [← h32] at h
            have : t = 32 := by simpa using h
            subst this; decide
          · rw [← hp] at h
            rw [← ht]
            exact hsp38 (by simpa using h)
        rw [ht, h32, hp] at hpo
        rw [hpo] at hst hps hkn
        rw [ht, hp] at hst
        simp only [hm2] at hst
        rw [ht] at hbT
        obtain ⟨yt, hyt⟩ : ∃ yt, (t.toNat : Int) = yt := ⟨_, rfl⟩
        have HYT := Lib.hid hyt
        rw [hyt] at hbT gm g32
        have hsel : b32 = true ∨ (b32 = false ∧ p = true) ∨ (b32 = false ∧ p = false) := by cases b32 <;> cases p <;> simp
        have HMX := Lib.hid hmx
        clear hmx

        rcases hsel with rfl | ⟨rfl, rfl⟩ | ⟨rfl, rfl⟩
        · skip
          obtain rfl := HMX.out (by simp)
          have hkn2 := hkn (by simp)
          have hkY : k < Y.size := by omega
          have hbD := hvd k hkY
          obtain ⟨d, hd⟩ : ∃ d, dAt D k = d := ⟨_, rfl⟩
          obtain ⟨z, hz⟩ : ∃ z, (d == 48) = z := ⟨_, rfl⟩
          have gz : ((d.toNat : Int) == 48) = z := by rw [← hz]; exact u8_eqb d 48
          rw [hd] at hst hbD
          simp only [Bool.true_or, Bool.or_true, Bool.or_false, if_true, hz] at hst
          obtain ⟨yd, hyd⟩ : ∃ yd, (d.toNat : Int) = yd := ⟨_, rfl⟩
          rw [hyd] at hbD gz
          have HYD := Lib.hid hyd
          have hk1 : k ≤ 100 := by omega
          have HS := Lib.hid hst
          have HPS := Lib.hid hps
          clear hst hps hpo hAl hkn hle hvd ht hm hm2 hp hyt HWT hd hz hyd h32 hsp38
          cases S
          · skip
            have E := Lib.hid (show bdS D T sp F (q + 1) = (A ++ [d], false) by rw [HS.out]; simp)
            go_wp2_with (at_builtin; go_loud (refine wp_append_ints _ rfl (.tmp 74) (.tmp 76) 80 5 rfl .u8 i0 1 Tryz.underlying80 hi hz0 hz1 hz2 (by decide) (g + 1) _ (bI A) rfl (Own.alloc hO2.out _) (q + 1) wr.heap.size 1 1 [yd] (by first | rfl | simp) rfl (by omega) (fun j hj => one_cell _ _ _ _ j hj) (by rw [HBL.out]) (by omega) (by simp <;> omega) ?_); intro g1 cap1 w1 hO1 hB1 hgr1 hg1 hl1)
            go_roundw
            case rel => exact ⟨q + 1, by omega, by go_num, by rw [HPS.out]; simp, by rw [E.out], Lib.hid (by rw [E.out]; exact hR.out.app _ HYD.out hO1 hB1)⟩
            case measure => simp [intOf]; omega
          · cases z
            · skip
              have E := Lib.hid (show bdS D T sp F (q + 1) = (A ++ [d], false) by rw [HS.out]; simp)
              go_wp2_with (at_builtin; go_loud (refine wp_append_ints _ rfl (.tmp 74) (.tmp 76) 80 5 rfl .u8 i0 1 Tryz.underlying80 hi hz0 hz1 hz2 (by decide) (g + 1) _ (bI A) rfl (Own.alloc hO2.out _) (q + 1) wr.heap.size 1 1 [yd] (by first | rfl | simp) rfl (by omega) (fun j hj => one_cell _ _ _ _ j hj) (by rw [HBL.out]) (by omega) (by simp <;> omega) ?_); intro g1 cap1 w1 hO1 hB1 hgr1 hg1 hl1)
              go_roundw
              case rel => exact ⟨q + 1, by omega, by go_num, by rw [HPS.out]; simp, by rw [E.out], Lib.hid (by rw [E.out]; exact hR.out.app _ HYD.out hO1 hB1)⟩
              case measure => simp [intOf]; omega
            · cases p
              · skip
                have E := Lib.hid (show bdS D T sp F (q + 1) = (A ++ [F], true) by rw [HS.out]; simp)
                go_wp2_with (at_builtin; go_loud (refine wp_append_ints _ rfl (.tmp 74) (.tmp 76) 80 5 rfl .u8 i0 1 Tryz.underlying80 hi hz0 hz1 hz2 (by decide) (g + 1) _ (bI A) rfl (Own.alloc hO2.out _) (q + 1) wr.heap.size 1 1 [fi] (by first | rfl | simp) rfl (by omega) (fun j hj => one_cell _ _ _ _ j hj) (by rw [HBL.out]) (by omega) (by simp <;> omega) ?_); intro g1 cap1 w1 hO1 hB1 hgr1 hg1 hl1)
                go_roundw
                case rel => exact ⟨q + 1, by omega, by go_num, by rw [HPS.out]; simp, by rw [E.out], Lib.hid (by rw [E.out]; exact hR.out.app _ HF.out hO1 hB1)⟩
                case measure => simp [intOf]; omega
              · skip
                have E := Lib.hid (show bdS D T sp F (q + 1) = (A ++ [F], false) by rw [HS.out]; simp)
                go_wp2_with (at_builtin; go_loud (refine wp_append_ints _ rfl (.tmp 74) (.tmp 76) 80 5 rfl .u8 i0 1 Tryz.underlying80 hi hz0 hz1 hz2 (by decide) (g + 1) _ (bI A) rfl (Own.alloc hO2.out _) (q + 1) wr.heap.size 1 1 [fi] (by first | rfl | simp) rfl (by omega) (fun j hj => one_cell _ _ _ _ j hj) (by rw [HBL.out]) (by omega) (by simp <;> omega) ?_); intro g1 cap1 w1 hO1 hB1 hgr1 hg1 hl1)
                go_roundw
                case rel => exact ⟨q + 1, by omega, by go_num, by rw [HPS.out]; simp, by rw [E.out], Lib.hid (by rw [E.out]; exact hR.out.app _ HF.out hO1 hB1)⟩
                case measure => simp [intOf]; omega
        · skip
          obtain rfl := HMX.out (by simp)
          have hkn2 := hkn (by simp)
          have hkY : k < Y.size := by omega
          have hbD := hvd k hkY
          obtain ⟨d, hd⟩ : ∃ d, dAt D k = d := ⟨_, rfl⟩
          obtain ⟨z, hz⟩ : ∃ z, (d == 48) = z := ⟨_, rfl⟩
          have gz : ((d.toNat : Int) == 48) = z := by rw [← hz]; exact u8_eqb d 48
          rw [hd] at hst hbD
          simp only [Bool.true_or, Bool.or_true, Bool.or_false, if_true, hz] at hst
          obtain ⟨yd, hyd⟩ : ∃ yd, (d.toNat : Int) = yd := ⟨_, rfl⟩
          rw [hyd] at hbD gz
          have HYD := Lib.hid hyd
          have hk1 : k ≤ 100 := by omega
          have HS := Lib.hid hst
          have HPS := Lib.hid hps
          clear hst hps hpo hAl hkn hle hvd ht hm hm2 hp hyt HWT hd hz hyd h32 hsp38
          cases S
          · skip
            have E := Lib.hid (show bdS D T sp F (q + 1) = (A ++ [d], false) by rw [HS.out]; simp)
            go_wp2_with (at_builtin; go_loud (refine wp_append_ints _ rfl (.tmp 74) (.tmp 76) 80 5 rfl .u8 i0 1 Tryz.underlying80 hi hz0 hz1 hz2 (by decide) (g + 1) _ (bI A) rfl (Own.alloc hO2.out _) (q + 1) wr.heap.size 1 1 [yd] (by first | rfl | simp) rfl (by omega) (fun j hj => one_cell _ _ _ _ j hj) (by rw [HBL.out]) (by omega) (by simp <;> omega) ?_); intro g1 cap1 w1 hO1 hB1 hgr1 hg1 hl1)
            go_roundw
            case rel => exact ⟨q + 1, by omega, by go_num, by rw [HPS.out]; simp, by rw [E.out], Lib.hid (by rw [E.out]; exact hR.out.app _ HYD.out hO1 hB1)⟩
            case measure => simp [intOf]; omega
          · cases z
            · skip
              have E := Lib.hid (show bdS D T sp F (q + 1) = (A ++ [d], false) by rw [HS.out]; simp)
              go_wp2_with (at_builtin; go_loud (refine wp_append_ints _ rfl (.tmp 74) (.tmp 76) 80 5 rfl .u8 i0 1 Tryz.underlying80 hi hz0 hz1 hz2 (by decide) (g + 1) _ (bI A) rfl (Own.alloc hO2.out _) (q + 1) wr.heap.size 1 1 [yd] (by first | rfl | simp) rfl (by omega) (fun j hj => one_cell _ _ _ _ j hj) (by rw [HBL.out]) (by omega) (by simp <;> omega) ?_); intro g1 cap1 w1 hO1 hB1 hgr1 hg1 hl1)
              go_roundw
              case rel => exact ⟨q + 1, by omega, by go_num, by rw [HPS.out]; simp, by rw [E.out], Lib.hid (by rw [E.out]; exact hR.out.app _ HYD.out hO1 hB1)⟩
              case measure => simp [intOf]; omega
            · skip
              have E := Lib.hid (show bdS D T sp F (q + 1) = (A ++ [F], false) by rw [HS.out]; simp)
              go_wp2_with (at_builtin; go_loud (refine wp_append_ints _ rfl (.tmp 74) (.tmp 76) 80 5 rfl .u8 i0 1 Tryz.underlying80 hi hz0 hz1 hz2 (by decide) (g + 1) _ (bI A) rfl (Own.alloc hO2.out _) (q + 1) wr.heap.size 1 1 [fi] (by first | rfl | simp) rfl (by omega) (fun j hj => one_cell _ _ _ _ j hj) (by rw [HBL.out]) (by omega) (by simp <;> omega) ?_); intro g1 cap1 w1 hO1 hB1 hgr1 hg1 hl1)
              go_roundw
              case rel => exact ⟨q + 1, by omega, by go_num, by rw [HPS.out]; simp, by rw [E.out], Lib.hid (by rw [E.out]; exact hR.out.app _ HF.out hO1 hB1)⟩
              case measure => simp [intOf]; omega
        · skip
          have HS := Lib.hid hst
          have HPS := Lib.hid hps
          clear hst hps hpo hAl hkn hle hvd ht hm hm2 hp hyt HWT h32 hsp38
          cases m
          · cases S
            · skip
              have E := Lib.hid (show bdS D T sp F (q + 1) = (A ++ [t], false) by rw [HS.out]; simp)
              go_wp2_with (at_builtin; go_loud (refine wp_append_ints _ rfl (.tmp 74) (.tmp 76) 80 5 rfl .u8 i0 1 Tryz.underlying80 hi hz0 hz1 hz2 (by decide) (g + 1) _ (bI A) rfl (Own.alloc hO2.out _) (q + 1) wr.heap.size 1 1 [yt] (by first | rfl | simp) rfl (by omega) (fun j hj => one_cell _ _ _ _ j hj) (by rw [HBL.out]) (by omega) (by simp <;> omega) ?_); intro g1 cap1 w1 hO1 hB1 hgr1 hg1 hl1)
              go_roundw
              case rel => exact ⟨q + 1, by omega, by go_num, by rw [HPS.out]; simp, by rw [E.out], Lib.hid (by rw [E.out]; exact hR.out.app _ HYT.out hO1 hB1)⟩
              case measure => simp [intOf]; omega
            · skip
              have E := Lib.hid (show bdS D T sp F (q + 1) = (A ++ [F], true) by rw [HS.out]; simp)
              go_wp2_with (at_builtin; go_loud (refine wp_append_ints _ rfl (.tmp 74) (.tmp 76) 80 5 rfl .u8 i0 1 Tryz.underlying80 hi hz0 hz1 hz2 (by decide) (g + 1) _ (bI A) rfl (Own.alloc hO2.out _) (q + 1) wr.heap.size 1 1 [fi] (by first | rfl | simp) rfl (by omega) (fun j hj => one_cell _ _ _ _ j hj) (by rw [HBL.out]) (by omega) (by simp <;> omega) ?_); intro g1 cap1 w1 hO1 hB1 hgr1 hg1 hl1)
              go_roundw
              case rel => exact ⟨q + 1, by omega, by go_num, by rw [HPS.out]; simp, by rw [E.out], Lib.hid (by rw [E.out]; exact hR.out.app _ HF.out hO1 hB1)⟩
              case measure => simp [intOf]; omega
          · skip
            have E := Lib.hid (show bdS D T sp F (q + 1) = (A ++ [32], S) by rw [HS.out]; simp)
            go_wp2_with (at_builtin; go_loud (refine wp_append_ints _ rfl (.tmp 74) (.tmp 76) 80 5 rfl .u8 i0 1 Tryz.underlying80 hi hz0 hz1 hz2 (by decide) (g + 1) _ (bI A) rfl (Own.alloc hO2.out _) (q + 1) wr.heap.size 1 1 [32] (by first | rfl | simp) rfl (by omega) (fun j hj => one_cell _ _ _ _ j hj) (by rw [HBL.out]) (by omega) (by simp <;> omega) ?_); intro g1 cap1 w1 hO1 hB1 hgr1 hg1 hl1)
            go_roundw
            case rel => exact ⟨q + 1, by omega, by go_num, by rw [HPS.out]; simp, by rw [E.out], Lib.hid (by rw [E.out]; exact hR.out.app _ rfl hO1 hB1)⟩
            case measure => simp [intOf]; omega
      · obtain rfl : b = q := by omega
        have hR2 := hR
        obtain ⟨-, -, ⟨c0, c1, c2, c3⟩, hzz, hwg⟩ := hR2.out
        have hAl := bdS_len D T sp F b
        generalize (bdS D T sp F b).2 = S at *
        obtain ⟨A, hA⟩ : ∃ A, (bdS D T sp F b).1 = A := ⟨_, rfl⟩
        rw [hA] at hR2 hAl
        have HA := Lib.hid hA
        clear hR hA HWT hlt hq
        have hdisj : (st = -1) ∨ (∃ q0 : Nat, st = q0 ∧ q0 < L ∧ dAt T q0 = 45 ∧ sl = 1) ∨ (∃ q0 : Nat, st = q0 ∧ q0 < L ∧ dAt T q0 = 67 ∧ sl = 2) := by
          rcases HST.out with h | ⟨q0, rfl, h1, h2⟩
          · exact Or.inl h
          · have h3 := HSL.out (by omega)
            rw [Int.toNat_natCast] at h3
            rcases (sb_at T q0 (by rw [HL.out]; exact h1)).1 h2 with h | ⟨h4, h5, h6⟩
            · exact Or.inr (Or.inl ⟨q0, rfl, h1, h, by rw [h3, sb_val1 T q0 (by rw [HL.out]; exact h1) h]; rfl⟩)
            · exact Or.inr (Or.inr ⟨q0, rfl, h1, h4, by rw [h3, sb_val2 T q0 h5 h4 h6]; rfl⟩)
        rcases hdisj with rfl | ⟨q0, rfl, hq0, hy0, rfl⟩ | ⟨q0, rfl, hq0, hy0, rfl⟩

        · skip
          go_wp2
          go_loopw [12, 18] (fun v i wr => ∃ q : Nat, b ≤ q ∧ q ≤ L ∧ i = .int .i64 q ∧ Hid (WtW w g (b : Int) (-1) sp ast v (A ++ exS T b (-1) sl neg (q - b)) wr)) (fun _ i _ => L - (intOf i).toNat)
          case atStart => exact ⟨b, by omega, by omega, rfl, by rw [Nat.sub_self]; simpa [exS] using hR2⟩
          case round =>
            obtain ⟨q, hq1, hq2, rfl, hR⟩ := hrel
            obtain ⟨hO, hG, ⟨c0, c1, c2, c3⟩, hzz, hwg⟩ := hR.out
            by_cases hlt : q < L
            · have hqX : q < X.size := by omega
              have hbT := HAT.out q hqX
              have hbl : (bI (A ++ exS T b (-1) sl neg (q - b))).length = q := by unfold bI; rw [List.length_map, List.length_append, hAl, exS_len]; omega
              have HBL := Lib.hid hbl
              have hO2 := Lib.hid hO
              have he : exS T b (-1) sl neg (q - b + 1) = exS T b (-1) sl neg (q - b) ++ [exC T (-1) sl neg (b + (q - b))] := rfl
              rw [show b + (q - b) = q by omega] at he
              unfold exC at he
              obtain ⟨t, ht⟩ : ∃ t, dAt T q = t := ⟨_, rfl⟩
              obtain ⟨m, hm⟩ : ∃ m, (t == 38) = m := ⟨_, rfl⟩
              have gm : ((t.toNat : Int) == 38) = m := by rw [← hm]; exact u8_eqb t 38
              have hm2 : (t = 38) = (m = true) := by rw [← hm]; simp
              rw [ht] at he hbT
              simp only [hm2] at he
              obtain ⟨yt, hyt⟩ : ∃ yt, (t.toNat : Int) = yt := ⟨_, rfl⟩
              have HYT := Lib.hid hyt
              rw [hyt] at hbT gm
              have hne : ((-1 : Int) ≠ -1) = False := by simp
              simp only [hne, false_and, if_false] at he
              have HE := Lib.hid he
              clear he ht hm hm2 hyt hne hbl hO
              cases m
              · skip
                have E := Lib.hid (show exS T b (-1) sl neg (q - b + 1) = exS T b (-1) sl neg (q - b) ++ [t] by rw [HE.out]; simp)
                go_wp2_with ((at_builtin; go_loud (refine wp_append_ints _ rfl (.tmp 120) (.tmp 122) 80 5 rfl .u8 i0 1 Tryz.underlying80 hi hz0 hz1 hz2 (by decide) (g + 1) _ (bI (A ++ exS T b (-1) sl neg (q - b))) rfl (Own.alloc hO2.out _) (q + 1) wr.heap.size 1 1 [yt] (by first | rfl | simp) rfl (by omega) (fun j hj => one_cell _ _ _ _ j hj) (by rw [HBL.out]) (by omega) (by simp <;> omega) ?_); intro g1 cap1 w1 hO1 hB1 hgr1 hg1 hl1))
                go_roundw
                case rel =>
                  first
                  | (refine Exists.intro (α := Nat) (q + 1) ?_; refine ⟨?_, ?_, ?_, Lib.hid ?_⟩)
                  | ((repeat (refine Exists.intro (α := Value) ?_ ?_; rotate_left)); refine And.intro ?_ ?_; rotate_left; rfl; refine Exists.intro (α := Nat) (q + 1) ?_; refine ⟨?_, ?_, ?_, Lib.hid ?_⟩)
                  all_goals first | omega | (rw [show q + 1 - b = q - b + 1 by omega, E.out, ← List.append_assoc]; exact hR.out.app _ HYT.out hO1 hB1) | go_num | rfl
                case measure => simp [intOf]; omega
              · skip
                have E := Lib.hid (show exS T b (-1) sl neg (q - b + 1) = exS T b (-1) sl neg (q - b) ++ [32] by rw [HE.out]; simp)
                go_wp2_with ((at_builtin; go_loud (refine wp_append_ints _ rfl (.tmp 120) (.tmp 122) 80 5 rfl .u8 i0 1 Tryz.underlying80 hi hz0 hz1 hz2 (by decide) (g + 1) _ (bI (A ++ exS T b (-1) sl neg (q - b))) rfl (Own.alloc hO2.out _) (q + 1) wr.heap.size 1 1 [32] (by first | rfl | simp) rfl (by omega) (fun j hj => one_cell _ _ _ _ j hj) (by rw [HBL.out]) (by omega) (by simp <;> omega) ?_); intro g1 cap1 w1 hO1 hB1 hgr1 hg1 hl1))
                go_roundw
                case rel =>
                  first
                  | (refine Exists.intro (α := Nat) (q + 1) ?_; refine ⟨?_, ?_, ?_, Lib.hid ?_⟩)
                  | ((repeat (refine Exists.intro (α := Value) ?_ ?_; rotate_left)); refine And.intro ?_ ?_; rotate_left; rfl; refine Exists.intro (α := Nat) (q + 1) ?_; refine ⟨?_, ?_, ?_, Lib.hid ?_⟩)
                  all_goals first | omega | (rw [show q + 1 - b = q - b + 1 by omega, E.out, ← List.append_assoc]; exact hR.out.app _ rfl hO1 hB1) | go_num | rfl
                case measure => simp [intOf]; omega
            · obtain rfl : q = L := by omega
              have hcv := cv_ownL hO
              go_wp2
              go_ret
              exact ⟨ret_str (by rw [← HA.out]), hG⟩
        · skip
          have hqx0 : q0 < X.size := by omega
          have hby0 := HAT.out q0 hqx0
          rw [hy0] at hby0
          have hb80 : ((X[q0]'hqx0).toNat : Int) = 45 := hby0
          have bst : ((q0 : Int) != -1) = true := by simp <;> omega
          clear hby0 hy0
          go_wp2
          go_loopw [12, 18] (fun v i wr => ∃ q : Nat, b ≤ q ∧ q ≤ L ∧ i = .int .i64 q ∧ Hid (WtW w g (b : Int) (q0 : Int) sp ast v (A ++ exS T b (q0 : Int) 1 neg (q - b)) wr)) (fun _ i _ => L - (intOf i).toNat)
          case atStart => exact ⟨b, by omega, by omega, rfl, by rw [Nat.sub_self]; simpa [exS] using hR2⟩
          case round =>
            obtain ⟨q, hq1, hq2, rfl, hR⟩ := hrel
            obtain ⟨hO, hG, ⟨c0, c1, c2, c3⟩, hzz, hwg⟩ := hR.out
            by_cases hlt : q < L
            · have hqX : q < X.size := by omega
              have hbT := HAT.out q hqX
              have hbl : (bI (A ++ exS T b (q0 : Int) 1 neg (q - b))).length = q := by unfold bI; rw [List.length_map, List.length_append, hAl, exS_len]; omega
              have HBL := Lib.hid hbl
              have hO2 := Lib.hid hO
              have he : exS T b (q0 : Int) 1 neg (q - b + 1) = exS T b (q0 : Int) 1 neg (q - b) ++ [exC T (q0 : Int) 1 neg (b + (q - b))] := rfl
              rw [show b + (q - b) = q by omega] at he
              unfold exC at he
              obtain ⟨t, ht⟩ : ∃ t, dAt T q = t := ⟨_, rfl⟩
              obtain ⟨m, hm⟩ : ∃ m, (t == 38) = m := ⟨_, rfl⟩
              have gm : ((t.toNat : Int) == 38) = m := by rw [← hm]; exact u8_eqb t 38
              have hm2 : (t = 38) = (m = true) := by rw [← hm]; simp
              rw [ht] at he hbT
              simp only [hm2] at he
              obtain ⟨yt, hyt⟩ : ∃ yt, (t.toNat : Int) = yt := ⟨_, rfl⟩
              have HYT := Lib.hid hyt
              rw [hyt] at hbT gm
              obtain ⟨wv, hwv⟩ : ∃ wv, decide ((q0 : Int) ≤ (q : Int) ∧ (q : Int) ≤ (q0 : Int) + 1 - 1) = wv := ⟨_, rfl⟩
              have hWc : ∀ x, x = (q0 : Int) + 1 - 1 → ∀ w, Calls Tryz.prog 26 #[.int .i64 (q : Int), .int .i64 (q0 : Int), .int .i64 x] w fun e w' => e = .returned (.bool wv) ∧ w = w' := by
                intro x hx w
                have h := Within_any (q : Int) (q0 : Int) x w
                rwa [show withinB (q : Int) (q0 : Int) x = wv by rw [← hwv, hx]; unfold withinB; rw [Bool.decide_and]] at h
              have hwv2 : ((q0 : Int) ≤ (q : Int) ∧ (q : Int) ≤ (q0 : Int) + ((1 : Nat) : Int) - 1) = (wv = true) := by rw [← hwv]; simp
              have hne : ((q0 : Int) ≠ -1) = True := by simp <;> omega
              simp only [hwv2, hne, true_and] at he
              have HE := Lib.hid he
              clear he ht hm hm2 hyt hwv hwv2 hne hbl hO
              cases m
              · cases wv
                · skip
                  have E := Lib.hid (show exS T b (q0 : Int) 1 neg (q - b + 1) = exS T b (q0 : Int) 1 neg (q - b) ++ [t] by rw [HE.out]; simp)
                  go_wp2_with (first | (go_at_call 26; (with_reducible refine (hWc _ (by omega) _).mono ?_); rintro e w5 ⟨rfl, rfl⟩) | (at_builtin; go_loud (refine wp_append_ints _ rfl (.tmp 120) (.tmp 122) 80 5 rfl .u8 i0 1 Tryz.underlying80 hi hz0 hz1 hz2 (by decide) (g + 1) _ (bI (A ++ exS T b (q0 : Int) 1 neg (q - b))) rfl (Own.alloc hO2.out _) (q + 1) wr.heap.size 1 1 [yt] (by first | rfl | simp) rfl (by omega) (fun j hj => one_cell _ _ _ _ j hj) (by rw [HBL.out]) (by omega) (by simp <;> omega) ?_); intro g1 cap1 w1 hO1 hB1 hgr1 hg1 hl1))
                  go_roundw
                  case rel =>
                    first
                    | (refine Exists.intro (α := Nat) (q + 1) ?_; refine ⟨?_, ?_, ?_, Lib.hid ?_⟩)
                    | ((repeat (refine Exists.intro (α := Value) ?_ ?_; rotate_left)); refine And.intro ?_ ?_; rotate_left; rfl; refine Exists.intro (α := Nat) (q + 1) ?_; refine ⟨?_, ?_, ?_, Lib.hid ?_⟩)
                    all_goals first | omega | (rw [show q + 1 - b = q - b + 1 by omega, E.out, ← List.append_assoc]; exact hR.out.app _ HYT.out hO1 hB1) | go_num | rfl
                  case measure => simp [intOf]; omega
                · cases neg
                  · skip
                    have E := Lib.hid (show exS T b (q0 : Int) 1 false (q - b + 1) = exS T b (q0 : Int) 1 false (q - b) ++ [32] by rw [HE.out]; simp)
                    go_wp2_with (first | (go_at_call 26; (with_reducible refine (hWc _ (by omega) _).mono ?_); rintro e w5 ⟨rfl, rfl⟩) | (at_builtin; go_loud (refine wp_append_ints _ rfl (.tmp 120) (.tmp 122) 80 5 rfl .u8 i0 1 Tryz.underlying80 hi hz0 hz1 hz2 (by decide) (g + 1) _ (bI (A ++ exS T b (q0 : Int) 1 false (q - b))) rfl (Own.alloc hO2.out _) (q + 1) wr.heap.size 1 1 [32] (by first | rfl | simp) rfl (by omega) (fun j hj => one_cell _ _ _ _ j hj) (by rw [HBL.out]) (by omega) (by simp <;> omega) ?_); intro g1 cap1 w1 hO1 hB1 hgr1 hg1 hl1))
                    go_roundw
                    case rel =>
                      first
                      | (refine Exists.intro (α := Nat) (q + 1) ?_; refine ⟨?_, ?_, ?_, Lib.hid ?_⟩)
                      | ((repeat (refine Exists.intro (α := Value) ?_ ?_; rotate_left)); refine And.intro ?_ ?_; rotate_left; rfl; refine Exists.intro (α := Nat) (q + 1) ?_; refine ⟨?_, ?_, ?_, Lib.hid ?_⟩)
                      all_goals first | omega | (rw [show q + 1 - b = q - b + 1 by omega, E.out, ← List.append_assoc]; exact hR.out.app _ rfl hO1 hB1) | go_num | rfl
                    case measure => simp [intOf]; omega
                  · skip
                    have E := Lib.hid (show exS T b (q0 : Int) 1 true (q - b + 1) = exS T b (q0 : Int) 1 true (q - b) ++ [t] by rw [HE.out]; simp)
                    go_wp2_with (first | (go_at_call 26; (with_reducible refine (hWc _ (by omega) _).mono ?_); rintro e w5 ⟨rfl, rfl⟩) | (at_builtin; go_loud (refine wp_append_ints _ rfl (.tmp 120) (.tmp 122) 80 5 rfl .u8 i0 1 Tryz.underlying80 hi hz0 hz1 hz2 (by decide) (g + 1) _ (bI (A ++ exS T b (q0 : Int) 1 true (q - b))) rfl (Own.alloc hO2.out _) (q + 1) wr.heap.size 1 1 [yt] (by first | rfl | simp) rfl (by omega) (fun j hj => one_cell _ _ _ _ j hj) (by rw [HBL.out]) (by omega) (by simp <;> omega) ?_); intro g1 cap1 w1 hO1 hB1 hgr1 hg1 hl1))
                    go_roundw
                    case rel =>
                      first
                      | (refine Exists.intro (α := Nat) (q + 1) ?_; refine ⟨?_, ?_, ?_, Lib.hid ?_⟩)
                      | ((repeat (refine Exists.intro (α := Value) ?_ ?_; rotate_left)); refine And.intro ?_ ?_; rotate_left; rfl; refine Exists.intro (α := Nat) (q + 1) ?_; refine ⟨?_, ?_, ?_, Lib.hid ?_⟩)
                      all_goals first | omega | (rw [show q + 1 - b = q - b + 1 by omega, E.out, ← List.append_assoc]; exact hR.out.app _ HYT.out hO1 hB1) | go_num | rfl
                    case measure => simp [intOf]; omega
              · skip
                have E := Lib.hid (show exS T b (q0 : Int) 1 neg (q - b + 1) = exS T b (q0 : Int) 1 neg (q - b) ++ [32] by rw [HE.out]; simp)
                go_wp2_with (first | (go_at_call 26; (with_reducible refine (hWc _ (by omega) _).mono ?_); rintro e w5 ⟨rfl, rfl⟩) | (at_builtin; go_loud (refine wp_append_ints _ rfl (.tmp 120) (.tmp 122) 80 5 rfl .u8 i0 1 Tryz.underlying80 hi hz0 hz1 hz2 (by decide) (g + 1) _ (bI (A ++ exS T b (q0 : Int) 1 neg (q - b))) rfl (Own.alloc hO2.out _) (q + 1) wr.heap.size 1 1 [32] (by first | rfl | simp) rfl (by omega) (fun j hj => one_cell _ _ _ _ j hj) (by rw [HBL.out]) (by omega) (by simp <;> omega) ?_); intro g1 cap1 w1 hO1 hB1 hgr1 hg1 hl1))
                go_roundw
                case rel =>
                  first
                  | (refine Exists.intro (α := Nat) (q + 1) ?_; refine ⟨?_, ?_, ?_, Lib.hid ?_⟩)
                  | ((repeat (refine Exists.intro (α := Value) ?_ ?_; rotate_left)); refine And.intro ?_ ?_; rotate_left; rfl; refine Exists.intro (α := Nat) (q + 1) ?_; refine ⟨?_, ?_, ?_, Lib.hid ?_⟩)
                  all_goals first | omega | (rw [show q + 1 - b = q - b + 1 by omega, E.out, ← List.append_assoc]; exact hR.out.app _ rfl hO1 hB1) | go_num | rfl
                case measure => simp [intOf]; omega
            · obtain rfl : q = L := by omega
              have hcv := cv_ownL hO
              go_wp2
              go_ret
              exact ⟨ret_str (by rw [← HA.out]), hG⟩
        · skip
          have hqx0 : q0 < X.size := by omega
          have hby0 := HAT.out q0 hqx0
          rw [hy0] at hby0
          have hb80 : ((X[q0]'hqx0).toNat : Int) = 67 := hby0
          have bst : ((q0 : Int) != -1) = true := by simp <;> omega
          clear hby0 hy0
          go_wp2
          go_loopw [12, 18] (fun v i wr => ∃ q : Nat, b ≤ q ∧ q ≤ L ∧ i = .int .i64 q ∧ Hid (WtW w g (b : Int) (q0 : Int) sp ast v (A ++ exS T b (q0 : Int) 2 neg (q - b)) wr)) (fun _ i _ => L - (intOf i).toNat)
          case atStart => exact ⟨b, by omega, by omega, rfl, by rw [Nat.sub_self]; simpa [exS] using hR2⟩
          case round =>
            obtain ⟨q, hq1, hq2, rfl, hR⟩ := hrel
            obtain ⟨hO, hG, ⟨c0, c1, c2, c3⟩, hzz, hwg⟩ := hR.out
            by_cases hlt : q < L
            · have hqX : q < X.size := by omega
              have hbT := HAT.out q hqX
              have hbl : (bI (A ++ exS T b (q0 : Int) 2 neg (q - b))).length = q := by unfold bI; rw [List.length_map, List.length_append, hAl, exS_len]; omega
              have HBL := Lib.hid hbl
              have hO2 := Lib.hid hO
              have he : exS T b (q0 : Int) 2 neg (q - b + 1) = exS T b (q0 : Int) 2 neg (q - b) ++ [exC T (q0 : Int) 2 neg (b + (q - b))] := rfl
              rw [show b + (q - b) = q by omega] at he
              unfold exC at he
              obtain ⟨t, ht⟩ : ∃ t, dAt T q = t := ⟨_, rfl⟩
              obtain ⟨m, hm⟩ : ∃ m, (t == 38) = m := ⟨_, rfl⟩
              have gm : ((t.toNat : Int) == 38) = m := by rw [← hm]; exact u8_eqb t 38
              have hm2 : (t = 38) = (m = true) := by rw [← hm]; simp
              rw [ht] at he hbT
              simp only [hm2] at he
              obtain ⟨yt, hyt⟩ : ∃ yt, (t.toNat : Int) = yt := ⟨_, rfl⟩
              have HYT := Lib.hid hyt
              rw [hyt] at hbT gm
              obtain ⟨wv, hwv⟩ : ∃ wv, decide ((q0 : Int) ≤ (q : Int) ∧ (q : Int) ≤ (q0 : Int) + 2 - 1) = wv := ⟨_, rfl⟩
              have hWc : ∀ x, x = (q0 : Int) + 2 - 1 → ∀ w, Calls Tryz.prog 26 #[.int .i64 (q : Int), .int .i64 (q0 : Int), .int .i64 x] w fun e w' => e = .returned (.bool wv) ∧ w = w' := by
                intro x hx w
                have h := Within_any (q : Int) (q0 : Int) x w
                rwa [show withinB (q : Int) (q0 : Int) x = wv by rw [← hwv, hx]; unfold withinB; rw [Bool.decide_and]] at h
              have hwv2 : ((q0 : Int) ≤ (q : Int) ∧ (q : Int) ≤ (q0 : Int) + ((2 : Nat) : Int) - 1) = (wv = true) := by rw [← hwv]; simp
              have hne : ((q0 : Int) ≠ -1) = True := by simp <;> omega
              simp only [hwv2, hne, true_and] at he
              have HE := Lib.hid he
              clear he ht hm hm2 hyt hwv hwv2 hne hbl hO
              cases m
              · cases wv
                · skip
                  have E := Lib.hid (show exS T b (q0 : Int) 2 neg (q - b + 1) = exS T b (q0 : Int) 2 neg (q - b) ++ [t] by rw [HE.out]; simp)
                  go_wp2_with (first | (go_at_call 26; (with_reducible refine (hWc _ (by omega) _).mono ?_); rintro e w5 ⟨rfl, rfl⟩) | (at_builtin; go_loud (refine wp_append_ints _ rfl (.tmp 120) (.tmp 122) 80 5 rfl .u8 i0 1 Tryz.underlying80 hi hz0 hz1 hz2 (by decide) (g + 1) _ (bI (A ++ exS T b (q0 : Int) 2 neg (q - b))) rfl (Own.alloc hO2.out _) (q + 1) wr.heap.size 1 1 [yt] (by first | rfl | simp) rfl (by omega) (fun j hj => one_cell _ _ _ _ j hj) (by rw [HBL.out]) (by omega) (by simp <;> omega) ?_); intro g1 cap1 w1 hO1 hB1 hgr1 hg1 hl1))
                  go_roundw
                  case rel =>
                    first
                    | (refine Exists.intro (α := Nat) (q + 1) ?_; refine ⟨?_, ?_, ?_, Lib.hid ?_⟩)
                    | ((repeat (refine Exists.intro (α := Value) ?_ ?_; rotate_left)); refine And.intro ?_ ?_; rotate_left; rfl; refine Exists.intro (α := Nat) (q + 1) ?_; refine ⟨?_, ?_, ?_, Lib.hid ?_⟩)
                    all_goals first | omega | (rw [show q + 1 - b = q - b + 1 by omega, E.out, ← List.append_assoc]; exact hR.out.app _ HYT.out hO1 hB1) | go_num | rfl
                  case measure => simp [intOf]; omega
                · cases neg
                  · skip
                    have E := Lib.hid (show exS T b (q0 : Int) 2 false (q - b + 1) = exS T b (q0 : Int) 2 false (q - b) ++ [32] by rw [HE.out]; simp)
                    go_wp2_with (first | (go_at_call 26; (with_reducible refine (hWc _ (by omega) _).mono ?_); rintro e w5 ⟨rfl, rfl⟩) | (at_builtin; go_loud (refine wp_append_ints _ rfl (.tmp 120) (.tmp 122) 80 5 rfl .u8 i0 1 Tryz.underlying80 hi hz0 hz1 hz2 (by decide) (g + 1) _ (bI (A ++ exS T b (q0 : Int) 2 false (q - b))) rfl (Own.alloc hO2.out _) (q + 1) wr.heap.size 1 1 [32] (by first | rfl | simp) rfl (by omega) (fun j hj => one_cell _ _ _ _ j hj) (by rw [HBL.out]) (by omega) (by simp <;> omega) ?_); intro g1 cap1 w1 hO1 hB1 hgr1 hg1 hl1))
                    go_roundw
                    case rel =>
                      first
                      | (refine Exists.intro (α := Nat) (q + 1) ?_; refine ⟨?_, ?_, ?_, Lib.hid ?_⟩)
                      | ((repeat (refine Exists.intro (α := Value) ?_ ?_; rotate_left)); refine And.intro ?_ ?_; rotate_left; rfl; refine Exists.intro (α := Nat) (q + 1) ?_; refine ⟨?_, ?_, ?_, Lib.hid ?_⟩)
                      all_goals first | omega | (rw [show q + 1 - b = q - b + 1 by omega, E.out, ← List.append_assoc]; exact hR.out.app _ rfl hO1 hB1) | go_num | rfl
                    case measure => simp [intOf]; omega
                  · skip
                    have E := Lib.hid (show exS T b (q0 : Int) 2 true (q - b + 1) = exS T b (q0 : Int) 2 true (q - b) ++ [t] by rw [HE.out]; simp)
                    go_wp2_with (first | (go_at_call 26; (with_reducible refine (hWc _ (by omega) _).mono ?_); rintro e w5 ⟨rfl, rfl⟩) | (at_builtin; go_loud (refine wp_append_ints _ rfl (.tmp 120) (.tmp 122) 80 5 rfl .u8 i0 1 Tryz.underlying80 hi hz0 hz1 hz2 (by decide) (g + 1) _ (bI (A ++ exS T b (q0 : Int) 2 true (q - b))) rfl (Own.alloc hO2.out _) (q + 1) wr.heap.size 1 1 [yt] (by first | rfl | simp) rfl (by omega) (fun j hj => one_cell _ _ _ _ j hj) (by rw [HBL.out]) (by omega) (by simp <;> omega) ?_); intro g1 cap1 w1 hO1 hB1 hgr1 hg1 hl1))
                    go_roundw
                    case rel =>
                      first
                      | (refine Exists.intro (α := Nat) (q + 1) ?_; refine ⟨?_, ?_, ?_, Lib.hid ?_⟩)
                      | ((repeat (refine Exists.intro (α := Value) ?_ ?_; rotate_left)); refine And.intro ?_ ?_; rotate_left; rfl; refine Exists.intro (α := Nat) (q + 1) ?_; refine ⟨?_, ?_, ?_, Lib.hid ?_⟩)
                      all_goals first | omega | (rw [show q + 1 - b = q - b + 1 by omega, E.out, ← List.append_assoc]; exact hR.out.app _ HYT.out hO1 hB1) | go_num | rfl
                    case measure => simp [intOf]; omega
              · skip
                have E := Lib.hid (show exS T b (q0 : Int) 2 neg (q - b + 1) = exS T b (q0 : Int) 2 neg (q - b) ++ [32] by rw [HE.out]; simp)
                go_wp2_with (first | (go_at_call 26; (with_reducible refine (hWc _ (by omega) _).mono ?_); rintro e w5 ⟨rfl, rfl⟩) | (at_builtin; go_loud (refine wp_append_ints _ rfl (.tmp 120) (.tmp 122) 80 5 rfl .u8 i0 1 Tryz.underlying80 hi hz0 hz1 hz2 (by decide) (g + 1) _ (bI (A ++ exS T b (q0 : Int) 2 neg (q - b))) rfl (Own.alloc hO2.out _) (q + 1) wr.heap.size 1 1 [32] (by first | rfl | simp) rfl (by omega) (fun j hj => one_cell _ _ _ _ j hj) (by rw [HBL.out]) (by omega) (by simp <;> omega) ?_); intro g1 cap1 w1 hO1 hB1 hgr1 hg1 hl1))
                go_roundw
                case rel =>
                  first
                  | (refine Exists.intro (α := Nat) (q + 1) ?_; refine ⟨?_, ?_, ?_, Lib.hid ?_⟩)
                  | ((repeat (refine Exists.intro (α := Value) ?_ ?_; rotate_left)); refine And.intro ?_ ?_; rotate_left; rfl; refine Exists.intro (α := Nat) (q + 1) ?_; refine ⟨?_, ?_, ?_, Lib.hid ?_⟩)
                  all_goals first | omega | (rw [show q + 1 - b = q - b + 1 by omega, E.out, ← List.append_assoc]; exact hR.out.app _ rfl hO1 hB1) | go_num | rfl
                case measure => simp [intOf]; omega
            · obtain rfl : q = L := by omega
              have hcv := cv_ownL hO
              go_wp2
              go_ret
              exact ⟨ret_str (by rw [← HA.out]), hG⟩
end Go.Proofs.YtmdpejllbalnnaaGreatDoor
