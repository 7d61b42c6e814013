/- Texts of the walks, merged. -/
import Derived.Test.YtmdpejllbalnnaaGreatDoorQ17
import Derived.Test.YtmdpejllbalnnaaGreatDoorQ02
namespace Go.Proofs.YtmdpejllbalnnaaGreatDoor
set_option linter.unusedSimpArgs false
set_option linter.unusedVariables false
open Go.RowKit

set_option maxHeartbeats 1000000 in
theorem refParts_empty (w : World) :
    Calls Tryz.prog 44 #[.string ⟨#[]⟩] w fun e w' => e = .returned (.tuple #[.agg #[.int .i64 0, .int .i64 0, .int .i64 0, .bool false], .int .i64 0, .int .i64 1]) ∧ Gr w w' := by
  have hemp : (⟨#[]⟩ : ByteArray).toList.isEmpty = true := by rw [isEmpty_size]; rfl
  go_enter Tryz.func44, Tryz.ntmps44
  go_wp2
  exact bodyPost_ret (v := .tuple #[.agg #[.int .i64 0, .int .i64 0, .int .i64 0, .bool false], .int .i64 0, .int .i64 1]) (by simp [results, Tryz.results44, go_sem, *]) rfl ⟨rfl, (by repeat (first | (with_reducible exact Gr.refl _) | (with_reducible assumption) | (with_reducible refine Gr.alloc ?_ _) | (with_reducible refine Gr.drew ?_) | (with_reducible refine Gr.drewN ?_ _) | (with_reducible refine Gr.setCell ?_ (by simp <;> omega) _) | (with_reducible refine Gr.trans ?_ (by with_reducible assumption)) | exact Gr.refl _ | assumption | refine Gr.alloc ?_ _ | refine Gr.drew ?_ | refine Gr.drewN ?_ _ | refine Gr.setCell ?_ (by simp <;> omega) _ | refine Gr.trans ?_ (by assumption)))⟩
set_option maxHeartbeats 1000000 in
theorem refParts_long (X : ByteArray) (h : 40 < X.size) (w : World) :
    Calls Tryz.prog 44 #[.string X] w fun e w' => e = .returned (.tuple #[.agg #[.int .i64 0, .int .i64 0, .int .i64 0, .bool false], .int .i64 0, .int .i64 2]) ∧ Gr w w' := by
  have hemp : X.toList.isEmpty = false := by rw [isEmpty_size, decide_eq_false (by omega)]
  have b40 : decide ((40 : Int) < (X.size : Int)) = true := by simp; omega
  clear h
  go_enter Tryz.func44, Tryz.ntmps44
  go_wp2
  exact bodyPost_ret (v := .tuple #[.agg #[.int .i64 0, .int .i64 0, .int .i64 0, .bool false], .int .i64 0, .int .i64 2]) (by simp [results, Tryz.results44, go_sem, *]) rfl ⟨rfl, (by repeat (first | (with_reducible exact Gr.refl _) | (with_reducible assumption) | (with_reducible refine Gr.alloc ?_ _) | (with_reducible refine Gr.drew ?_) | (with_reducible refine Gr.drewN ?_ _) | (with_reducible refine Gr.setCell ?_ (by simp <;> omega) _) | (with_reducible refine Gr.trans ?_ (by with_reducible assumption)) | exact Gr.refl _ | assumption | refine Gr.alloc ?_ _ | refine Gr.drew ?_ | refine Gr.drewN ?_ _ | refine Gr.setCell ?_ (by simp <;> omega) _ | refine Gr.trans ?_ (by assumption)))⟩
set_option maxHeartbeats 8000000 in
set_option maxRecDepth 100000 in
theorem refParts_core (T : List UInt8) (hne : T ≠ []) (h40 : T.length ≤ 40) (w : World) (V : Value) (E A : Int)
    (hbad : bdI T ≠ -1 → V = .agg #[.int .i64 0, .int .i64 0, .int .i64 0, .bool false] ∧ A = bdI T ∧ E = 8)
    (hbod : bdI T = -1 → bodI T = 0 → V = .agg #[.int .i64 0, .int .i64 0, .int .i64 0, .bool false] ∧ A = 0 ∧ E = 6)
    (hok : bdI T = -1 → bodI T ≠ 0 → V = .agg #[.int .i64 (bodI T), .int .i64 (stsI T), .int .i64 (stpI T), .bool (astB T)] ∧ A = 0 ∧ E = 0) :
    Calls Tryz.prog 44 #[.string (BL T)] w fun e w' => e = .returned (.tuple #[V, .int .i64 A, .int .i64 E]) ∧ Gr w w' := by
  have hsz : (BL T).size = T.length := BL_size T
  have hemp : (BL T).toList.isEmpty = false := by rw [isEmpty_size, BL_size]; simp [hne]
  have HAT := Lib.hid fun q (h : q < (BL T).size) => show (((BL T)[q]'h).toNat : Int) = ((dAt T q).toNat : Int) by rw [BL_at]
  have b40 : decide ((40 : Int) < (T.length : Int)) = false := by simp; omega
  have HB := Lib.hid hbad
  have HO := Lib.hid hbod
  have HK := Lib.hid hok
  have HE := Lib.hid hne
  clear hbad hbod hok hne
  generalize BL T = X at *
  go_enter Tryz.func44, Tryz.ntmps44
  go_wp2
  go_loop [6] (fun i => ∃ q : Nat, q ≤ T.length ∧ i = .int .i64 q ∧ Hid (bdI T = bdF T q (T.length - q))) (fun i => T.length - (intOf i).toNat)
  case atStart => exact ⟨0, by omega, rfl, Lib.hid rfl⟩
  case round =>
    obtain ⟨q, hq, rfl, hr⟩ := hrel
    by_cases hlt : q < T.length
    · have hqx : q < X.size := by omega
      have hby := HAT.out q hqx
      by_cases g : (dAt T q).toNat < 32 ∨ 126 < (dAt T q).toNat
      · have E2 := Lib.hid (show bdI T = q by rw [hr.out, show T.length - q = (T.length - (q + 1)) + 1 by omega, bdF, if_pos g])
        have hb := HB.out (by rw [E2.out]; omega)
        obtain ⟨rfl, hA, rfl⟩ := hb
        rw [E2.out] at hA
        subst hA
        by_cases g1 : (dAt T q).toNat < 32
        · have c1 : decide (((dAt T q).toNat : Int) < 32) = true := by simp; omega
          clear g g1
          generalize ((dAt T q).toNat : Int) = y at *
          go_wp2
          exact bodyPost_ret (v := .tuple #[.agg #[.int .i64 0, .int .i64 0, .int .i64 0, .bool false], .int .i64 q, .int .i64 8]) (by simp [results, Tryz.results44, go_sem, *]) rfl ⟨rfl, (by repeat (first | (with_reducible exact Gr.refl _) | (with_reducible assumption) | (with_reducible refine Gr.alloc ?_ _) | (with_reducible refine Gr.drew ?_) | (with_reducible refine Gr.drewN ?_ _) | (with_reducible refine Gr.setCell ?_ (by simp <;> omega) _) | (with_reducible refine Gr.trans ?_ (by with_reducible assumption)) | exact Gr.refl _ | assumption | refine Gr.alloc ?_ _ | refine Gr.drew ?_ | refine Gr.drewN ?_ _ | refine Gr.setCell ?_ (by simp <;> omega) _ | refine Gr.trans ?_ (by assumption)))⟩
        · have c1 : decide (((dAt T q).toNat : Int) < 32) = false := by simp; omega
          have c2 : decide ((126 : Int) < ((dAt T q).toNat : Int)) = true := by simp; omega
          clear g g1
          generalize ((dAt T q).toNat : Int) = y at *
          go_wp2
          exact bodyPost_ret (v := .tuple #[.agg #[.int .i64 0, .int .i64 0, .int .i64 0, .bool false], .int .i64 q, .int .i64 8]) (by simp [results, Tryz.results44, go_sem, *]) rfl ⟨rfl, (by repeat (first | (with_reducible exact Gr.refl _) | (with_reducible assumption) | (with_reducible refine Gr.alloc ?_ _) | (with_reducible refine Gr.drew ?_) | (with_reducible refine Gr.drewN ?_ _) | (with_reducible refine Gr.setCell ?_ (by simp <;> omega) _) | (with_reducible refine Gr.trans ?_ (by with_reducible assumption)) | exact Gr.refl _ | assumption | refine Gr.alloc ?_ _ | refine Gr.drew ?_ | refine Gr.drewN ?_ _ | refine Gr.setCell ?_ (by simp <;> omega) _ | refine Gr.trans ?_ (by assumption)))⟩
      · have E2 := Lib.hid (show bdI T = bdF T (q + 1) (T.length - (q + 1)) by rw [hr.out, show T.length - q = (T.length - (q + 1)) + 1 by omega, bdF, if_neg g])
        have c1 : decide (((dAt T q).toNat : Int) < 32) = false := by simp; omega
        have c2 : decide ((126 : Int) < ((dAt T q).toNat : Int)) = false := by simp; omega
        clear g
        generalize ((dAt T q).toNat : Int) = y at *
        go_wp2
        go_round
        case rel => exact ⟨q + 1, by omega, by go_num, E2⟩
        case measure => simp [intOf]; omega
    · obtain rfl : q = T.length := by omega
      have E2 := Lib.hid (show bdI T = -1 by rw [hr.out, Nat.sub_self]; rfl)
      clear hr hlt hq
      have P0 : PsW w 0 (-1) (-1) false (((w.alloc (.cells #[.int .i64 0, .int .i64 0, .int .i64 0, .bool false] 66)).alloc (.cells #[.int .i64 0, .int .i64 0, .int .i64 0, .bool false] 66)).alloc (.cells #[.int .i64 0, .int .i64 (-1), .int .i64 (-1), .bool false] 66)) := by
        refine ⟨⟨⟨?_, ?_, ?_, ?_⟩, ?_, ?_, ?_, ?_⟩, ⟨⟨?_, ?_, ?_, ?_⟩, ?_, ?_, ?_, ?_⟩, ⟨⟨?_, ?_, ?_, ?_⟩, ?_, ?_, ?_, ?_⟩, (by repeat (first | (with_reducible exact Gr.refl _) | (with_reducible assumption) | (with_reducible refine Gr.alloc ?_ _) | (with_reducible refine Gr.drew ?_) | (with_reducible refine Gr.drewN ?_ _) | (with_reducible refine Gr.setCell ?_ (by simp <;> omega) _) | (with_reducible refine Gr.trans ?_ (by with_reducible assumption)) | exact Gr.refl _ | assumption | refine Gr.alloc ?_ _ | refine Gr.drew ?_ | refine Gr.drewN ?_ _ | refine Gr.setCell ?_ (by simp <;> omega) _ | refine Gr.trans ?_ (by assumption))), ?_⟩
        all_goals simp [go_sem]
      have HP0 := Lib.hid P0
      clear P0
      go_wp2
      clear hemp b40
      go_loopw [8] (fun i wr => ∃ q : Nat, q ≤ T.length ∧ i = .int .i64 q ∧ Hid (PsW w (boI T q) (-1) (stI T q) (asB T q) wr)) (fun i _ => T.length - (intOf i).toNat)
      case atStart => exact ⟨0, by omega, rfl, HP0⟩
      case round =>
        obtain ⟨q, hq, rfl, hP⟩ := hrel
        by_cases hlt : q < T.length
        · obtain ⟨-, -, ⟨⟨d0, d1, d2, d3⟩, f0, f1, f2, f3⟩, -, hz⟩ := hP.out
          have hqx : q < X.size := by omega
          have hby := HAT.out q hqx
          have hst := st_step T q hlt
          have hbo := bo_step T q hlt
          have has : asB T (q + 1) = (decide (0 ≤ stI T (q + 1)) && dAt T (stI T (q + 1)).toNat == 42) := rfl
          have hao : asB T q = (decide (0 ≤ stI T q) && dAt T (stI T q).toNat == 42) := rfl
          obtain ⟨y8, hy⟩ : ∃ y8, dAt T q = y8 := ⟨_, rfl⟩
          rw [hy] at hby hst hbo
          have HY := Lib.hid hy
          clear hy
          by_cases hs : stI T q = -1
          · rw [if_pos hs] at hst
            rw [hs] at d2
            have hPs := hP.out
            rw [hs] at hPs
            have HPs := Lib.hid hPs
            clear hPs
            by_cases y48 : y8 = 48
            · subst y48
              have E1 := Lib.hid (show stI T (q + 1) = q by rw [hst]; rfl)
              have E2 := Lib.hid (show boI T (q + 1) = boI T q by rw [hbo]; rfl)
              have E3 := Lib.hid (show asB T (q + 1) = false by rw [has, E1.out, Int.toNat_natCast, HY.out]; simp)
              have hb8 : ((X[q]'hqx).toNat : Int) = 48 := hby
              clear hst hbo has hao hby hs
              go_wp2
              go_region
              all_goals
                go_wp2
                go_roundw
                case rel => exact ⟨q + 1, by omega, by go_num, Lib.hid (by rw [E1.out, E2.out, E3.out]; first | exact (((HPs.out.stop _).ast _).gr (Gr.drew (Gr.refl _))) | exact (((HPs.out.ast _).stop _).gr (Gr.drew (Gr.refl _))))⟩
                case measure => simp [intOf]; omega
            · by_cases y42 : y8 = 42
              · subst y42
                have E1 := Lib.hid (show stI T (q + 1) = q by rw [hst]; rfl)
                have E2 := Lib.hid (show boI T (q + 1) = boI T q by rw [hbo]; rfl)
                have E3 := Lib.hid (show asB T (q + 1) = true by rw [has, E1.out, Int.toNat_natCast, HY.out]; simp)
                have hb8 : ((X[q]'hqx).toNat : Int) = 42 := hby
                clear hst hbo has hao hby hs y48
                go_wp2
                go_region
                all_goals
                  go_wp2
                  go_roundw
                  case rel => exact ⟨q + 1, by omega, by go_num, Lib.hid (by rw [E1.out, E2.out, E3.out]; first | exact (((HPs.out.stop _).ast _).gr (Gr.drew (Gr.refl _))) | exact (((HPs.out.ast _).stop _).gr (Gr.drew (Gr.refl _))))⟩
                  case measure => simp [intOf]; omega
              · have E1 := Lib.hid (show stI T (q + 1) = -1 by rw [hst, if_neg (by simp [y48, y42])])
                have E3 := Lib.hid (show asB T (q + 1) = asB T q by rw [has, hao, E1.out, hs])
                by_cases y32 : y8 = 32
                · subst y32
                  have E2 := Lib.hid (show boI T (q + 1) = (q : Int) + 1 by rw [hbo]; rfl)
                  have hb8 : ((X[q]'hqx).toNat : Int) = 32 := hby
                  clear hst hbo has hao hby hs y48 y42
                  go_wp2
                  go_roundw
                  case rel => exact ⟨q + 1, by omega, by go_num, Lib.hid (by rw [E1.out, E2.out, E3.out]; exact HPs.out.body _)⟩
                  case measure => simp [intOf]; omega
                · have E2 := Lib.hid (show boI T (q + 1) = boI T q by rw [hbo, if_neg y32])
                  have g48 : ((y8.toNat : Int) == 48) = false := by have := u8_eq y8 48; rw [beq_eq_false_iff_ne.2 y48] at this; exact this
                  have g42 : ((y8.toNat : Int) == 42) = false := by have := u8_eq y8 42; rw [beq_eq_false_iff_ne.2 y42] at this; exact this
                  have g32 : ((y8.toNat : Int) == 32) = false := by have := u8_eq y8 32; rw [beq_eq_false_iff_ne.2 y32] at this; exact this
                  clear hst hbo has hao hs y48 y42 y32
                  generalize (y8.toNat : Int) = y at *
                  go_wp2
                  go_roundw
                  case rel => exact ⟨q + 1, by omega, by go_num, Lib.hid (by rw [E1.out, E2.out, E3.out]; exact HPs.out)⟩
                  case measure => simp [intOf]; omega
          · rw [if_neg hs] at hst
            have bs : (stI T q == -1) = false := by simp [hs]
            have E1 := Lib.hid hst
            have E3 := Lib.hid (show asB T (q + 1) = asB T q by rw [has, hao, hst])
            clear hst has hao hs
            by_cases y32 : y8 = 32
            · subst y32
              have E2 := Lib.hid (show boI T (q + 1) = (q : Int) + 1 by rw [hbo]; rfl)
              have hb8 : ((X[q]'hqx).toNat : Int) = 32 := hby
              clear hbo hby
              generalize hsv : stI T q = sv at *
              have HSV := Lib.hid hsv
              clear hsv
              go_wp2
              go_roundw
              case rel => exact ⟨q + 1, by omega, by go_num, Lib.hid (by rw [E1.out, E2.out, E3.out]; exact hP.out.body _)⟩
              case measure => simp [intOf]; omega
            · have E2 := Lib.hid (show boI T (q + 1) = boI T q by rw [hbo, if_neg y32])
              have g32 : ((y8.toNat : Int) == 32) = false := by have := u8_eq y8 32; rw [beq_eq_false_iff_ne.2 y32] at this; exact this
              clear hbo y32
              generalize (y8.toNat : Int) = y at *
              generalize hsv : stI T q = sv at *
              have HSV := Lib.hid hsv
              clear hsv
              go_wp2
              go_roundw
              case rel => exact ⟨q + 1, by omega, by go_num, Lib.hid (by rw [E1.out, E2.out, E3.out]; exact hP.out)⟩
              case measure => simp [intOf]; omega
        · obtain rfl : q = T.length := by omega
          have hP1 := hP.out
          have hmx := bo_all T
          obtain ⟨b0, b1, b2, b3, b4⟩ := bod_bd T
          rw [st_all, as_all] at hP1
          rw [st_all] at hmx
          have hP2 := hP1.body (bodI T)
          obtain ⟨⟨⟨r0, r1, r2, r3⟩, s0, s1, s2, s3⟩, ⟨⟨n0, n1, n2, n3⟩, m0, m1, m2, m3⟩, ⟨⟨d0, d1, d2, d3⟩, f0, f1, f2, f3⟩, G, hz⟩ := hP1
          have HP2 := Lib.hid hP2
          have hwr : IntKind.i64.wrap (stpI T + 1) = stpI T + 1 := IntWalk.i64_in _ (by omega)
          clear hP2 hP hlt hq
          obtain ⟨sp, hsp⟩ : ∃ sp, stpI T = sp := ⟨_, rfl⟩
          obtain ⟨ast, hast⟩ : ∃ ast, astB T = ast := ⟨_, rfl⟩
          rw [hsp] at hmx d2 hwr HP2 b2 b3 b4
          rw [hast] at d3 HP2
          have HSP := Lib.hid (And.intro hsp hast)
          clear hsp hast
          generalize boI T T.length = lb at *
          have HS := Lib.hid (show stsI T = stsF T (bodI T).toNat (T.length - (bodI T).toNat) from rfl)
          by_cases hb0 : bodI T = 0
          · obtain ⟨rfl, rfl, rfl⟩ := HO.out E2.out hb0
            rw [hb0] at hmx
            clear hb0 b0 b1 b2 b3 b4 HK HO HB
            go_wp2
            exact bodyPost_ret (v := .tuple #[.agg #[.int .i64 0, .int .i64 0, .int .i64 0, .bool false], .int .i64 0, .int .i64 6]) (by simp [results, Tryz.results44, go_sem, *]) rfl ⟨rfl, (by (repeat (first | with_reducible refine Gr.setCell ?_ (by simp <;> omega) _ | with_reducible refine Gr.drew ?_ | with_reducible refine Gr.drewN ?_ _ | with_reducible refine Gr.alloc ?_ _)); first | (with_reducible exact Gr.refl _) | (with_reducible assumption) | exact (by repeat (first | (with_reducible exact Gr.refl _) | (with_reducible assumption) | (with_reducible refine Gr.alloc ?_ _) | (with_reducible refine Gr.drew ?_) | (with_reducible refine Gr.drewN ?_ _) | (with_reducible refine Gr.setCell ?_ (by simp <;> omega) _) | (with_reducible refine Gr.trans ?_ (by with_reducible assumption)) | exact Gr.refl _ | assumption | refine Gr.alloc ?_ _ | refine Gr.drew ?_ | refine Gr.drewN ?_ _ | refine Gr.setCell ?_ (by simp <;> omega) _ | refine Gr.trans ?_ (by assumption))))⟩
          · obtain ⟨rfl, rfl, rfl⟩ := HK.out E2.out hb0
            have c1 : (bodI T == 0) = false := by simp [hb0]
            clear hb0 HK HO HB
            obtain ⟨b, hb⟩ : ∃ b : Nat, bodI T = b := ⟨(bodI T).toNat, by omega⟩
            rw [hb] at hmx c1 HP2 HS
            rw [Int.toNat_natCast] at HS
            have hbl : b ≤ T.length := by omega
            have hwl : IntKind.i64.wrap ((T.length : Int) - 1) = (T.length : Int) - 1 := IntWalk.i64_in _ (by omega)
            have HBB := Lib.hid hb
            clear hb b0 b1 b2 b3 b4
            go_wp2
            go_loopw [9] (fun i wr => ∃ (j : Nat) (i' : Int), b ≤ j ∧ j ≤ T.length ∧ i' = (j : Int) - 1 ∧ i = .int .i64 i' ∧ Hid (PsW w b (stsF T j (T.length - j)) sp ast wr)) (fun i _ => (intOf i + 1).toNat)
            case atStart => exact ⟨T.length, (T.length : Int) - 1, hbl, Nat.le_refl _, rfl, rfl, Lib.hid (by rw [Nat.sub_self]; exact HP2.out)⟩
            case round =>
              obtain ⟨j, i', hj1, hj2, hi', rfl, hP⟩ := hrel
              obtain ⟨⟨⟨r0, r1, r2, r3⟩, s0, s1, s2, s3⟩, ⟨⟨n0, n1, n2, n3⟩, m0, m1, m2, m3⟩, ⟨⟨d0, d1, d2, d3⟩, f0, f1, f2, f3⟩, G, hz⟩ := hP.out
              by_cases hlt : b < j
              · obtain ⟨q, rfl⟩ : ∃ q, j = q + 1 := ⟨j - 1, by omega⟩
                obtain rfl : i' = (q : Int) := by omega
                have hqT : q < T.length := by omega
                have hqx : q < X.size := by omega
                have hby := HAT.out q hqx
                have hsb := sb_at T q hqT
                have hsf : stsF T q (T.length - q) = if sbL (T.drop q) ≠ [] then (q : Int) else stsF T (q + 1) (T.length - (q + 1)) := by
                  rw [show T.length - q = (T.length - (q + 1)) + 1 by omega]; rfl
                have cge : decide ((b : Int) ≤ (q : Int)) = true := by simp; omega
                have hwq : IntKind.i64.wrap ((q : Int) + 1) = (q : Int) + 1 := IntWalk.i64_in _ (by omega)
                have hwd : IntKind.i64.wrap ((q : Int) - 1) = (q : Int) - 1 := IntWalk.i64_in _ (by omega)
                clear hi'
                by_cases y45 : dAt T q = 45
                · have E := Lib.hid (show stsF T q (T.length - q) = q by rw [hsf, if_pos (hsb.2 (Or.inl y45))])
                  rw [y45] at hby
                  have hb8 : ((X[q]'hqx).toNat : Int) = 45 := hby
                  clear hsf hsb hby y45
                  go_wp2
                  go_roundw
                  case rel => exact ⟨q, (q : Int) - 1, by omega, by omega, rfl, by go_num, Lib.hid (by rw [E.out]; exact hP.out.stat _)⟩
                  case measure => simp [intOf] <;> omega
                · have g45 : (((dAt T q).toNat : Int) == 45) = false := by have := u8_eq (dAt T q) 45; rw [beq_eq_false_iff_ne.2 y45] at this; exact this
                  by_cases y67 : dAt T q = 67
                  · by_cases hq2 : q + 1 < T.length
                    · have hqx2 : q + 1 < X.size := by omega
                      have hby2 := HAT.out (q + 1) hqx2
                      have hix : ((q : Int) + 1).toNat = q + 1 := by omega
                      have cl : decide ((q : Int) + 1 < (T.length : Int)) = true := by simp; omega
                      rw [y67] at hby
                      have hb8 : ((X[q]'hqx).toNat : Int) = 67 := hby
                      by_cases y82 : dAt T (q + 1) = 82
                      · have E := Lib.hid (show stsF T q (T.length - q) = q by rw [hsf, if_pos (hsb.2 (Or.inr ⟨y67, hq2, y82⟩))])
                        rw [y82] at hby2
                        have hb82 : ((X[q + 1]'hqx2).toNat : Int) = 82 := hby2
                        clear hsf hsb hby hby2 y67 y82 y45 g45
                        go_wp2
                        go_roundw
                        case rel => exact ⟨q, (q : Int) - 1, by omega, by omega, rfl, by go_num, Lib.hid (by rw [E.out]; exact hP.out.stat _)⟩
                        case measure => simp [intOf] <;> omega
                      · have E := Lib.hid (show stsF T q (T.length - q) = stsF T (q + 1) (T.length - (q + 1)) by rw [hsf, if_neg (fun k => by rcases hsb.1 k with h | h; exact y45 h; exact y82 h.2.2)])
                        have g82 : (((dAt T (q + 1)).toNat : Int) == 82) = false := by have := u8_eq (dAt T (q + 1)) 82; rw [beq_eq_false_iff_ne.2 y82] at this; exact this
                        clear hsf hsb hby y67 y82 y45 g45
                        generalize ((dAt T (q + 1)).toNat : Int) = y2 at *
                        go_wp2
                        go_roundw
                        case rel => exact ⟨q, (q : Int) - 1, by omega, by omega, rfl, by go_num, Lib.hid (by rw [E.out]; exact hP.out)⟩
                        case measure => simp [intOf] <;> omega
                    · have E := Lib.hid (show stsF T q (T.length - q) = stsF T (q + 1) (T.length - (q + 1)) by rw [hsf, if_neg (fun k => by rcases hsb.1 k with h | h; exact y45 h; exact hq2 h.2.1)])
                      have cl : decide ((q : Int) + 1 < (T.length : Int)) = false := by simp; omega
                      rw [y67] at hby
                      have hb8 : ((X[q]'hqx).toNat : Int) = 67 := hby
                      clear hsf hsb hby y67 y45 g45
                      go_wp2
                      go_roundw
                      case rel => exact ⟨q, (q : Int) - 1, by omega, by omega, rfl, by go_num, Lib.hid (by rw [E.out]; exact hP.out)⟩
                      case measure => simp [intOf] <;> omega
                  · have E := Lib.hid (show stsF T q (T.length - q) = stsF T (q + 1) (T.length - (q + 1)) by rw [hsf, if_neg (fun k => by rcases hsb.1 k with h | h; exact y45 h; exact y67 h.1)])
                    have g67 : (((dAt T q).toNat : Int) == 67) = false := by have := u8_eq (dAt T q) 67; rw [beq_eq_false_iff_ne.2 y67] at this; exact this
                    clear hsf hsb y67 y45
                    generalize ((dAt T q).toNat : Int) = y at *
                    go_wp2
                    go_roundw
                    case rel => exact ⟨q, (q : Int) - 1, by omega, by omega, rfl, by go_num, Lib.hid (by rw [E.out]; exact hP.out)⟩
                    case measure => simp [intOf] <;> omega
              · obtain rfl : j = b := by omega
                have cge : decide ((j : Int) ≤ i') = false := by simp; omega
                rw [← HS.out] at d1
                clear hi'
                go_wp2
                exact bodyPost_ret (v := .tuple #[.agg #[.int .i64 j, .int .i64 (stsI T), .int .i64 sp, .bool ast], .int .i64 0, .int .i64 0]) (by simp [results, Tryz.results44, go_sem, *]) rfl ⟨by rw [HBB.out, HSP.out.1, HSP.out.2], (by (repeat (first | with_reducible refine Gr.setCell ?_ (by simp <;> omega) _ | with_reducible refine Gr.drew ?_ | with_reducible refine Gr.drewN ?_ _ | with_reducible refine Gr.alloc ?_ _)); first | (with_reducible exact Gr.refl _) | (with_reducible assumption) | exact (by repeat (first | (with_reducible exact Gr.refl _) | (with_reducible assumption) | (with_reducible refine Gr.alloc ?_ _) | (with_reducible refine Gr.drew ?_) | (with_reducible refine Gr.drewN ?_ _) | (with_reducible refine Gr.setCell ?_ (by simp <;> omega) _) | (with_reducible refine Gr.trans ?_ (by with_reducible assumption)) | exact Gr.refl _ | assumption | refine Gr.alloc ?_ _ | refine Gr.drew ?_ | refine Gr.drewN ?_ _ | refine Gr.setCell ?_ (by simp <;> omega) _ | refine Gr.trans ?_ (by assumption))))⟩
theorem refParts_any (T : List UInt8) (w : World) :
    Calls Tryz.prog 44 #[.string (BL T)] w fun e w' => e = .returned (.tuple #[paV T, .int .i64 (paAt T), .int .i64 (paE T)]) ∧ Gr w w' := by
  by_cases h1 : T = []
  · subst h1
    exact refParts_empty w
  by_cases h2 : 40 < T.length
  · have e : paE T = 2 := by unfold paE; rw [if_neg h1, if_pos h2]
    have h := refParts_long (BL T) (by rw [BL_size]; exact h2) w
    unfold paV paAt
    rw [e]
    exact h
  have e : paE T = if bdI T ≠ -1 then 8 else if bodI T = 0 then 6 else 0 := by unfold paE; rw [if_neg h1, if_neg h2]
  refine refParts_core T h1 (by omega) w _ _ _ ?_ ?_ ?_
  · intro g
    rw [if_pos g] at e
    unfold paV paAt
    rw [e]
    exact ⟨rfl, rfl, rfl⟩
  · intro g g2
    rw [if_neg (by omega), if_pos g2] at e
    unfold paV paAt
    rw [e]
    exact ⟨rfl, rfl, rfl⟩
  · intro g g2
    rw [if_neg (by omega), if_neg g2] at e
    unfold paV paAt
    rw [e]
    exact ⟨rfl, rfl, rfl⟩
end Go.Proofs.YtmdpejllbalnnaaGreatDoor
namespace Go.Proofs.YtmdpejllbalnnaaGreatDoor
set_option linter.unusedSimpArgs false
set_option linter.unusedVariables false
open Go.RowKit

/-- The digit positions among the first q places. -/
def plI (T : List UInt8) (sp : Int) : Nat → List Int
  | 0 => []
  | q + 1 => plI T sp q ++ if posB T sp q then [(q : Int)] else []
theorem plI_len (T : List UInt8) (sp : Int) : ∀ q, (plI T sp q).length = psN T sp q
  | 0 => rfl
  | q + 1 => by
    rw [plI, List.length_append, plI_len T sp q, psN_step]
    cases posB T sp q <;> rfl
theorem info8i : (Tryz.prog.info? 3).map (fun i => (i.zero, i.size, i.bytes)) = some (some (.int .i64 0), 1, 8) := by kernel_rfl
def PlW (w : World) (sp : Int) (v : Value) (zs : List Int) (wr : World) : Prop :=
  Own wr (w.heap.size + 1) .i64 3 v zs ∧ Gr w wr ∧ wr.cell? ⟨w.heap.size, 2, none⟩ = some (.int .i64 sp) ∧ w.heap.size < wr.heap.size
theorem PlW.app {w : World} {sp : Int} {v v1 : Value} {zs ys : List Int} {wr w1 : World} (h : PlW w sp v zs wr) (o : Obj) (hO : Own w1 (w.heap.size + 1) .i64 3 v1 ys) (hB : Below (w.heap.size + 1) (wr.alloc o) w1) : PlW w sp v1 ys w1 := by
  obtain ⟨-, hG, c, hz⟩ := h
  have hz2 := hB.size
  rw [World.size_alloc] at hz2
  exact ⟨hO, Below.trans (hG.alloc o) (hB.mono (Nat.le_succ _)), keepc hB (show w.heap.size < w.heap.size + 1 by omega) (((Gr.refl wr).alloc o).keep c), by omega⟩
/-- What places gives. -/
def PlR (T : List UInt8) (sp : Int) (n : Nat) (w : World) (e : Ending) (w' : World) : Prop :=
  ∃ A cap, e = .returned (.slice A (psN T sp n) cap) ∧ Own w' (w.heap.size + 1) .i64 3 (.slice A (psN T sp n) cap) (plI T sp n) ∧ Gr w w'
set_option maxHeartbeats 8000000 in
set_option maxRecDepth 100000 in
theorem places_any (T : List UInt8) (L : Nat) (bo st sp : Int) (ast : Bool) (hL : T.length = L) (hT : L ≤ 100) (w : World) :
    Calls Tryz.prog 45 #[.string (BL T), .agg #[.int .i64 bo, .int .i64 st, .int .i64 sp, .bool ast]] w (PlR T sp L w) := by
  obtain ⟨i0, hi, hz0, hz1, hz2⟩ := info_parts info8i
  have hsz : (BL T).size = L := by rw [BL_size]; exact hL
  have HAT := Lib.hid fun q (h : q < (BL T).size) => show (((BL T)[q]'h).toNat : Int) = ((dAt T q).toNat : Int) by rw [BL_at]
  clear hL
  generalize BL T = X at *
  go_enter Tryz.func45, Tryz.ntmps45
  have P0 : PlW w sp (.slice none 0 0) [] (w.alloc (.cells #[.int .i64 bo, .int .i64 st, .int .i64 sp, .bool ast] 66)) :=
    ⟨Own.nil _ _ _ _, (by repeat (first | (with_reducible exact Gr.refl _) | (with_reducible assumption) | (with_reducible refine Gr.alloc ?_ _) | (with_reducible refine Gr.drew ?_) | (with_reducible refine Gr.drewN ?_ _) | (with_reducible refine Gr.setCell ?_ (by simp <;> omega) _) | (with_reducible refine Gr.trans ?_ (by with_reducible assumption)) | exact Gr.refl _ | assumption | refine Gr.alloc ?_ _ | refine Gr.drew ?_ | refine Gr.drewN ?_ _ | refine Gr.setCell ?_ (by simp <;> omega) _ | refine Gr.trans ?_ (by assumption))), by simp [go_sem], by simp⟩
  have HP0 := Lib.hid P0
  clear P0
  go_wp2
  go_loopw [5, 6] (fun v i wr => ∃ q : Nat, q ≤ L ∧ i = .int .i64 q ∧ Hid (PlW w sp v (plI T sp q) wr)) (fun _ i _ => L - (intOf i).toNat)
  case atStart => exact ⟨0, by omega, rfl, HP0⟩
  case round =>
    obtain ⟨q, hq, rfl, hP⟩ := hrel
    have hpl := Lib.hid (plI_len T sp q)
    have hpn := psN_le T sp q
    obtain ⟨-, -, c2, hz⟩ := hP.out
    by_cases hlt : q < L
    · have hqx : q < X.size := by omega
      have hby := HAT.out q hqx
      have hst : plI T sp (q + 1) = plI T sp q ++ if posB T sp q then [(q : Int)] else [] := rfl
      have hpo : posB T sp q = (dAt T q == 32 || decide ((q : Int) = sp)) := rfl
      obtain ⟨b32, h32⟩ : ∃ b, (dAt T q == 32) = b := ⟨_, rfl⟩
      have g32 : (((dAt T q).toNat : Int) == 32) = b32 := by rw [← h32]; exact u8_eq (dAt T q) 32
      obtain ⟨bs, hbs⟩ : ∃ b, decide ((q : Int) = sp) = b := ⟨_, rfl⟩
      have gs : ((q : Int) == sp) = bs := by
        rw [← hbs]
        by_cases h : (q : Int) = sp
        · rw [h]; simp
        · simp [h]
      rw [h32, hbs] at hpo
      rw [hpo] at hst
      have HS := Lib.hid hst
      clear hst hpo h32 hbs
      generalize ((dAt T q).toNat : Int) = y at *
      have hsel : b32 = true ∨ (b32 = false ∧ bs = true) ∨ (b32 = false ∧ bs = false) := by cases b32 <;> cases bs <;> simp
      rcases hsel with rfl | ⟨rfl, rfl⟩ | ⟨rfl, rfl⟩
      · go_wp2_with (at_builtin; go_loud (refine wp_append_ints _ rfl (.tmp 23) (.tmp 25) 74 3 rfl .i64 i0 8 Tryz.underlying74 hi hz0 hz1 hz2 (by decide) (w.heap.size + 1) _ (plI T sp q) rfl (Own.alloc hP.out.1 _) (psN T sp q + 1) wr.heap.size 1 1 [(q : Int)] (by first | rfl | simp) rfl (by omega) (fun j hj => one_cell _ _ _ _ j hj) (by rw [hpl.out]) (by omega) (by simp <;> omega) ?_); intro g1 cap1 w1 hO1 hB1 hgr1 hg1 hl1)
        go_roundw
        case rel => exact ⟨q + 1, by omega, by go_num, Lib.hid (by rw [HS.out]; exact hP.out.app _ hO1 hB1)⟩
        case measure => simp [intOf]; omega
      · go_wp2_with (at_builtin; go_loud (refine wp_append_ints _ rfl (.tmp 23) (.tmp 25) 74 3 rfl .i64 i0 8 Tryz.underlying74 hi hz0 hz1 hz2 (by decide) (w.heap.size + 1) _ (plI T sp q) rfl (Own.alloc hP.out.1 _) (psN T sp q + 1) wr.heap.size 1 1 [(q : Int)] (by first | rfl | simp) rfl (by omega) (fun j hj => one_cell _ _ _ _ j hj) (by rw [hpl.out]) (by omega) (by simp <;> omega) ?_); intro g1 cap1 w1 hO1 hB1 hgr1 hg1 hl1)
        go_roundw
        case rel => exact ⟨q + 1, by omega, by go_num, Lib.hid (by rw [HS.out]; exact hP.out.app _ hO1 hB1)⟩
        case measure => simp [intOf]; omega
      · go_wp2
        go_roundw
        case rel => exact ⟨q + 1, by omega, by go_num, Lib.hid (by rw [HS.out]; simpa using hP.out)⟩
        case measure => simp [intOf]; omega
    · obtain rfl : q = L := by omega
      obtain ⟨hO, hG, -, -⟩ := hP.out
      have hv : ∃ A cap, u5 = .slice A (psN T sp q) cap := by
        rw [← hpl.out]
        rcases hO.2 with ⟨h', h0⟩ | ⟨g', cap', cur, h', _⟩
        · exact ⟨none, 0, by rw [h', h0]⟩
        · exact ⟨_, _, h'⟩
      obtain ⟨A, cap, rfl⟩ := hv
      go_wp2
      go_ret
      exact ⟨A, cap, rfl, hO, hG⟩
end Go.Proofs.YtmdpejllbalnnaaGreatDoor
namespace Go.Proofs.YtmdpejllbalnnaaGreatDoor
set_option linter.unusedSimpArgs false
set_option linter.unusedVariables false
open Go.RowKit

theorem pos_none (T : List UInt8) (q : Nat) (h1 : bodI T ≤ (q : Int)) (h2 : q < T.length) : posB T (stpI T) q = false := by
  obtain ⟨b0, b1, b2, b3, b4⟩ := bod_bd T
  unfold posB
  have e1 : decide ((q : Int) = stpI T) = false := decide_eq_false (by omega)
  rw [e1, Bool.or_false, beq_eq_false_iff_ne]
  intro e
  have hb : Lib.lastIndexByte (BL T) 32 + 1 ≤ (q : Int) := by unfold bodI at h1; omega
  have e2 : ((BL T).data[q]!).toNat = 32 := by
    have : (BL T).data[q]! = dAt T q := by simp [BL, dAt, List.getD_eq_getElem?_getD, List.getElem?_eq_getElem h2, h2]
    rw [this, e]; rfl
  have hz : (BL T).size = T.length := BL_size T
  rcases Lib.lastIndexByte_spec (BL T) 32 with ⟨-, k⟩ | ⟨i, hi, k1, -, k2⟩
  · exact k q (by omega) (by rw [e2]; rfl)
  · exact k2 q (by omega) (by omega) (by rw [e2]; rfl)
theorem psN_all (T : List UInt8) : ∀ n, (bodI T).toNat + n ≤ T.length → psN T (stpI T) ((bodI T).toNat + n) = psN T (stpI T) (bodI T).toNat
  | 0, _ => rfl
  | n + 1, h => by
    have hb := (bod_bd T).1
    rw [← Nat.add_assoc, psN_step, psN_all T n (by omega), pos_none T ((bodI T).toNat + n) (by omega) (by omega)]
    rfl
theorem psN_len (T : List UInt8) : psN T (stpI T) T.length = psN T (stpI T) (bodI T).toNat := by
  obtain ⟨b0, b1, -⟩ := bod_bd T
  have h := psN_all T (T.length - (bodI T).toNat) (by omega)
  rwa [show (bodI T).toNat + (T.length - (bodI T).toNat) = T.length by omega] at h
section
variable (k l s E : Int) (X : ByteArray)
    (hT : ∀ w, Calls Tryz.prog 29 #[.agg #[.int .i64 k, .int .i64 l, .int .i64 s]] w fun e w' => e = .returned (.int .i64 E) ∧ Gr w w')
include hT
set_option maxHeartbeats 1000000 in
theorem wordErr_a (h : E ≠ 0) (w : World) : Calls Tryz.prog 40 #[.agg #[.int .i64 k, .int .i64 l, .int .i64 s], .string X] w fun e w' => e = .returned (.int .i64 E) ∧ Gr w w' := by
  have bE : (E != 0) = true := by simp [h]
  clear h
  go_enter Tryz.func40, Tryz.ntmps40
  go_wp2_with ((go_at_call 29; (with_reducible refine (hT _).mono ?_); rintro e w1 ⟨rfl, hb⟩; obtain ⟨hc, hf⟩ := gcells hb (w.heap.size + 1) (by first | exact hz | omega | (simp; done) | (simp; omega)); have hz : w.heap.size + 1 ≤ w1.heap.size := (by have h := hb.size; (try simp at h); omega); have hz0 : w.heap.size < w1.heap.size := (by omega)))
  go_ret
  exact ⟨rfl, (by repeat (first | (with_reducible exact Gr.refl _) | (with_reducible assumption) | (with_reducible refine Gr.alloc ?_ _) | (with_reducible refine Gr.drew ?_) | (with_reducible refine Gr.drewN ?_ _) | (with_reducible refine Gr.setCell ?_ (by simp <;> omega) _) | (with_reducible refine Gr.trans ?_ (by with_reducible assumption)) | exact Gr.refl _ | assumption | refine Gr.alloc ?_ _ | refine Gr.drew ?_ | refine Gr.drewN ?_ _ | refine Gr.setCell ?_ (by simp <;> omega) _ | refine Gr.trans ?_ (by assumption)))⟩
variable (bN : Bool) (hN : ∀ w, Calls Tryz.prog 30 #[.int .i64 k] w fun e w' => e = .returned (.bool bN) ∧ w = w')
include hN
set_option maxHeartbeats 1000000 in
theorem wordErr_b (h : E = 0) (h1 : bN = false) (w : World) : Calls Tryz.prog 40 #[.agg #[.int .i64 k, .int .i64 l, .int .i64 s], .string X] w fun e w' => e = .returned (.int .i64 17) ∧ Gr w w' := by
  subst h h1
  go_enter Tryz.func40, Tryz.ntmps40
  go_wp2_with (first | (go_at_call 29; (with_reducible refine (hT _).mono ?_); rintro e w1 ⟨rfl, hb⟩; obtain ⟨hc, hf⟩ := gcells hb (w.heap.size + 1) (by first | exact hz | omega | (simp; done) | (simp; omega)); have hz : w.heap.size + 1 ≤ w1.heap.size := (by have h := hb.size; (try simp at h); omega); have hz0 : w.heap.size < w1.heap.size := (by omega)) | (go_at_call 30; (with_reducible refine (hN _).mono ?_); rintro e w1 ⟨rfl, rfl⟩))
  go_ret
  exact ⟨rfl, (by repeat (first | (with_reducible exact Gr.refl _) | (with_reducible assumption) | (with_reducible refine Gr.alloc ?_ _) | (with_reducible refine Gr.drew ?_) | (with_reducible refine Gr.drewN ?_ _) | (with_reducible refine Gr.setCell ?_ (by simp <;> omega) _) | (with_reducible refine Gr.trans ?_ (by with_reducible assumption)) | exact Gr.refl _ | assumption | refine Gr.alloc ?_ _ | refine Gr.drew ?_ | refine Gr.drewN ?_ _ | refine Gr.setCell ?_ (by simp <;> omega) _ | refine Gr.trans ?_ (by assumption)))⟩
variable (bo st sp A P : Int) (ast : Bool) (hP : ∀ w, Calls Tryz.prog 44 #[.string X] w fun e w' => e = .returned (.tuple #[.agg #[.int .i64 bo, .int .i64 st, .int .i64 sp, .bool ast], .int .i64 A, .int .i64 P]) ∧ Gr w w')
include hP
set_option maxHeartbeats 1000000 in
theorem wordErr_c (h : E = 0) (h1 : bN = true) (h2 : P ≠ 0) (w : World) : Calls Tryz.prog 40 #[.agg #[.int .i64 k, .int .i64 l, .int .i64 s], .string X] w fun e w' => e = .returned (.int .i64 P) ∧ Gr w w' := by
  subst h h1
  have bP : (P != 0) = true := by simp [h2]
  clear h2
  go_enter Tryz.func40, Tryz.ntmps40
  go_wp2_with (first | (go_at_call 29; (with_reducible refine (hT _).mono ?_); rintro e w1 ⟨rfl, hb⟩; obtain ⟨hc, hf⟩ := gcells hb (w.heap.size + 1) (by first | exact hz | omega | (simp; done) | (simp; omega)); have hz : w.heap.size + 1 ≤ w1.heap.size := (by have h := hb.size; (try simp at h); omega); have hz0 : w.heap.size < w1.heap.size := (by omega)) | (go_at_call 30; (with_reducible refine (hN _).mono ?_); rintro e w1 ⟨rfl, rfl⟩) | (go_at_call 44; (with_reducible refine (hP _).mono ?_); rintro e w2 ⟨rfl, w2h⟩; obtain ⟨w2c, w2f⟩ := w2h.cells; have w2s := w2h.size; (try simp at w2s); have w2z : w.heap.size < w2.heap.size := (by omega)))
  go_ret
  exact ⟨rfl, (by repeat (first | (with_reducible exact Gr.refl _) | (with_reducible assumption) | (with_reducible refine Gr.alloc ?_ _) | (with_reducible refine Gr.drew ?_) | (with_reducible refine Gr.drewN ?_ _) | (with_reducible refine Gr.setCell ?_ (by simp <;> omega) _) | (with_reducible refine Gr.trans ?_ (by with_reducible assumption)) | exact Gr.refl _ | assumption | refine Gr.alloc ?_ _ | refine Gr.drew ?_ | refine Gr.drewN ?_ _ | refine Gr.setCell ?_ (by simp <;> omega) _ | refine Gr.trans ?_ (by assumption)))⟩
variable (T : List UInt8) (L n : Nat) (hn : psN T sp L = n) (hPl : ∀ w, Calls Tryz.prog 45 #[.string X, .agg #[.int .i64 bo, .int .i64 st, .int .i64 sp, .bool ast]] w (PlR T sp L w))
include hn hPl
set_option maxHeartbeats 4000000 in
theorem wordErr_d (h : E = 0) (h1 : bN = true) (h2 : P = 0) (w : World) : Calls Tryz.prog 40 #[.agg #[.int .i64 k, .int .i64 l, .int .i64 s], .string X] w fun e w' => e = .returned (.int .i64 (if (n : Int) ≠ l then 18 else 0)) ∧ Gr w w' := by
  subst h h1 h2
  unfold PlR at hPl
  rw [hn] at hPl
  have HN := Lib.hid hn
  clear hn
  have key : ∀ (bb : Bool) (c : Int), ((n : Int) != l) = bb → countI bb = c → Calls Tryz.prog 40 #[.agg #[.int .i64 k, .int .i64 l, .int .i64 s], .string X] w fun e w' => e = .returned (.int .i64 (18 * c)) ∧ Gr w w' := by
    intro bb c hbb hc
    have hCo : ∀ w, Calls Tryz.prog 53 #[.bool bb] w fun e w' => e = .returned (.int .i64 c) ∧ w = w' := fun w => by
      refine (Count_any bb w).mono fun e w' ⟨a, b, _⟩ => ⟨?_, b⟩
      rw [a, hc]
    have hcb : 0 ≤ c ∧ c ≤ 1 := by rw [← hc]; exact countI_bd bb
    have hw18 : IntKind.i64.wrap (18 * c) = 18 * c := IntWalk.i64_in _ (by omega)
    clear hc hcb
    go_enter Tryz.func40, Tryz.ntmps40
    go_upto_region 9 with (first | (go_at_call 29; (with_reducible refine (hT _).mono ?_); rintro e w1 ⟨rfl, hb⟩; obtain ⟨hc, hf⟩ := gcells hb (w.heap.size + 1) (by first | exact hz | omega | (simp; done) | (simp; omega)); have hz : w.heap.size + 1 ≤ w1.heap.size := (by have h := hb.size; (try simp at h); omega); have hz0 : w.heap.size < w1.heap.size := (by omega)) | (go_at_call 30; (with_reducible refine (hN _).mono ?_); rintro e w1 ⟨rfl, rfl⟩) | ((go_at_call 44; (with_reducible refine (hP _).mono ?_); rintro e w2 ⟨rfl, w2h⟩; obtain ⟨w2c, w2f⟩ := w2h.cells; have w2s := w2h.size; (try simp at w2s); have w2z : w.heap.size < w2.heap.size := (by omega))))
    have k1 : w2.cell? ⟨w.heap.size, 1, none⟩ = some (.int .i64 l) := by simp [go_sem, *]
    have GW : Gr w w2 := (by repeat (first | (with_reducible exact Gr.refl _) | (with_reducible assumption) | (with_reducible refine Gr.alloc ?_ _) | (with_reducible refine Gr.drew ?_) | (with_reducible refine Gr.drewN ?_ _) | (with_reducible refine Gr.setCell ?_ (by simp <;> omega) _) | (with_reducible refine Gr.trans ?_ (by with_reducible assumption)) | exact Gr.refl _ | assumption | refine Gr.alloc ?_ _ | refine Gr.drew ?_ | refine Gr.drewN ?_ _ | refine Gr.setCell ?_ (by simp <;> omega) _ | refine Gr.trans ?_ (by assumption)))
    clear hc hf hb hz hz0 w2c w2f w2h w2s
    generalize hg : w2.heap.size = g at *
    have q1 : (w2.alloc (.cells #[.int .i64 bo, .int .i64 st, .int .i64 sp, .bool ast] 66)).cell? ⟨w.heap.size, 1, none⟩ = some (.int .i64 l) := ((Gr.refl w2).alloc _).keep k1
    have q2 : (w2.alloc (.cells #[.int .i64 bo, .int .i64 st, .int .i64 sp, .bool ast] 66)).cell? ⟨g, 0, none⟩ = some (.int .i64 bo) := by subst hg; simp [go_sem]
    have q3 : (w2.alloc (.cells #[.int .i64 bo, .int .i64 st, .int .i64 sp, .bool ast] 66)).cell? ⟨g, 1, none⟩ = some (.int .i64 st) := by subst hg; simp [go_sem]
    have q4 : (w2.alloc (.cells #[.int .i64 bo, .int .i64 st, .int .i64 sp, .bool ast] 66)).cell? ⟨g, 2, none⟩ = some (.int .i64 sp) := by subst hg; simp [go_sem]
    have q5 : (w2.alloc (.cells #[.int .i64 bo, .int .i64 st, .int .i64 sp, .bool ast] 66)).cell? ⟨g, 3, none⟩ = some (.bool ast) := by subst hg; simp [go_sem]
    have GX : Gr w (w2.alloc (.cells #[.int .i64 bo, .int .i64 st, .int .i64 sp, .bool ast] 66)) := GW.alloc _
    clear k1 GW hg
    generalize w2.alloc (.cells #[.int .i64 bo, .int .i64 st, .int .i64 sp, .bool ast] 66) = W3 at *
    go_region_held3 (fun w' => w'.cell? ⟨w.heap.size, 1, none⟩ = some (.int .i64 l) ∧ w'.cell? ⟨g, 0, none⟩ = some (.int .i64 bo) ∧ w'.cell? ⟨g, 1, none⟩ = some (.int .i64 st) ∧ w'.cell? ⟨g, 2, none⟩ = some (.int .i64 sp) ∧ w'.cell? ⟨g, 3, none⟩ = some (.bool ast)) (((try go_split_ands); (repeat' apply And.intro) <;> ((try simp only [World.cell?_drew]); first | (with_reducible assumption) | (simp [go_sem]; done) | ((repeat (first | (refine keepFar ?_ (by first | (dsimp only; omega) | (simp; done) | (simp; omega))) | (refine (Gr.alloc (Gr.refl _) _).keep ?_))); (try simp only [World.cell?_drew]); first | (with_reducible assumption) | (refine hb.keep ?_; (try simp only [World.cell?_drew]); first | (with_reducible assumption) | (simp [go_sem]; done) | ((repeat (refine (Gr.alloc (Gr.refl _) _).keep ?_)); (try simp only [World.cell?_drew]); (with_reducible assumption))) | (simp [*, go_sem]; done))))) (first | (go_at_call 45; (with_reducible refine (hPl _).mono ?_); rintro e w4 ⟨Ap, cp, rfl, hO4, hb⟩; clear hO4) | (go_at_call 53; (with_reducible refine (hCo _).mono ?_); rintro e w1 ⟨rfl, rfl⟩))
    all_goals
      go_wp2_with fail
      go_ret
      exact ⟨rfl, (by repeat (first | (with_reducible exact Gr.refl _) | (with_reducible assumption) | (with_reducible refine Gr.alloc ?_ _) | (with_reducible refine Gr.drew ?_) | (with_reducible refine Gr.drewN ?_ _) | (with_reducible refine Gr.setCell ?_ (by simp <;> omega) _) | (with_reducible refine Gr.trans ?_ (by with_reducible assumption)) | exact Gr.refl _ | assumption | refine Gr.alloc ?_ _ | refine Gr.drew ?_ | refine Gr.drewN ?_ _ | refine Gr.setCell ?_ (by simp <;> omega) _ | refine Gr.trans ?_ (by assumption)))⟩
  by_cases g : (n : Int) = l
  · rw [if_neg (by omega)]
    exact key false 0 (by simp [g]) rfl
  · rw [if_pos g]
    exact key true 1 (by simp [g]) rfl
end
theorem wordErr_any (k l s : Int) (T : List UInt8) (hT : T.length ≤ 100) (w : World) :
    Calls Tryz.prog 40 #[.agg #[.int .i64 k, .int .i64 l, .int .i64 s], .string (BL T)] w fun e w' => e = .returned (.int .i64 (cwE k l s T)) ∧ Gr w w' := by
  have hTy := TypeErr_any k l s
  have hN := IsNumeric_any k
  have eN : withinB k 1 3 = isNum k := by
    unfold withinB isNum
    by_cases h1 : k = 1
    · subst h1; decide
    by_cases h2 : k = 2
    · subst h2; decide
    by_cases h3 : k = 3
    · subst h3; decide
    simp [h1, h2, h3]; omega
  rw [eN] at hN
  have hP := refParts_any T
  unfold cwE
  by_cases h0 : typeErr k l s = 0
  · cases hn : isNum k
    · have e : ntE k l s = 17 := by unfold ntE; rw [h0, hn]; decide
      rw [if_pos (by rw [e]; decide), e]
      exact wordErr_b k l s _ (BL T) hTy _ hN h0 hn w
    · have e : ntE k l s = 0 := by unfold ntE; rw [h0, hn]; decide
      rw [if_neg (by rw [e]; decide)]
      by_cases h2 : paE T = 0
      · rw [if_neg (by omega)]
        have hv : paV T = .agg #[.int .i64 (bodI T), .int .i64 (stsI T), .int .i64 (stpI T), .bool (astB T)] := by unfold paV; rw [if_pos h2]
        rw [hv] at hP
        exact wordErr_d k l s _ (BL T) hTy _ hN _ _ _ _ _ _ hP T T.length _ (psN_len T) (places_any T T.length (bodI T) (stsI T) (stpI T) (astB T) rfl hT) h0 hn h2 w
      · rw [if_pos h2]
        have hv : paV T = .agg #[.int .i64 0, .int .i64 0, .int .i64 0, .bool false] := by unfold paV; rw [if_neg h2]
        rw [hv] at hP
        exact wordErr_c k l s _ (BL T) hTy _ hN _ _ _ _ _ _ hP h0 hn h2 w
  · have e : ntE k l s = typeErr k l s := by unfold ntE; simp [first0, h0]
    rw [if_pos (by rw [e]; exact h0), e]
    exact wordErr_a k l s _ (BL T) hTy h0 w
end Go.Proofs.YtmdpejllbalnnaaGreatDoor
