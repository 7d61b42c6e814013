/- Texts of the walks, merged. -/
import Derived.Test.YtmdpejllbalnnaaGreatDoorQ13
import Derived.Test.YtmdpejllbalnnaaGreatDoorQ02
namespace Go.Proofs.YtmdpejllbalnnaaGreatDoor
set_option linter.unusedSimpArgs false
set_option linter.unusedVariables false
open Go.RowKit

theorem hby_list (T : List UInt8) : ∀ q (h : q < (BL T).size), (((BL T)[q]'h).toNat : Int) = ((dAt T q).toNat : Int) := fun q h => by rw [BL_at]
theorem blank_test (b : UInt8) (z : Bool) (h : (b == 32) = z) : (((b.toNat : Int)) != 32) = !z := by
  have := u8_eq b 32
  rw [h] at this
  show (!((b.toNat : Int) == 32)) = !z
  rw [← this]; rfl
set_option maxHeartbeats 4000000 in
set_option maxRecDepth 100000 in
theorem starred_any (T : List UInt8) (L : Nat) (hL : T.length = L) (hL1 : L ≤ 300) (w : World) :
    Calls Tryz.prog 69 #[.string (BL T)] w fun e w' => e = .returned (.string (BL (stL T))) ∧ Gr w w' := by
  have hsz : (BL T).size = L := by rw [BL_size]; exact hL
  have HA := Lib.hid (hby_list T)
  have hcu := fun (q : Nat) (h : q ≤ L) => cut_i (BL T) (q : Int) q rfl (by omega)
  have hcu2 : ∀ (q : Nat), q ≤ L → ∀ w, (Instr.slice 9 (.string (BL T)) (some (.int .i64 (q : Int))) none none).run Tryz.prog w = .ok (.string (BL (T.drop q))) w := fun q h w => by
    rw [hcu q h w, ext_all, BL_list]
  have HC := Lib.hid hcu2
  have HL := Lib.hid hL
  have HR := Lib.hid fun (q : Nat) (h : q ≤ L) => bRep_any 42 42 rfl q (q : Int) rfl (by omega)
  clear hcu hcu2 hL
  obtain ⟨X, hX⟩ : ∃ X, BL T = X := ⟨_, rfl⟩
  rw [hX] at hsz HA HC ⊢
  have HX := Lib.hid hX
  clear hX
  go_enter Tryz.func69, Tryz.ntmps69
  go_wp2
  go_loop [3] (fun i => ∃ q : Nat, q ≤ L ∧ i = .int .i64 q ∧ Hid (q ≤ lb T)) (fun i => L - (intOf i).toNat)
  case atStart => exact ⟨0, by omega, rfl, Lib.hid (by omega)⟩
  case round =>
    obtain ⟨q, hq, rfl, hr⟩ := hrel
    by_cases hlt : q < L
    · have hqx : q < X.size := by omega
      have hby := HA.out q hqx
      obtain ⟨z, hz⟩ : ∃ z, (dAt T q == 32) = z := ⟨_, rfl⟩
      have hbt := blank_test _ _ hz
      have HZ := Lib.hid hz
      clear hz
      generalize ((dAt T q).toNat : Int) = y at *
      cases z
      · have E : Hid (lb T = q) := Lib.hid (lb_stop hr.out (by have := HZ.out; simpa using this)).symm
        have E2 : Hid (BL (List.replicate q 42 ++ T.drop q) = BL (stL T)) := Lib.hid (by
          unfold stL
          rw [if_pos (by rw [E.out, HL.out]; exact hlt), E.out])
        have hsl := HC.out q hq
        have hrp := HR.out q hq
        have hlq : (T.drop q).length ≤ 300 := by have := HL.out; simp; omega
        have had := fun w => add_bl (List.replicate q 42) (T.drop q) (BL (List.replicate q 42)) (BL (T.drop q)) rfl rfl (by rw [List.length_replicate]; omega) w
        clear hlq
        rw [E2.out] at had
        generalize BL (List.replicate q 42) = Z at *
        generalize BL (T.drop q) = U at *
        go_wp2_with fail
        go_region_with (go_at_call 54; (with_reducible refine (hrp _).mono ?_); rintro e w2 ⟨rfl, hb2⟩)
        all_goals
          go_wp2_with fail
          go_ret
          exact ⟨rfl, (by repeat (first | (with_reducible exact Gr.refl _) | (with_reducible assumption) | (with_reducible refine Gr.alloc ?_ _) | (with_reducible refine Gr.drew ?_) | (with_reducible refine Gr.drewN ?_ _) | (with_reducible refine Gr.setCell ?_ (by simp <;> omega) _) | (with_reducible refine Gr.trans ?_ (by with_reducible assumption)) | exact Gr.refl _ | assumption | refine Gr.alloc ?_ _ | refine Gr.drew ?_ | refine Gr.drewN ?_ _ | refine Gr.setCell ?_ (by simp <;> omega) _ | refine Gr.trans ?_ (by assumption)))⟩
      · have E : Hid (q + 1 ≤ lb T) := Lib.hid (lb_step hr.out (by have := HL.out; omega) (by have := HZ.out; simpa using this))
        go_wp2
        go_round
        case rel => exact ⟨q + 1, by omega, by go_num, E⟩
        case measure => simp [intOf]; omega
    · obtain rfl : q = L := by omega
      have E : Hid (X = BL (stL T)) := Lib.hid (by
        have h1 := hr.out
        have h2 := HL.out
        rw [← HX.out]
        unfold stL
        rw [if_neg (by omega)])
      go_wp2
      go_ret
      exact ⟨ret_str E.out, (by repeat (first | (with_reducible exact Gr.refl _) | (with_reducible assumption) | (with_reducible refine Gr.alloc ?_ _) | (with_reducible refine Gr.drew ?_) | (with_reducible refine Gr.drewN ?_ _) | (with_reducible refine Gr.setCell ?_ (by simp <;> omega) _) | (with_reducible refine Gr.trans ?_ (by with_reducible assumption)) | exact Gr.refl _ | assumption | refine Gr.alloc ?_ _ | refine Gr.drew ?_ | refine Gr.drewN ?_ _ | refine Gr.setCell ?_ (by simp <;> omega) _ | refine Gr.trans ?_ (by assumption)))⟩
set_option maxHeartbeats 4000000 in
set_option maxRecDepth 100000 in
theorem floated_any (T : List UInt8) (L : Nat) (hL : T.length = L) (hL1 : L ≤ 300) (c8 : UInt8) (c : Int) (hc : c = c8.toNat) (w : World) :
    Calls Tryz.prog 68 #[.string (BL T), .int .u8 c] w fun e w' => e = .returned (.string (BL (flL T c8))) ∧ Gr w w' := by
  have hadd0 : ∀ w, (Op.stringOp .add ⟨#[32]⟩ (BL T)).run Tryz.prog w = .ok (.string (BL (32 :: T))) w := fun w => add_bl [32] T ⟨#[32]⟩ (BL T) rfl rfl (by simp; omega) w
  have hsz : (BL (32 :: T)).size = L + 1 := by rw [BL_size, List.length_cons, hL]
  have hat := hby_list (32 :: T)
  have hat2 : ∀ q (h : q + 1 < (BL (32 :: T)).size), (((BL (32 :: T))[q + 1]'h).toNat : Int) = ((dAt T q).toNat : Int) := fun q h => by rw [hat]; rfl
  have HA := Lib.hid hat2
  have hcu : ∀ (q : Nat), q ≤ L → ∀ w, (Instr.slice 9 (.string (BL (32 :: T))) (some (.int .i64 ((q : Int) + 1))) none none).run Tryz.prog w = .ok (.string (BL (T.drop q))) w := fun q h w => by
    rw [cut_i (BL (32 :: T)) ((q : Int) + 1) (q + 1) (by omega) (by omega) w, ext_all, BL_list]; rfl
  have HC := Lib.hid hcu
  have hcj : ∀ (q : Nat), q ≤ L → ∀ w, (Instr.slice 9 (.string (BL (32 :: T))) none (some (.int .i64 (q : Int))) none).run Tryz.prog w = .ok (.string (BL ((32 :: T).take q))) w := fun q h w => by
    rw [cut_j (BL (32 :: T)) (q : Int) q rfl (by omega) w, BL_cut]; rfl
  have HJ := Lib.hid hcj
  have HL := Lib.hid hL
  have hcv : ∀ (W : World) b, W.cell? ⟨b, 0, none⟩ = some (.int .u8 c) → (convert 80 9 (.slice (some ⟨b, 0, none⟩) 1 1)).run Tryz.prog W = .ok (.string (BL [c8])) W := fun W b h => by
    have h1 := str_one h
    have e : strOfNums [c] = BL [c8] := by rw [hc]; exact bI_str [c8]
    rwa [e] at h1
  have HV := Lib.hid hcv
  clear hat hat2 hcu hcj hL hcv hc
  obtain ⟨X, hX⟩ : ∃ X, BL (32 :: T) = X := ⟨_, rfl⟩
  rw [hX] at hsz HA HC HJ hadd0
  have HX := Lib.hid hX
  clear hX
  go_enter Tryz.func68, Tryz.ntmps68
  go_wp2
  go_loop [5] (fun i => ∃ q : Nat, q ≤ L ∧ i = .int .i64 ((q : Int) + 1) ∧ Hid (q ≤ lb T)) (fun i => L + 1 - (intOf i).toNat)
  case atStart => exact ⟨0, by omega, rfl, Lib.hid (by omega)⟩
  case round =>
    obtain ⟨q, hq, rfl, hr⟩ := hrel
    by_cases hlt : q < L
    · have hqx : q + 1 < X.size := by omega
      have hby := HA.out q hqx
      have hix : ((q : Int) + 1).toNat = q + 1 := by omega
      obtain ⟨z, hz⟩ : ∃ z, (dAt T q == 32) = z := ⟨_, rfl⟩
      have hbt := blank_test _ _ hz
      have HZ := Lib.hid hz
      clear hz
      generalize ((dAt T q).toNat : Int) = y at *
      cases z
      · have E : Hid (lb T = q) := Lib.hid (lb_stop hr.out (by have := HZ.out; simpa using this)).symm
        have E2 : Hid (BL ((32 :: T).take q ++ [c8] ++ T.drop q) = BL (flL T c8)) := Lib.hid (by
          rw [← flL_at (by rw [E.out, HL.out]; exact hlt) c8, E.out])
        have hsl := HC.out q hq
        have hsj := HJ.out q hq
        have hsub : IntKind.i64.wrap ((q : Int) + 1 - 1) = q := by rw [IntWalk.i64_in _ (by omega)]; omega
        have h1 : ((32 :: T).take q).length ≤ 301 := by rw [List.length_take, List.length_cons, HL.out]; omega
        have h2 : (T.drop q).length ≤ 300 := by rw [List.length_drop, HL.out]; omega
        have had1 := fun w => add_bl ((32 :: T).take q) [c8] (BL ((32 :: T).take q)) (BL [c8]) rfl rfl (by simp only [List.length_singleton]; omega) w
        have had2 := fun w => add_bl ((32 :: T).take q ++ [c8]) (T.drop q) (BL ((32 :: T).take q ++ [c8])) (BL (T.drop q)) rfl rfl (by rw [List.length_append, List.length_singleton]; omega) w
        rw [E2.out] at had2
        have hv1 : ∀ W : World, (convert 80 9 (.slice (some ⟨W.heap.size, 0, none⟩) 1 1)).run Tryz.prog (W.alloc (.cells #[.int .u8 c] 5)) = .ok (.string (BL [c8])) (W.alloc (.cells #[.int .u8 c] 5)) := fun W => HV.out _ _ (by simp [go_sem])
        have hv2 : ∀ W : World, (convert 80 9 (.slice (some ⟨W.heap.size, 0, none⟩) 1 1)).run Tryz.prog (W.alloc (.cells #[.int .u8 c] 5)).drew = .ok (.string (BL [c8])) (W.alloc (.cells #[.int .u8 c] 5)).drew := fun W => HV.out _ _ (by simp [go_sem])
        clear h1 h2
        generalize BL ((32 :: T).take q ++ [c8]) = Y at *
        generalize BL ((32 :: T).take q) = Z at *
        generalize BL [c8] = V at *
        generalize BL (T.drop q) = U at *
        go_wp2_with fail
        go_region
        all_goals
          go_wp2_with fail
          go_ret
          exact ⟨rfl, (by repeat (first | (with_reducible exact Gr.refl _) | (with_reducible assumption) | (with_reducible refine Gr.alloc ?_ _) | (with_reducible refine Gr.drew ?_) | (with_reducible refine Gr.drewN ?_ _) | (with_reducible refine Gr.setCell ?_ (by simp <;> omega) _) | (with_reducible refine Gr.trans ?_ (by with_reducible assumption)) | exact Gr.refl _ | assumption | refine Gr.alloc ?_ _ | refine Gr.drew ?_ | refine Gr.drewN ?_ _ | refine Gr.setCell ?_ (by simp <;> omega) _ | refine Gr.trans ?_ (by assumption)))⟩
      · have E : Hid (q + 1 ≤ lb T) := Lib.hid (lb_step hr.out (by have := HL.out; omega) (by have := HZ.out; simpa using this))
        go_wp2
        go_round
        case rel => exact ⟨q + 1, by omega, by go_num, E⟩
        case measure => simp [intOf]; omega
    · obtain rfl : q = L := by omega
      have E : Hid (X = BL (flL T c8)) := Lib.hid (by
        have h1 := hr.out
        have h2 := HL.out
        rw [← HX.out]
        unfold flL
        rw [if_neg (by omega)])
      go_wp2
      go_ret
      exact ⟨ret_str E.out, (by repeat (first | (with_reducible exact Gr.refl _) | (with_reducible assumption) | (with_reducible refine Gr.alloc ?_ _) | (with_reducible refine Gr.drew ?_) | (with_reducible refine Gr.drewN ?_ _) | (with_reducible refine Gr.setCell ?_ (by simp <;> omega) _) | (with_reducible refine Gr.trans ?_ (by with_reducible assumption)) | exact Gr.refl _ | assumption | refine Gr.alloc ?_ _ | refine Gr.drew ?_ | refine Gr.drewN ?_ _ | refine Gr.setCell ?_ (by simp <;> omega) _ | refine Gr.trans ?_ (by assumption)))⟩
set_option maxHeartbeats 4000000 in
set_option maxRecDepth 100000 in
theorem date_any (D : List UInt8) (L : Nat) (hL : D.length = L) (hL1 : L ≤ 64) (w : World) :
    Calls Tryz.prog 66 #[.string (BL D)] w fun e w' => e = .returned (.string (BL (dtO D L))) ∧ Gr w w' := by
  have hsz : (BL D).size = L := by rw [BL_size]; exact hL
  have HA := Lib.hid (hby_list D)
  have HC := Lib.hid fun (q : Nat) (h : q < L) => cut1 D q (by omega) ((q : Int) + 1) rfl
  have HL := Lib.hid hL
  clear hL
  generalize BL D = X at *
  go_enter Tryz.func66, Tryz.ntmps66
  go_wp2
  go_loop [3, 4] (fun o i => ∃ q : Nat, q ≤ L ∧ i = .int .i64 q ∧ o = .string (BL (dtO D q))) (fun _ i => L - (intOf i).toNat)
  case atStart => exact ⟨0, by omega, rfl, rfl⟩
  case round =>
    obtain ⟨q, hq, rfl, rfl⟩ := hrel
    by_cases hlt : q < L
    · have hst := dtO_step D q
      have hol := dtO_len D q
      rw [HL.out] at hst
      have hqx : q < X.size := by omega
      have h0x : 0 < X.size := by omega
      have hby := HA.out 0 h0x
      have hc1 := HC.out q hlt
      generalize dtO D q = O at *
      have a47 := fun w => add_bl O [47] (BL O) ⟨#[47]⟩ rfl rfl (by simp; omega) w
      have a32 := fun w => add_bl O [32] (BL O) ⟨#[32]⟩ rfl rfl (by simp; omega) w
      have ad := fun w => add_bl O [dAt D q] (BL O) (BL [dAt D q]) rfl rfl (by simp; omega) w
      have bd := fun w => add_bl (O ++ [47]) [dAt D q] (BL (O ++ [47])) (BL [dAt D q]) rfl rfl (by simp; omega) w
      obtain ⟨z, hz⟩ : ∃ z, (dAt D 0 == 48) = z := ⟨_, rfl⟩
      have h48 : (((dAt D 0).toNat : Int) == 48) = z := by rw [← hz]; exact u8_eq (dAt D 0) 48
      have hz2 : (dAt D 0 = 48) = (z = true) := by rw [← hz]; simp
      simp only [hz2] at hst
      have HS := Lib.hid hst
      clear hst hol hz hz2
      generalize ((dAt D 0).toNat : Int) = y at *
      generalize dAt D q = d at *
      by_cases q0 : q = 0
      · subst q0
        have hc2 : ∀ w, (Instr.slice 9 (.string X) (some (.int .i64 0)) (some (.int .i64 1)) none).run Tryz.prog w = .ok (.string (BL [d])) w := fun w => hc1 w
        cases z
        all_goals
          go_wp2
          go_round
          case rel => exact ⟨0 + 1, by omega, by go_num, by rw [HS.out]; simp⟩
          case measure => simp [intOf]; omega
      · have n0 : ((q : Int) == 0) = false := by simp [q0]
        by_cases q2 : q = 2
        · subst q2
          have hc2 : ∀ w, (Instr.slice 9 (.string X) (some (.int .i64 2)) (some (.int .i64 3)) none).run Tryz.prog w = .ok (.string (BL [d])) w := fun w => hc1 w
          go_wp2
          go_round
          case rel => exact ⟨2 + 1, by omega, by go_num, by rw [HS.out]; simp⟩
          case measure => simp [intOf]; omega
        · have n2 : ((q : Int) == 2) = false := by simp; omega
          by_cases q4 : q = 4
          · subst q4
            have hc2 : ∀ w, (Instr.slice 9 (.string X) (some (.int .i64 4)) (some (.int .i64 5)) none).run Tryz.prog w = .ok (.string (BL [d])) w := fun w => hc1 w
            have b4 : decide ((4 : Int) < (L : Int)) = true := by simp; omega
            go_wp2
            go_round
            case rel => exact ⟨4 + 1, by omega, by go_num, by rw [HS.out]; simp [hlt]⟩
            case measure => simp [intOf]; omega
          · have n4 : ((q : Int) == 4) = false := by simp; omega
            have HN := Lib.hid (And.intro q0 (And.intro q2 q4))
            clear q0 q2 q4
            go_wp2
            go_round
            case rel => exact ⟨q + 1, by omega, by go_num, by rw [HS.out]; simp [HN.out.1, HN.out.2.1, HN.out.2.2]⟩
            case measure => simp [intOf]; omega
    · obtain rfl : q = L := by omega
      go_wp2
      go_ret
      exact ⟨rfl, (by repeat (first | (with_reducible exact Gr.refl _) | (with_reducible assumption) | (with_reducible refine Gr.alloc ?_ _) | (with_reducible refine Gr.drew ?_) | (with_reducible refine Gr.drewN ?_ _) | (with_reducible refine Gr.setCell ?_ (by simp <;> omega) _) | (with_reducible refine Gr.trans ?_ (by with_reducible assumption)) | exact Gr.refl _ | assumption | refine Gr.alloc ?_ _ | refine Gr.drew ?_ | refine Gr.drewN ?_ _ | refine Gr.setCell ?_ (by simp <;> omega) _ | refine Gr.trans ?_ (by assumption)))⟩
end Go.Proofs.YtmdpejllbalnnaaGreatDoor
namespace Go.Proofs.YtmdpejllbalnnaaGreatDoor
set_option linter.unusedSimpArgs false
set_option linter.unusedVariables false
open Go.RowKit

set_option maxHeartbeats 1000000 in
theorem refDigits_any (k l s n : Int) (u L : Nat) (hu : u = n.natAbs) (hl : l = L) (hL : L ≤ 64) (hs : (dcS u).size ≤ L) (hn : u ≤ 1000000000000000000) (w : World) :
    Calls Tryz.prog 65 #[.agg #[.int .i64 k, .int .i64 l, .int .i64 s], .int .i64 n] w fun e w' => e = .returned (.string (BL (dsL L u))) ∧ Gr w w' := by
  subst hl
  have hA : ∀ w, Calls Tryz.prog 87 #[.int .i64 n] w fun e w' => e = .returned (.int .i64 (u : Int)) ∧ w = w' := fun w => by
    have := Amount_any n (by omega) (by omega) w
    rwa [show absI n = (u : Int) by unfold absI; split <;> omega] at this
  have hI : ∀ w, Calls Tryz.prog 86 #[.int .i64 (u : Int)] w fun e w' => e = .returned (.string (dcS u)) ∧ Gr w w' := fun w => Digits_any u (u : Int) w (by omega) (by omega) (by omega)
  obtain ⟨m, hm⟩ : ∃ m : Nat, m = L - (dcS u).size := ⟨_, rfl⟩
  have hsub : IntKind.i64.wrap ((L : Int) - ((dcS u).size : Int)) = m := by rw [IntWalk.i64_in _ (by omega)]; omega
  have hZ := bRep_any 48 48 rfl m (m : Int) rfl (by omega)
  have E := Lib.hid (show BL (List.replicate m 48) ++ dcS u = BL (dsL L u) by
    unfold dsL; rw [← hm, ← BL_append, BL_of])
  have hz : (BL (List.replicate m 48)).size + (dcS u).size ≤ 9223372036854775807 := by rw [BL_size, List.length_replicate]; omega
  have hadd := add_ss (BL (List.replicate m 48)) (dcS u) hz
  rw [E.out] at hadd
  clear hu hL hs hm E hz hn
  generalize BL (dsL L u) = R at *
  generalize BL (List.replicate m 48) = Z at *
  generalize dcS u = D at *
  go_enter Tryz.func65, Tryz.ntmps65
  go_wp2_with (first | (go_at_call 87; (with_reducible refine (hA _).mono ?_); rintro e w1 ⟨rfl, rfl⟩) | (go_at_call 86; (with_reducible refine (hI _).mono ?_); rintro e w1 ⟨rfl, hb⟩; obtain ⟨hc, hf⟩ := gcells hb (w.heap.size + 1) (by first | exact hz | omega | (simp; done) | (simp; omega)); have hz : w.heap.size + 1 ≤ w1.heap.size := (by have h := hb.size; (try simp at h); omega); have hz0 : w.heap.size < w1.heap.size := (by omega)) | (go_at_call 54; (with_reducible refine (hZ _).mono ?_); rintro e w1 ⟨rfl, hb⟩; obtain ⟨hc, hf⟩ := gcells hb (w.heap.size + 1) (by first | exact hz | omega | (simp; done) | (simp; omega)); have hz : w.heap.size + 1 ≤ w1.heap.size := (by have h := hb.size; (try simp at h); omega); have hz0 : w.heap.size < w1.heap.size := (by omega)))
  go_ret
  exact ⟨rfl, (by repeat (first | (with_reducible exact Gr.refl _) | (with_reducible assumption) | (with_reducible refine Gr.alloc ?_ _) | (with_reducible refine Gr.drew ?_) | (with_reducible refine Gr.drewN ?_ _) | (with_reducible refine Gr.setCell ?_ (by simp <;> omega) _) | (with_reducible refine Gr.trans ?_ (by with_reducible assumption)) | exact Gr.refl _ | assumption | refine Gr.alloc ?_ _ | refine Gr.drew ?_ | refine Gr.drewN ?_ _ | refine Gr.setCell ?_ (by simp <;> omega) _ | refine Gr.trans ?_ (by assumption)))⟩
/-- The boxes of a type and a code. -/
def TxW (w : World) (k l s c f : Int) (wx : World) : Prop :=
  (wx.cell? ⟨w.heap.size, 0, none⟩ = some (.int .i64 k) ∧ wx.cell? ⟨w.heap.size, 1, none⟩ = some (.int .i64 l) ∧ wx.cell? ⟨w.heap.size, 2, none⟩ = some (.int .i64 s) ∧ wx.cell? ⟨w.heap.size + 1, 0, none⟩ = some (.int .u8 c) ∧ wx.cell? ⟨w.heap.size + 1, 1, none⟩ = some (.int .i64 f)) ∧ Gr w wx ∧ w.heap.size + 1 < wx.heap.size
theorem TxW.gr {w : World} {k l s c f : Int} {a b : World} (h : TxW w k l s c f a) (G : Gr a b) : TxW w k l s c f b := by
  obtain ⟨⟨c0, c1, c2, c3, c4⟩, h1, h2⟩ := h
  exact ⟨⟨G.keep c0, G.keep c1, G.keep c2, G.keep c3, G.keep c4⟩, h1.trans G, by have := Gr.size G; omega⟩
def TxC (w : World) (k l s c f : Int) (Y : ByteArray) (o : Value) (wx : World) : Prop := o = .string Y ∧ TxW w k l s c f wx
set_option maxHeartbeats 8000000 in
set_option maxRecDepth 100000 in
theorem refText_core (k l s n f c q : Int) (D A Y0 Y1 Y2 Y3 Y4 R : ByteArray) (bc bA bJ bZ bN : Bool) (w : World)
    (hDg : ∀ w, Calls Tryz.prog 65 #[.agg #[.int .i64 k, .int .i64 l, .int .i64 s], .int .i64 n] w fun e w' => e = .returned (.string D) ∧ Gr w w')
    (h88 : c ≠ 88) (h89 : c ≠ 89) (h90 : c ≠ 90) (hq : IntKind.i64.wrap (l - s) = q)
    (hA : ∀ w, (Instr.slice 9 (.string D) none (some (.int .i64 q)) none).run Tryz.prog w = .ok (.string A) w)
    (hI1 : ∀ w, Calls Tryz.prog 31 #[.int .u8 c, .string ⟨#[49, 50, 65, 66, 74, 75, 78, 79]⟩] w fun e w' => e = .returned (.bool bc) ∧ w = w')
    (hI2 : ∀ w, Calls Tryz.prog 31 #[.int .u8 c, .string ⟨#[65, 66, 67, 68]⟩] w fun e w' => e = .returned (.bool bA) ∧ w = w')
    (hI3 : ∀ w, Calls Tryz.prog 31 #[.int .u8 c, .string ⟨#[74, 75, 76, 77]⟩] w fun e w' => e = .returned (.bool bJ) ∧ w = w')
    (hI4 : ∀ w, Calls Tryz.prog 31 #[.int .u8 c, .string ⟨#[50, 52, 66, 68, 75, 77, 79, 81]⟩] w fun e w' => e = .returned (.bool bZ) ∧ w = w')
    (hI5 : ∀ w, Calls Tryz.prog 31 #[.int .u8 c, .string ⟨#[78, 79, 80, 81]⟩] w fun e w' => e = .returned (.bool bN) ∧ w = w')
    (hWh : ∀ w, Calls Tryz.prog 67 #[.string A, .bool bc, .bool (s == 0)] w fun e w' => e = .returned (.string Y0) ∧ w = w')
    (h1t : 0 < s → ∃ P U, (∀ w, (Op.stringOp .add Y0 ⟨#[46]⟩).run Tryz.prog w = .ok (.string P) w) ∧ (∀ w, (Instr.slice 9 (.string D) (some (.int .i64 q)) none none).run Tryz.prog w = .ok (.string U) w) ∧ (∀ w, (Op.stringOp .add P U).run Tryz.prog w = .ok (.string Y1) w))
    (h1f : ¬ 0 < s → Y1 = Y0)
    (h2a : bA = true → n < 0 → ∀ w, (Op.stringOp .add Y1 ⟨#[67, 82]⟩).run Tryz.prog w = .ok (.string Y2) w)
    (h2b : bA = true → ¬ n < 0 → ∀ w, (Op.stringOp .add Y1 ⟨#[32, 32]⟩).run Tryz.prog w = .ok (.string Y2) w)
    (h2c : bA = false → Y2 = Y1)
    (h3a : bJ = true → n < 0 → ∀ w, (Op.stringOp .add Y2 ⟨#[45]⟩).run Tryz.prog w = .ok (.string Y3) w)
    (h3b : bJ = true → ¬ n < 0 → ∀ w, (Op.stringOp .add Y2 ⟨#[32]⟩).run Tryz.prog w = .ok (.string Y3) w)
    (h3c : bJ = false → Y3 = Y2)
    (h4a : n = 0 → bZ = true → ∀ w, Calls Tryz.prog 54 #[.int .u8 32, .int .i64 (Y3.size : Int)] w fun e w' => e = .returned (.string Y4) ∧ Gr w w')
    (h4b : ¬ (n = 0 ∧ bZ = true) → Y4 = Y3)
    (h5a : f = 2 → ∀ w, Calls Tryz.prog 68 #[.string Y4, .int .u8 36] w fun e w' => e = .returned (.string R) ∧ Gr w w')
    (h5b : f = 1 → ∀ w, Calls Tryz.prog 69 #[.string Y4] w fun e w' => e = .returned (.string R) ∧ Gr w w')
    (h5c : f ≠ 2 → f ≠ 1 → bN = true → n < 0 → ∀ w, Calls Tryz.prog 68 #[.string Y4, .int .u8 45] w fun e w' => e = .returned (.string R) ∧ Gr w w')
    (h5d : f ≠ 2 → f ≠ 1 → bN = true → ¬ n < 0 → ∀ w, (Op.stringOp .add ⟨#[32]⟩ Y4).run Tryz.prog w = .ok (.string R) w)
    (h5e : f ≠ 2 → f ≠ 1 → bN = false → R = Y4) :
    Calls Tryz.prog 32 #[.agg #[.int .i64 k, .int .i64 l, .int .i64 s], .int .i64 n, .agg #[.int .u8 c, .int .i64 f]] w fun e w' => e = .returned (.string R) ∧ Gr w w' := by
  have H1 := Lib.hid (And.intro h1t h1f)
  have H2 := Lib.hid (And.intro h2a (And.intro h2b h2c))
  have H3 := Lib.hid (And.intro h3a (And.intro h3b h3c))
  have H4 := Lib.hid (And.intro h4a h4b)
  have H5 := Lib.hid (And.intro h5a (And.intro h5b (And.intro h5c (And.intro h5d h5e))))
  have b1 : (c == 88) = false := by simp [h88]
  have b2 : (c == 89) = false := by simp [h89]
  have b3 : (c == 90) = false := by simp [h90]
  clear h88 h89 h90 h1t h1f h2a h2b h2c h3a h3b h3c h4a h4b h5a h5b h5c h5d h5e
  go_enter Tryz.func32, Tryz.ntmps32
  go_upto_region 10 with ((go_at_call 65; (with_reducible refine (hDg _).mono ?_); rintro e w1 ⟨rfl, hb⟩; obtain ⟨hc, hf⟩ := gcells hb (w.heap.size + 2) (by first | exact hz | omega | (simp; done) | (simp; omega)); have hz : w.heap.size + 2 ≤ w1.heap.size := (by have h := hb.size; (try simp at h); omega); have hz0 : w.heap.size < w1.heap.size := (by omega)))
  have T0 : TxW w k l s c f w1 := TxW.gr (a := (w.alloc (.cells #[.int .i64 k, .int .i64 l, .int .i64 s] 23)).alloc (.cells #[.int .u8 c, .int .i64 f] 25)) ⟨⟨by simp [go_sem], by simp [go_sem], by simp [go_sem], by simp [go_sem], by simp [go_sem]⟩, (by repeat (first | (with_reducible exact Gr.refl _) | (with_reducible assumption) | (with_reducible refine Gr.alloc ?_ _) | (with_reducible refine Gr.drew ?_) | (with_reducible refine Gr.drewN ?_ _) | (with_reducible refine Gr.setCell ?_ (by simp <;> omega) _) | (with_reducible refine Gr.trans ?_ (by with_reducible assumption)) | exact Gr.refl _ | assumption | refine Gr.alloc ?_ _ | refine Gr.drew ?_ | refine Gr.drewN ?_ _ | refine Gr.setCell ?_ (by simp <;> omega) _ | refine Gr.trans ?_ (by assumption))), by simp⟩ hb
  have TT := Lib.hid T0
  obtain ⟨⟨c0, c1, c2, c3, c4⟩, G0, hz2⟩ := T0
  clear hc hf hb hz hz0 G0 hDg
  generalize w1 = W1 at *
  go_cut [9] (fun o wx => TxC w k l s c f Y0 o wx)
  case first =>
    go_region_held3 (fun w' => w'.cell? ⟨w.heap.size, 0, none⟩ = some (.int .i64 k) ∧ w'.cell? ⟨w.heap.size, 1, none⟩ = some (.int .i64 l) ∧ w'.cell? ⟨w.heap.size, 2, none⟩ = some (.int .i64 s) ∧ w'.cell? ⟨w.heap.size + 1, 0, none⟩ = some (.int .u8 c) ∧ w'.cell? ⟨w.heap.size + 1, 1, none⟩ = some (.int .i64 f)) (((try go_split_ands); (repeat' apply And.intro) <;> ((try simp only [World.cell?_drew]); first | (with_reducible assumption) | (simp [go_sem]; done) | ((repeat (first | (refine keepFar ?_ (by first | (dsimp only; omega) | (simp; done) | (simp; omega))) | (refine (Gr.alloc (Gr.refl _) _).keep ?_))); (try simp only [World.cell?_drew]); first | (with_reducible assumption) | (refine hb.keep ?_; (try simp only [World.cell?_drew]); first | (with_reducible assumption) | (simp [go_sem]; done) | ((repeat (refine (Gr.alloc (Gr.refl _) _).keep ?_)); (try simp only [World.cell?_drew]); (with_reducible assumption))) | (simp [*, go_sem]; done))))) (first | (go_at_call 31; (with_reducible refine (hI1 _).mono ?_); rintro e w1 ⟨rfl, rfl⟩) | (go_at_call 67; (with_reducible refine (hWh _).mono ?_); rintro e w1 ⟨rfl, rfl⟩))
    all_goals
      go_wp2_with fail
      go_meet
      exact ⟨rfl, TT.out.gr (by repeat (first | (with_reducible exact Gr.refl _) | (with_reducible assumption) | (with_reducible refine Gr.alloc ?_ _) | (with_reducible refine Gr.drew ?_) | (with_reducible refine Gr.drewN ?_ _) | (with_reducible refine Gr.setCell ?_ (by simp <;> omega) _) | (with_reducible refine Gr.trans ?_ (by with_reducible assumption)) | exact Gr.refl _ | assumption | refine Gr.alloc ?_ _ | refine Gr.drew ?_ | refine Gr.drewN ?_ _ | refine Gr.setCell ?_ (by simp <;> omega) _ | refine Gr.trans ?_ (by assumption)))⟩
  case rest =>
    obtain ⟨rfl, hT⟩ := hcut
    clear TT c0 c1 c2 c3 c4 hz2
    have TT := Lib.hid hT
    obtain ⟨⟨c0, c1, c2, c3, c4⟩, G0, hz2⟩ := hT
    clear G0
    generalize wc = W2 at *
    go_upto_if 43 with (fail)
    go_cut [9] (fun o wx => TxC w k l s c f Y1 o wx)
    case first =>
      by_cases hs : 0 < s
      · obtain ⟨P, U, hP, hU, hY⟩ := H1.out.1 hs
        go_wp2
        go_meet
        exact ⟨rfl, TT.out.gr (by repeat (first | (with_reducible exact Gr.refl _) | (with_reducible assumption) | (with_reducible refine Gr.alloc ?_ _) | (with_reducible refine Gr.drew ?_) | (with_reducible refine Gr.drewN ?_ _) | (with_reducible refine Gr.setCell ?_ (by simp <;> omega) _) | (with_reducible refine Gr.trans ?_ (by with_reducible assumption)) | exact Gr.refl _ | assumption | refine Gr.alloc ?_ _ | refine Gr.drew ?_ | refine Gr.drewN ?_ _ | refine Gr.setCell ?_ (by simp <;> omega) _ | refine Gr.trans ?_ (by assumption)))⟩
      · have e := Lib.hid (H1.out.2 (by omega))
        go_wp2
        go_meet
        exact ⟨by rw [e.out]; first | done | rfl, TT.out.gr (by repeat (first | (with_reducible exact Gr.refl _) | (with_reducible assumption) | (with_reducible refine Gr.alloc ?_ _) | (with_reducible refine Gr.drew ?_) | (with_reducible refine Gr.drewN ?_ _) | (with_reducible refine Gr.setCell ?_ (by simp <;> omega) _) | (with_reducible refine Gr.trans ?_ (by with_reducible assumption)) | exact Gr.refl _ | assumption | refine Gr.alloc ?_ _ | refine Gr.drew ?_ | refine Gr.drewN ?_ _ | refine Gr.setCell ?_ (by simp <;> omega) _ | refine Gr.trans ?_ (by assumption)))⟩
    case rest =>
      obtain ⟨rfl, hT⟩ := hcut
      clear TT c0 c1 c2 c3 c4 hz2
      have TT := Lib.hid hT
      obtain ⟨⟨c0, c1, c2, c3, c4⟩, G0, hz2⟩ := hT
      clear G0
      generalize wc = W3 at *
      go_upto_if 52 with ((go_at_call 31; (with_reducible refine (hI2 _).mono ?_); rintro e w1 ⟨rfl, rfl⟩))
      go_cut [9] (fun o wx => TxC w k l s c f Y2 o wx)
      case first =>
        cases bA
        · have e := Lib.hid (H2.out.2.2 rfl)
          go_wp2
          go_meet
          exact ⟨by rw [e.out]; first | done | rfl, TT.out.gr (by repeat (first | (with_reducible exact Gr.refl _) | (with_reducible assumption) | (with_reducible refine Gr.alloc ?_ _) | (with_reducible refine Gr.drew ?_) | (with_reducible refine Gr.drewN ?_ _) | (with_reducible refine Gr.setCell ?_ (by simp <;> omega) _) | (with_reducible refine Gr.trans ?_ (by with_reducible assumption)) | exact Gr.refl _ | assumption | refine Gr.alloc ?_ _ | refine Gr.drew ?_ | refine Gr.drewN ?_ _ | refine Gr.setCell ?_ (by simp <;> omega) _ | refine Gr.trans ?_ (by assumption)))⟩
        · by_cases hn : n < 0
          · have e := H2.out.1 rfl hn
            go_wp2
            go_meet
            exact ⟨rfl, TT.out.gr (by repeat (first | (with_reducible exact Gr.refl _) | (with_reducible assumption) | (with_reducible refine Gr.alloc ?_ _) | (with_reducible refine Gr.drew ?_) | (with_reducible refine Gr.drewN ?_ _) | (with_reducible refine Gr.setCell ?_ (by simp <;> omega) _) | (with_reducible refine Gr.trans ?_ (by with_reducible assumption)) | exact Gr.refl _ | assumption | refine Gr.alloc ?_ _ | refine Gr.drew ?_ | refine Gr.drewN ?_ _ | refine Gr.setCell ?_ (by simp <;> omega) _ | refine Gr.trans ?_ (by assumption)))⟩
          · have e := H2.out.2.1 rfl (by omega)
            go_wp2
            go_meet
            exact ⟨rfl, TT.out.gr (by repeat (first | (with_reducible exact Gr.refl _) | (with_reducible assumption) | (with_reducible refine Gr.alloc ?_ _) | (with_reducible refine Gr.drew ?_) | (with_reducible refine Gr.drewN ?_ _) | (with_reducible refine Gr.setCell ?_ (by simp <;> omega) _) | (with_reducible refine Gr.trans ?_ (by with_reducible assumption)) | exact Gr.refl _ | assumption | refine Gr.alloc ?_ _ | refine Gr.drew ?_ | refine Gr.drewN ?_ _ | refine Gr.setCell ?_ (by simp <;> omega) _ | refine Gr.trans ?_ (by assumption)))⟩
      case rest =>
        obtain ⟨rfl, hT⟩ := hcut
        clear TT c0 c1 c2 c3 c4 hz2
        have TT := Lib.hid hT
        obtain ⟨⟨c0, c1, c2, c3, c4⟩, G0, hz2⟩ := hT
        clear G0
        generalize wc = W4 at *
        go_upto_if 61 with ((go_at_call 31; (with_reducible refine (hI3 _).mono ?_); rintro e w1 ⟨rfl, rfl⟩))
        go_cut [9] (fun o wx => TxC w k l s c f Y3 o wx)
        case first =>
          cases bJ
          · have e := Lib.hid (H3.out.2.2 rfl)
            go_wp2
            go_meet
            exact ⟨by rw [e.out]; first | done | rfl, TT.out.gr (by repeat (first | (with_reducible exact Gr.refl _) | (with_reducible assumption) | (with_reducible refine Gr.alloc ?_ _) | (with_reducible refine Gr.drew ?_) | (with_reducible refine Gr.drewN ?_ _) | (with_reducible refine Gr.setCell ?_ (by simp <;> omega) _) | (with_reducible refine Gr.trans ?_ (by with_reducible assumption)) | exact Gr.refl _ | assumption | refine Gr.alloc ?_ _ | refine Gr.drew ?_ | refine Gr.drewN ?_ _ | refine Gr.setCell ?_ (by simp <;> omega) _ | refine Gr.trans ?_ (by assumption)))⟩
          · by_cases hn : n < 0
            · have e := H3.out.1 rfl hn
              go_wp2
              go_meet
              exact ⟨rfl, TT.out.gr (by repeat (first | (with_reducible exact Gr.refl _) | (with_reducible assumption) | (with_reducible refine Gr.alloc ?_ _) | (with_reducible refine Gr.drew ?_) | (with_reducible refine Gr.drewN ?_ _) | (with_reducible refine Gr.setCell ?_ (by simp <;> omega) _) | (with_reducible refine Gr.trans ?_ (by with_reducible assumption)) | exact Gr.refl _ | assumption | refine Gr.alloc ?_ _ | refine Gr.drew ?_ | refine Gr.drewN ?_ _ | refine Gr.setCell ?_ (by simp <;> omega) _ | refine Gr.trans ?_ (by assumption)))⟩
            · have e := H3.out.2.1 rfl (by omega)
              go_wp2
              go_meet
              exact ⟨rfl, TT.out.gr (by repeat (first | (with_reducible exact Gr.refl _) | (with_reducible assumption) | (with_reducible refine Gr.alloc ?_ _) | (with_reducible refine Gr.drew ?_) | (with_reducible refine Gr.drewN ?_ _) | (with_reducible refine Gr.setCell ?_ (by simp <;> omega) _) | (with_reducible refine Gr.trans ?_ (by with_reducible assumption)) | exact Gr.refl _ | assumption | refine Gr.alloc ?_ _ | refine Gr.drew ?_ | refine Gr.drewN ?_ _ | refine Gr.setCell ?_ (by simp <;> omega) _ | refine Gr.trans ?_ (by assumption)))⟩
        case rest =>
          obtain ⟨rfl, hT⟩ := hcut
          clear TT c0 c1 c2 c3 c4 hz2
          have TT := Lib.hid hT
          obtain ⟨⟨c0, c1, c2, c3, c4⟩, G0, hz2⟩ := hT
          clear G0
          generalize wc = W5 at *
          obtain ⟨bz, hbz⟩ : ∃ bz, (decide (n = 0) && bZ) = bz := ⟨_, rfl⟩
          have HB := Lib.hid hbz
          clear hbz
          go_upto_region 21 with (fail)
          go_cut [74] (fun o wx => o = .bool bz ∧ TxW w k l s c f wx)
          case first =>
            by_cases hn : n = 0
            · have bn : (n == 0) = true := by simp [hn]
              have HN := Lib.hid hn
              clear hn
              go_wp2_with ((go_at_call 31; (with_reducible refine (hI4 _).mono ?_); rintro e w1 ⟨rfl, rfl⟩))
              go_meet
              exact ⟨by rw [← HB.out]; simp [HN.out], TT.out.gr (by repeat (first | (with_reducible exact Gr.refl _) | (with_reducible assumption) | (with_reducible refine Gr.alloc ?_ _) | (with_reducible refine Gr.drew ?_) | (with_reducible refine Gr.drewN ?_ _) | (with_reducible refine Gr.setCell ?_ (by simp <;> omega) _) | (with_reducible refine Gr.trans ?_ (by with_reducible assumption)) | exact Gr.refl _ | assumption | refine Gr.alloc ?_ _ | refine Gr.drew ?_ | refine Gr.drewN ?_ _ | refine Gr.setCell ?_ (by simp <;> omega) _ | refine Gr.trans ?_ (by assumption)))⟩
            · have bn : (n == 0) = false := by simp [hn]
              have HN := Lib.hid hn
              clear hn
              go_wp2_with ((go_at_call 31; (with_reducible refine (hI4 _).mono ?_); rintro e w1 ⟨rfl, rfl⟩))
              go_meet
              exact ⟨by rw [← HB.out]; simp [HN.out], TT.out.gr (by repeat (first | (with_reducible exact Gr.refl _) | (with_reducible assumption) | (with_reducible refine Gr.alloc ?_ _) | (with_reducible refine Gr.drew ?_) | (with_reducible refine Gr.drewN ?_ _) | (with_reducible refine Gr.setCell ?_ (by simp <;> omega) _) | (with_reducible refine Gr.trans ?_ (by with_reducible assumption)) | exact Gr.refl _ | assumption | refine Gr.alloc ?_ _ | refine Gr.drew ?_ | refine Gr.drewN ?_ _ | refine Gr.setCell ?_ (by simp <;> omega) _ | refine Gr.trans ?_ (by assumption)))⟩
          case rest =>
            obtain ⟨rfl, hT⟩ := hcut
            clear TT c0 c1 c2 c3 c4 hz2
            have TT := Lib.hid hT
            obtain ⟨⟨c0, c1, c2, c3, c4⟩, G0, hz2⟩ := hT
            clear G0
            generalize wc = W6 at *
            go_upto_if 74 with (fail)
            go_cut [9] (fun o wx => TxC w k l s c f Y4 o wx)
            case first =>
              cases bz
              · have e := Lib.hid (H4.out.2 (by have := HB.out; simpa using this))
                go_wp2
                go_meet
                exact ⟨by rw [e.out]; first | done | rfl, TT.out.gr (by repeat (first | (with_reducible exact Gr.refl _) | (with_reducible assumption) | (with_reducible refine Gr.alloc ?_ _) | (with_reducible refine Gr.drew ?_) | (with_reducible refine Gr.drewN ?_ _) | (with_reducible refine Gr.setCell ?_ (by simp <;> omega) _) | (with_reducible refine Gr.trans ?_ (by with_reducible assumption)) | exact Gr.refl _ | assumption | refine Gr.alloc ?_ _ | refine Gr.drew ?_ | refine Gr.drewN ?_ _ | refine Gr.setCell ?_ (by simp <;> omega) _ | refine Gr.trans ?_ (by assumption)))⟩
              · have hh : n = 0 ∧ bZ = true := by have := HB.out; simpa using this
                have e := H4.out.1 hh.1 hh.2
                clear hh
                go_wp2_with (go_at_call 54; (with_reducible refine (e _).mono ?_); rintro e w7 ⟨rfl, hb7⟩)
                go_meet
                exact ⟨rfl, TT.out.gr (by repeat (first | (with_reducible exact Gr.refl _) | (with_reducible assumption) | (with_reducible refine Gr.alloc ?_ _) | (with_reducible refine Gr.drew ?_) | (with_reducible refine Gr.drewN ?_ _) | (with_reducible refine Gr.setCell ?_ (by simp <;> omega) _) | (with_reducible refine Gr.trans ?_ (by with_reducible assumption)) | exact Gr.refl _ | assumption | refine Gr.alloc ?_ _ | refine Gr.drew ?_ | refine Gr.drewN ?_ _ | refine Gr.setCell ?_ (by simp <;> omega) _ | refine Gr.trans ?_ (by assumption)))⟩
            case rest =>
              obtain ⟨rfl, hT⟩ := hcut
              clear TT c0 c1 c2 c3 c4 hz2
              have TT := Lib.hid hT
              obtain ⟨⟨c0, c1, c2, c3, c4⟩, G0, hz2⟩ := hT
              generalize wc = W7 at *
              by_cases f2 : f = 2
              · have e := H5.out.1 f2
                subst f2
                go_wp2_with (go_at_call 68; (with_reducible refine (e _).mono ?_); rintro e w7 ⟨rfl, hb7⟩)
                go_ret
                exact ⟨rfl, (by repeat (first | (with_reducible exact Gr.refl _) | (with_reducible assumption) | (with_reducible refine Gr.alloc ?_ _) | (with_reducible refine Gr.drew ?_) | (with_reducible refine Gr.drewN ?_ _) | (with_reducible refine Gr.setCell ?_ (by simp <;> omega) _) | (with_reducible refine Gr.trans ?_ (by with_reducible assumption)) | exact Gr.refl _ | assumption | refine Gr.alloc ?_ _ | refine Gr.drew ?_ | refine Gr.drewN ?_ _ | refine Gr.setCell ?_ (by simp <;> omega) _ | refine Gr.trans ?_ (by assumption)))⟩
              · have b2 : (f == 2) = false := by simp [f2]
                by_cases f1 : f = 1
                · have e := H5.out.2.1 f1
                  subst f1
                  go_wp2_with (go_at_call 69; (with_reducible refine (e _).mono ?_); rintro e w7 ⟨rfl, hb7⟩)
                  go_ret
                  exact ⟨rfl, (by repeat (first | (with_reducible exact Gr.refl _) | (with_reducible assumption) | (with_reducible refine Gr.alloc ?_ _) | (with_reducible refine Gr.drew ?_) | (with_reducible refine Gr.drewN ?_ _) | (with_reducible refine Gr.setCell ?_ (by simp <;> omega) _) | (with_reducible refine Gr.trans ?_ (by with_reducible assumption)) | exact Gr.refl _ | assumption | refine Gr.alloc ?_ _ | refine Gr.drew ?_ | refine Gr.drewN ?_ _ | refine Gr.setCell ?_ (by simp <;> omega) _ | refine Gr.trans ?_ (by assumption)))⟩
                · have b1 : (f == 1) = false := by simp [f1]
                  cases bN
                  · have e := Lib.hid (H5.out.2.2.2.2 f2 f1 rfl)
                    clear f1 f2
                    go_wp2_with ((go_at_call 31; (with_reducible refine (hI5 _).mono ?_); rintro e w1 ⟨rfl, rfl⟩))
                    go_ret
                    exact ⟨ret_str e.out.symm, (by repeat (first | (with_reducible exact Gr.refl _) | (with_reducible assumption) | (with_reducible refine Gr.alloc ?_ _) | (with_reducible refine Gr.drew ?_) | (with_reducible refine Gr.drewN ?_ _) | (with_reducible refine Gr.setCell ?_ (by simp <;> omega) _) | (with_reducible refine Gr.trans ?_ (by with_reducible assumption)) | exact Gr.refl _ | assumption | refine Gr.alloc ?_ _ | refine Gr.drew ?_ | refine Gr.drewN ?_ _ | refine Gr.setCell ?_ (by simp <;> omega) _ | refine Gr.trans ?_ (by assumption)))⟩
                  · by_cases hn : n < 0
                    · have e := H5.out.2.2.1 f2 f1 rfl hn
                      clear f1 f2
                      go_wp2_with (first | (go_at_call 31; (with_reducible refine (hI5 _).mono ?_); rintro e w1 ⟨rfl, rfl⟩) | go_at_call 68; (with_reducible refine (e _).mono ?_); rintro e w7 ⟨rfl, hb7⟩)
                      go_ret
                      exact ⟨rfl, (by repeat (first | (with_reducible exact Gr.refl _) | (with_reducible assumption) | (with_reducible refine Gr.alloc ?_ _) | (with_reducible refine Gr.drew ?_) | (with_reducible refine Gr.drewN ?_ _) | (with_reducible refine Gr.setCell ?_ (by simp <;> omega) _) | (with_reducible refine Gr.trans ?_ (by with_reducible assumption)) | exact Gr.refl _ | assumption | refine Gr.alloc ?_ _ | refine Gr.drew ?_ | refine Gr.drewN ?_ _ | refine Gr.setCell ?_ (by simp <;> omega) _ | refine Gr.trans ?_ (by assumption)))⟩
                    · have e := H5.out.2.2.2.1 f2 f1 rfl (by omega)
                      clear f1 f2
                      go_wp2_with ((go_at_call 31; (with_reducible refine (hI5 _).mono ?_); rintro e w1 ⟨rfl, rfl⟩))
                      go_ret
                      exact ⟨rfl, (by repeat (first | (with_reducible exact Gr.refl _) | (with_reducible assumption) | (with_reducible refine Gr.alloc ?_ _) | (with_reducible refine Gr.drew ?_) | (with_reducible refine Gr.drewN ?_ _) | (with_reducible refine Gr.setCell ?_ (by simp <;> omega) _) | (with_reducible refine Gr.trans ?_ (by with_reducible assumption)) | exact Gr.refl _ | assumption | refine Gr.alloc ?_ _ | refine Gr.drew ?_ | refine Gr.drewN ?_ _ | refine Gr.setCell ?_ (by simp <;> omega) _ | refine Gr.trans ?_ (by assumption)))⟩
end Go.Proofs.YtmdpejllbalnnaaGreatDoor
