/- Texts of the walks, merged. -/
import Derived.Test.YtnaflaokhldfnaaGreatQ05
import Derived.Deep.CutBlock
namespace Go.Proofs.YtnaflaokhldfnaaGreat
set_option linter.unusedSimpArgs false
set_option linter.unusedVariables false
open Go.RowKit

theorem Div64_any (hi lo y : Nat) (hy : hi < y) (hl : lo < 18446744073709551616) (hyW : y < 18446744073709551616) (w : World) :
    Calls Tryz.prog 99 #[.int .u64 (hi : Int), .int .u64 (lo : Int), .int .u64 (y : Int)] w fun e w' => e = .returned (.tuple #[.int .u64 (((hi * 18446744073709551616 + lo) / y : Nat) : Int), .int .u64 (((hi * 18446744073709551616 + lo) % y : Nat) : Int)]) ∧ Gr w w' := by
  by_cases h0 : hi = 0
  · subst h0
    refine (Div64_low lo y (by omega) (by omega) (by omega) w).mono fun e w' ⟨a, b⟩ => ⟨?_, b⟩
    rw [a]; simp
  · have hb := bitLen_bd y hyW (by omega)
    obtain ⟨s, hs⟩ : ∃ s, s + Lib.bitLen y = 64 := ⟨64 - Lib.bitLen y, by omega⟩
    have hlead : ∀ w, Calls Tryz.prog 103 #[.int .u64 (y : Int)] w fun e w' => e = .returned (.int .i64 (s : Nat)) ∧ w = w' := fun w => (lead_any y hyW w).mono fun e w' ⟨a, b⟩ => ⟨by rw [a]; congr 2; omega, b⟩
    have hs63 : s ≤ 63 := by omega
    have hP : 0 < 2 ^ s := Nat.two_pow_pos s
    have hYl : 9223372036854775808 ≤ y * 2 ^ s := by
      have := Nat.mul_le_mul_right (2 ^ s) hb.2.1
      rw [← Nat.pow_add, show Lib.bitLen y - 1 + s = 63 by omega] at this; exact this
    have hYh : y * 2 ^ s < 18446744073709551616 := by
      have := (Nat.mul_lt_mul_right hP).2 hb.2.2.1
      rw [← Nat.pow_add, show Lib.bitLen y + s = 64 by omega] at this; exact this
    have hPR : (2 : Nat) ^ s * 2 ^ (64 - s) = 18446744073709551616 := by rw [← Nat.pow_add, show s + (64 - s) = 64 by omega]
    have hR : 0 < 2 ^ (64 - s) := Nat.two_pow_pos _
    have hH : (hi + 1) * 2 ^ s ≤ y * 2 ^ s := Nat.mul_le_mul_right _ hy
    rw [Nat.add_mul] at hH
    have sp := shift_parts (hi := hi) (lo := lo) (y := y) (P := ((2 ^ s : Nat) : Int)) (R := ((2 ^ (64 - s) : Nat) : Int)) (by rw [← Int.natCast_mul, hPR]; rfl) (by omega) (by omega) (by omega)
    obtain ⟨sp1, sp2, sp3⟩ := sp
    have sp3 := sp3 (by omega)
    have cP : ((2 ^ s : Nat) : Int) = (2 : Int) ^ s := by simp
    have cR : ((2 ^ (64 - s) : Nat) : Int) = (2 : Int) ^ (64 - s) := by simp
    obtain ⟨P, hPe⟩ : ∃ P : Int, (2 : Int) ^ s = P := ⟨_, rfl⟩
    have eYc : (y : Int) * P = ((y * 2 ^ s : Nat) : Int) := by rw [← hPe, ← cP, Int.natCast_mul]
    have eHc : (hi : Int) * P = ((hi * 2 ^ s : Nat) : Int) := by rw [← hPe, ← cP, Int.natCast_mul]
    rw [cP, cR, hPe] at sp1
    rw [cR, cP, hPe] at sp3
    rw [cR] at sp2
    have hPp : 0 < P := by rw [← hPe, ← cP]; omega
    obtain ⟨l, hle⟩ : ∃ l : Int, (lo : Int) / 2 ^ (64 - s) = l := ⟨_, rfl⟩
    rw [hle] at sp1 sp2 sp3
    obtain ⟨T, hT⟩ : ∃ T : Int, (lo : Int) * P % 18446744073709551616 = T := ⟨_, rfl⟩
    have hT0 : 0 ≤ T := by rw [← hT]; exact Int.emod_nonneg _ (by omega)
    have hT1 : T < 18446744073709551616 := by rw [← hT]; exact Int.emod_lt_of_pos _ (by omega)
    rw [hT] at sp1
    have hHi : (hi : Int) * P + P ≤ (y : Int) * P := by rw [eHc, eYc, ← hPe, ← cP]; omega
    have hY2 : (9223372036854775808 : Int) ≤ (y : Int) * P := by rw [eYc]; omega
    have hY3 : (y : Int) * P < 18446744073709551616 := by rw [eYc]; omega
    have hH0 : 0 ≤ (hi : Int) * P := Int.mul_nonneg (by omega) (by omega)
    have hHm : (hi : Int) * P % 2 ^ s = 0 := by rw [hPe]; exact Int.mul_emod_left _ _
    have eu : bits .or .u64 ((hi : Int) * P) l = (hi : Int) * P + l :=
      bits_join .u64 64 (by decide) (fun n h0 h1 => by rw [IntKind.wrap_u64]; omega) s _ _ hH0 hHm (by omega) sp2 (by rw [hPe]; exact sp3) (by omega)
    have hc := Div64_core hi lo y s (by omega) (by omega) hs63 ((y : Int) * P) ((y : Int) * P / 4294967296) ((y : Int) * P % 4294967296) ((hi : Int) * P) l ((hi : Int) * P + l) T (T / 4294967296) (T % 4294967296)
      (by rw [hPe]; exact IntWalk.u64_in _ (by omega)) rfl (mask32 _ (by omega) hY3) (by rw [hPe]; exact IntWalk.u64_in _ (by omega)) hle eu
      (by rw [hPe, u64_mod]; exact hT) rfl (mask32 _ hT0 hT1)
      ⟨by omega, by omega, by omega, by omega, by omega, by omega, by omega, by omega, by omega⟩ (by omega) (by omega) (by omega) (by omega) hlead w
    refine hc.mono fun e w' ⟨a, b⟩ => ⟨?_, b⟩
    rw [a]
    have e1 : (((hi : Int) * P + l) * 4294967296 + T / 4294967296) * 4294967296 + T % 4294967296 = ((hi : Int) * 18446744073709551616 + lo) * P := by rw [sp1]; omega
    rw [e1, hPe]
    have e2 : ((hi : Int) * 18446744073709551616 + lo) * P / ((y : Int) * P) = ((hi : Int) * 18446744073709551616 + lo) / y := by
      rw [Int.mul_comm _ P, Int.mul_comm _ P]; exact Int.mul_ediv_mul_of_pos _ _ hPp
    have e3 : ((hi : Int) * 18446744073709551616 + lo) * P % ((y : Int) * P) / P = ((hi : Int) * 18446744073709551616 + lo) % y := by
      rw [Int.mul_comm _ P, Int.mul_comm _ P, Int.mul_emod_mul_of_pos _ _ hPp]; exact Int.mul_ediv_cancel_left _ (by omega)
    rw [e2, e3]
    simp

theorem cellsN {a b : World} (h : Gr a b) (n : Nat) (hn : n ≤ a.heap.size) : (∀ k o, k < n → b.cell? ⟨k, o, none⟩ = a.cell? ⟨k, o, none⟩) ∧ (∀ k o, k < n → b.frozen? ⟨k, o, none⟩ = a.frozen? ⟨k, o, none⟩) :=
  ⟨fun k o hk => h.cells.1 k o (by omega), fun k o hk => h.cells.2 k o (by omega)⟩

set_option maxHeartbeats 1000000 in
theorem byWord_w (a0 a1 a2 x q0 q1 q2 r0 r1 r2 : Int)
    (d2 : ∀ w, Calls Tryz.prog 99 #[.int .u64 0, .int .u64 a2, .int .u64 x] w fun e w' => e = .returned (.tuple #[.int .u64 q2, .int .u64 r2]) ∧ Gr w w')
    (d1 : ∀ w, Calls Tryz.prog 99 #[.int .u64 r2, .int .u64 a1, .int .u64 x] w fun e w' => e = .returned (.tuple #[.int .u64 q1, .int .u64 r1]) ∧ Gr w w')
    (d0 : ∀ w, Calls Tryz.prog 99 #[.int .u64 r1, .int .u64 a0, .int .u64 x] w fun e w' => e = .returned (.tuple #[.int .u64 q0, .int .u64 r0]) ∧ Gr w w') (w : World) :
    Calls Tryz.prog 87 #[.agg #[.int .u64 a0, .int .u64 a1, .int .u64 a2], .int .u64 x] w fun e w' => e = .returned (.tuple #[.agg #[.int .u64 q0, .int .u64 q1, .int .u64 q2], .agg #[.int .u64 r0, .int .u64 0, .int .u64 0]]) ∧ Gr w w' := by
  go_enter Tryz.func87, Tryz.ntmps87
  go_wp2
  have hA := Lib.hid (((Arr.new w .u64 70 (c := #[.int .u64 a0, .int .u64 a1, .int .u64 a2]) (xs := [a0, a1, a2]) rfl).alloc (.cells #[.int .u64 0, .int .u64 0, .int .u64 0] 70)).alloc (.cells #[.int .u64 0, .int .u64 0, .int .u64 0] 70))
  have hQ := Lib.hid ((Arr.new (w.alloc (.cells #[.int .u64 a0, .int .u64 a1, .int .u64 a2] 70)) .u64 70 (c := #[.int .u64 0, .int .u64 0, .int .u64 0]) (xs := [0, 0, 0]) rfl).alloc (.cells #[.int .u64 0, .int .u64 0, .int .u64 0] 70))
  have hR := Lib.hid (Arr.new ((w.alloc (.cells #[.int .u64 a0, .int .u64 a1, .int .u64 a2] 70)).alloc (.cells #[.int .u64 0, .int .u64 0, .int .u64 0] 70)) .u64 70 (c := #[.int .u64 0, .int .u64 0, .int .u64 0]) (xs := [0, 0, 0]) rfl)
  have hG := Lib.hid ((by repeat (first | (with_reducible exact Gr.refl _) | (with_reducible assumption) | (with_reducible refine Gr.alloc ?_ _) | (with_reducible refine Gr.drew ?_) | (with_reducible refine Gr.drewN ?_ _) | (with_reducible refine Gr.setCell ?_ (by simp <;> omega) _) | (with_reducible refine Gr.trans ?_ (by with_reducible assumption)) | exact Gr.refl _ | assumption | refine Gr.alloc ?_ _ | refine Gr.drew ?_ | refine Gr.drewN ?_ _ | refine Gr.setCell ?_ (by simp <;> omega) _ | refine Gr.trans ?_ (by assumption))) : Gr w (((w.alloc (.cells #[.int .u64 a0, .int .u64 a1, .int .u64 a2] 70)).alloc (.cells #[.int .u64 0, .int .u64 0, .int .u64 0] 70)).alloc (.cells #[.int .u64 0, .int .u64 0, .int .u64 0] 70)))
  simp only [World.size_alloc] at hQ hR
  refine wp_loop_rounds 4 ?_
  rw [rounds_succ]
  go_upto_block 1 with (fail)
  go_cut [] (fun wx => Arr wx w.heap.size .u64 70 [a0, a1, a2] ∧ Arr wx (w.heap.size + 1) .u64 70 [0, 0, q2] ∧ Arr wx (w.heap.size + 2) .u64 70 [r2, 0, 0] ∧ Gr w wx)
  case first =>
    go_wp2
    go_region_with (go_at_call 99; go_loud (refine (d2 _).mono ?_; rintro e w1 ⟨rfl, hb⟩; have HA := Lib.hid (hA.out.drew.gr hb); have HQ := Lib.hid (hQ.out.drew.gr hb); have HR := Lib.hid (hR.out.drew.gr hb); have HG := Lib.hid (Gr.trans hG.out.drew hb); clear hb; obtain ⟨s0, s1, s2, s3⟩ : w1.cell? ⟨w.heap.size + 1, 2, none⟩ = some (.int .u64 0) ∧ w1.cell? ⟨w.heap.size + 2, 0, none⟩ = some (.int .u64 0) ∧ w1.frozen? ⟨w.heap.size + 1, 2, none⟩ = false ∧ w1.frozen? ⟨w.heap.size + 2, 0, none⟩ = false := ⟨HQ.out.cell 2 (by simp), HR.out.cell 0 (by simp), HQ.out.frozen 2, HR.out.frozen 0⟩))
    all_goals
      go_wp2
      go_meet
      refine ⟨(HA.out.set_other _ _ (by simp <;> omega)).set_other _ _ (by simp <;> omega), ?_, ?_, ((HG.out.setCell (by simp <;> omega) _).setCell (by simp <;> omega) _)⟩
      · first | exact (HQ.out.set 2 q2).set_other _ _ (by simp <;> omega) | exact (HQ.out.set_other _ _ (by simp <;> omega)).set 2 q2
      · first | exact (HR.out.set_other _ _ (by simp <;> omega)).set 0 r2 | exact (HR.out.set 0 r2).set_other _ _ (by simp <;> omega)
  case rest =>
    obtain ⟨hA', hQ', hR', hG'⟩ := hcut
    have hA := Lib.hid hA'
    have hQ := Lib.hid hQ'
    have hR := Lib.hid hR'
    have hG := Lib.hid hG'
    have t0 := hA'.cell 1 (by simp)
    have t1 := hR'.cell 0 (by simp)
    simp only [List.getD_cons_zero, List.getD_cons_succ] at t0 t1
    clear hA' hQ' hR' hG'
    go_wp2
    rw [rounds_succ]
    go_upto_block 1 with (fail)
    go_cut [] (fun wx => Arr wx w.heap.size .u64 70 [a0, a1, a2] ∧ Arr wx (w.heap.size + 1) .u64 70 [0, q1, q2] ∧ Arr wx (w.heap.size + 2) .u64 70 [r1, 0, 0] ∧ Gr w wx)
    case first =>
      go_wp2
      go_region_with (go_at_call 99; go_loud (refine (d1 _).mono ?_; rintro e w1 ⟨rfl, hb⟩; have HA := Lib.hid (hA.out.drew.gr hb); have HQ := Lib.hid (hQ.out.drew.gr hb); have HR := Lib.hid (hR.out.drew.gr hb); have HG := Lib.hid (Gr.trans hG.out.drew hb); clear hb; obtain ⟨s0, s1, s2, s3⟩ : w1.cell? ⟨w.heap.size + 1, 1, none⟩ = some (.int .u64 0) ∧ w1.cell? ⟨w.heap.size + 2, 0, none⟩ = some (.int .u64 r2) ∧ w1.frozen? ⟨w.heap.size + 1, 1, none⟩ = false ∧ w1.frozen? ⟨w.heap.size + 2, 0, none⟩ = false := ⟨HQ.out.cell 1 (by simp), HR.out.cell 0 (by simp), HQ.out.frozen 1, HR.out.frozen 0⟩))
      all_goals
        go_wp2
        go_meet
        refine ⟨(HA.out.set_other _ _ (by simp <;> omega)).set_other _ _ (by simp <;> omega), ?_, ?_, ((HG.out.setCell (by simp <;> omega) _).setCell (by simp <;> omega) _)⟩
        · first | exact (HQ.out.set 1 q1).set_other _ _ (by simp <;> omega) | exact (HQ.out.set_other _ _ (by simp <;> omega)).set 1 q1
        · first | exact (HR.out.set_other _ _ (by simp <;> omega)).set 0 r1 | exact (HR.out.set 0 r1).set_other _ _ (by simp <;> omega)
    case rest =>
      obtain ⟨hA', hQ', hR', hG'⟩ := hcut
      have hA := Lib.hid hA'
      have hQ := Lib.hid hQ'
      have hR := Lib.hid hR'
      have hG := Lib.hid hG'
      have t0 := hA'.cell 0 (by simp)
      have t1 := hR'.cell 0 (by simp)
      simp only [List.getD_cons_zero, List.getD_cons_succ] at t0 t1
      clear hA' hQ' hR' hG'
      go_wp2
      rw [rounds_succ]
      go_upto_block 1 with (fail)
      go_cut [] (fun wx => Arr wx w.heap.size .u64 70 [a0, a1, a2] ∧ Arr wx (w.heap.size + 1) .u64 70 [q0, q1, q2] ∧ Arr wx (w.heap.size + 2) .u64 70 [r0, 0, 0] ∧ Gr w wx)
      case first =>
        go_wp2
        go_region_with (go_at_call 99; go_loud (refine (d0 _).mono ?_; rintro e w1 ⟨rfl, hb⟩; have HA := Lib.hid (hA.out.drew.gr hb); have HQ := Lib.hid (hQ.out.drew.gr hb); have HR := Lib.hid (hR.out.drew.gr hb); have HG := Lib.hid (Gr.trans hG.out.drew hb); clear hb; obtain ⟨s0, s1, s2, s3⟩ : w1.cell? ⟨w.heap.size + 1, 0, none⟩ = some (.int .u64 0) ∧ w1.cell? ⟨w.heap.size + 2, 0, none⟩ = some (.int .u64 r1) ∧ w1.frozen? ⟨w.heap.size + 1, 0, none⟩ = false ∧ w1.frozen? ⟨w.heap.size + 2, 0, none⟩ = false := ⟨HQ.out.cell 0 (by simp), HR.out.cell 0 (by simp), HQ.out.frozen 0, HR.out.frozen 0⟩))
        all_goals
          go_wp2
          go_meet
          refine ⟨(HA.out.set_other _ _ (by simp <;> omega)).set_other _ _ (by simp <;> omega), ?_, ?_, ((HG.out.setCell (by simp <;> omega) _).setCell (by simp <;> omega) _)⟩
          · first | exact (HQ.out.set 0 q0).set_other _ _ (by simp <;> omega) | exact (HQ.out.set_other _ _ (by simp <;> omega)).set 0 q0
          · first | exact (HR.out.set_other _ _ (by simp <;> omega)).set 0 r0 | exact (HR.out.set 0 r0).set_other _ _ (by simp <;> omega)
      case rest =>
        obtain ⟨hA', hQ', hR', hG'⟩ := hcut
        have hG := Lib.hid hG'
        have s0 := hQ'.cell 0 (by simp)
        have s1 := hQ'.cell 1 (by simp)
        have s2 := hQ'.cell 2 (by simp)
        have s3 := hR'.cell 0 (by simp)
        have s4 := hR'.cell 1 (by simp)
        have s5 := hR'.cell 2 (by simp)
        simp only [List.getD_cons_zero, List.getD_cons_succ] at s0 s1 s2 s3 s4 s5
        have f0 := hQ'.frozen 0
        have f1 := hQ'.frozen 1
        have f2 := hQ'.frozen 2
        have f3 := hR'.frozen 0
        have f4 := hR'.frozen 1
        have f5 := hR'.frozen 2
        clear hA' hQ' hR' hG'
        go_wp2
        rw [rounds_succ]
        go_wp2
        go_region
        all_goals
          go_wp2
          refine bodyPost_ret (v := .tuple #[.agg #[.int .u64 q0, .int .u64 q1, .int .u64 q2], .agg #[.int .u64 r0, .int .u64 0, .int .u64 0]]) ?_ rfl ⟨rfl, ?_⟩
          · simp [results, Tryz.results87, go_sem, *]
          · (repeat (first | with_reducible refine Gr.setCell ?_ (by simp <;> omega) _ | with_reducible refine Gr.drew ?_)); (with_reducible exact hG.out)
end Go.Proofs.YtnaflaokhldfnaaGreat
