/- Walks: whole numbers of three words: length; Div64. -/
import Derived.Test.YtmejhccdiimmlaaSe
namespace Go.Proofs.Ytmejhccdiimmlaa
set_option linter.unusedSimpArgs false
set_option linter.unusedVariables false
open Go.RowKit

set_option maxHeartbeats 1000000 in
theorem length_any (N : Nat) (h : Sm N) (w : World) :
    Calls Try.prog 137 #[(.agg #[.int .u64 ((wd (N) 0 : Nat) : Int), .int .u64 ((wd (N) 1 : Nat) : Int), .int .u64 ((wd (N) 2 : Nat) : Int)])] w fun e w' => (∃ L : Nat, e = .returned (.int .i64 (L : Int)) ∧ IsLen N L) ∧ Gr w w' := by
  have P2 := Lib.hid (isLen_hi h 2 (by omega))
  have P1 := Lib.hid (isLen_hi h 1 (by omega))
  have P0 := Lib.hid (isLen_hi h 0 (by omega))
  have b2 := wd_lt h 2
  have b1 := wd_lt h 1
  have b0 := wd_lt h 0
  have hN := Lib.hid (wd_sum N)
  have L2 := (bitLen_bd _ b2)
  have L1 := (bitLen_bd _ b1)
  have L0 := (bitLen_bd _ b0)
  by_cases z2 : wd N 2 = 0
  · have Z2 := Lib.hid z2
    have k2 : (((wd N 2 : Nat) : Int) != 0) = false := by simp [z2]
    clear z2
    by_cases z1 : wd N 1 = 0
    · have Z1 := Lib.hid z1
      have k1 : (((wd N 1 : Nat) : Int) != 0) = false := by simp [z1]
      clear z1
      by_cases z0 : wd N 0 = 0
      · have Z0 := Lib.hid z0
        have k0 : (((wd N 0 : Nat) : Int) != 0) = false := by simp [z0]
        clear z0 L2 L1 L0 b2 b1 b0
        go_enter Try.func137, Try.ntmps137
        go_wp2
        refine wp_loop_rounds 4 ?_
        rw [rounds_succ]
        go_wp2
        rw [rounds_succ]
        go_wp2
        rw [rounds_succ]
        go_wp2
        rw [rounds_succ]
        go_wp2
        go_ret
        refine ⟨⟨0, rfl, ?_⟩, (by repeat (first | exact Gr.refl _ | assumption | refine Gr.alloc ?_ _ | refine Gr.drew ?_ | refine Gr.drewN ?_ _ | refine Gr.setCell ?_ (by simp <;> omega) _ | refine Gr.trans ?_ (by assumption)))⟩
        have e := hN.out
        rw [Z0.out, Z1.out, Z2.out] at e
        subst e
        exact ⟨by decide, fun h => absurd rfl h, by omega⟩
      · have k0 : (((wd N 0 : Nat) : Int) != 0) = true := by simp; omega
        have hb := L0 z0
        have hw : IntKind.i64.wrap (64 * (0 : Int)) = 0 := rfl
        have hl := len64_any _ b0
        have HP := Lib.hid (P0.out z0 (fun _ => Z1.out) (fun _ => Z2.out))
        have hb1 := hb.2.2.2
        clear z0 L2 L1 L0 b2 b1 b0 hb
        go_enter Try.func137, Try.ntmps137
        go_wp2
        refine wp_loop_rounds 4 ?_
        rw [rounds_succ]
        go_wp2
        rw [rounds_succ]
        go_wp2
        rw [rounds_succ]
        go_wp2_with (go_at_call 147; refine (hl _).mono ?_; rintro e w1 ⟨rfl, rfl⟩)
        go_ret
        exact ⟨⟨64 * 0 + Lib.bitLen (wd N 0), ret_int (by omega), HP.out⟩, (by repeat (first | exact Gr.refl _ | assumption | refine Gr.alloc ?_ _ | refine Gr.drew ?_ | refine Gr.drewN ?_ _ | refine Gr.setCell ?_ (by simp <;> omega) _ | refine Gr.trans ?_ (by assumption)))⟩
    · have k1 : (((wd N 1 : Nat) : Int) != 0) = true := by simp; omega
      have hb := L1 z1
      have hl := len64_any _ b1
      have HP := Lib.hid (P1.out z1 (fun h => by omega) (fun _ => Z2.out))
      have hb1 := hb.2.2.2
      clear z1 L2 L1 L0 b2 b1 b0 hb
      go_enter Try.func137, Try.ntmps137
      go_wp2
      refine wp_loop_rounds 4 ?_
      rw [rounds_succ]
      go_wp2
      rw [rounds_succ]
      go_wp2_with (go_at_call 147; refine (hl _).mono ?_; rintro e w1 ⟨rfl, rfl⟩)
      go_ret
      exact ⟨⟨64 * 1 + Lib.bitLen (wd N 1), ret_int (by omega), HP.out⟩, (by repeat (first | exact Gr.refl _ | assumption | refine Gr.alloc ?_ _ | refine Gr.drew ?_ | refine Gr.drewN ?_ _ | refine Gr.setCell ?_ (by simp <;> omega) _ | refine Gr.trans ?_ (by assumption)))⟩
  · have k2 : (((wd N 2 : Nat) : Int) != 0) = true := by simp; omega
    have hb := L2 z2
    have hl := len64_any _ b2
    have HP := Lib.hid (P2.out z2 (fun h => by omega) (fun h => by omega))
    have hb1 := hb.2.2.2
    clear z2 L2 L1 L0 b2 b1 b0 hb
    go_enter Try.func137, Try.ntmps137
    go_wp2
    refine wp_loop_rounds 4 ?_
    rw [rounds_succ]
    go_wp2_with (go_at_call 147; refine (hl _).mono ?_; rintro e w1 ⟨rfl, rfl⟩)
    go_ret
    exact ⟨⟨64 * 2 + Lib.bitLen (wd N 2), ret_int (by omega), HP.out⟩, (by repeat (first | exact Gr.refl _ | assumption | refine Gr.alloc ?_ _ | refine Gr.drew ?_ | refine Gr.drewN ?_ _ | refine Gr.setCell ?_ (by simp <;> omega) _ | refine Gr.trans ?_ (by assumption)))⟩
end Go.Proofs.Ytmejhccdiimmlaa
