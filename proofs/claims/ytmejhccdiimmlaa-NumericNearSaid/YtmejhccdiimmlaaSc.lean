/- Walks: whole numbers of three words: timesWord, timesPower, compare, length. -/
import Derived.Test.YtmejhccdiimmlaaSb
namespace Go.Proofs.Ytmejhccdiimmlaa
set_option linter.unusedSimpArgs false
set_option linter.unusedVariables false
open Go.RowKit

set_option maxHeartbeats 1000000 in
theorem times_w (a0 a1 a2 x h0 h1 h2 l0 l1 l2 s0 s1 s2 c0 c1 c2 : Int)
    (m0 : ∀ w, Calls Try.prog 130 #[.int .u64 a0, .int .u64 x] w fun e w' => e = .returned (.tuple #[.int .u64 h0, .int .u64 l0]) ∧ w' = w)
    (m1 : ∀ w, Calls Try.prog 130 #[.int .u64 a1, .int .u64 x] w fun e w' => e = .returned (.tuple #[.int .u64 h1, .int .u64 l1]) ∧ w' = w)
    (m2 : ∀ w, Calls Try.prog 130 #[.int .u64 a2, .int .u64 x] w fun e w' => e = .returned (.tuple #[.int .u64 h2, .int .u64 l2]) ∧ w' = w)
    (k0 : ∀ w, (callFunc 139 #[.int .u64 l0, .int .u64 0, .int .u64 0]).run Try.prog w = .ok (.value (.tuple #[.int .u64 s0, .int .u64 c0])) w)
    (k1 : ∀ w, (callFunc 139 #[.int .u64 l1, .int .u64 (h0 + c0), .int .u64 0]).run Try.prog w = .ok (.value (.tuple #[.int .u64 s1, .int .u64 c1])) w)
    (k2 : ∀ w, (callFunc 139 #[.int .u64 l2, .int .u64 (h1 + c1), .int .u64 0]).run Try.prog w = .ok (.value (.tuple #[.int .u64 s2, .int .u64 c2])) w)
    (b0 : 0 ≤ h0 + c0 ∧ h0 + c0 ≤ 18446744073709551615) (b1 : 0 ≤ h1 + c1 ∧ h1 + c1 ≤ 18446744073709551615) (b2 : 0 ≤ h2 + c2 ∧ h2 + c2 ≤ 18446744073709551615) (w : World) :
    Calls Try.prog 136 #[.agg #[.int .u64 a0, .int .u64 a1, .int .u64 a2], .int .u64 x] w fun e w' => e = .returned (.agg #[.int .u64 s0, .int .u64 s1, .int .u64 s2]) ∧ Gr w w' := by
  obtain ⟨b00, b01⟩ := b0
  obtain ⟨b10, b11⟩ := b1
  obtain ⟨b20, b21⟩ := b2
  go_enter Try.func136, Try.ntmps136
  go_wp2
  refine wp_loop_rounds 4 ?_
  rw [rounds_succ]
  go_wp2_with (go_at_call 130; refine (m0 _).mono ?_; rintro e w1 ⟨rfl, rfl⟩)
  rw [rounds_succ]
  go_wp2_with (go_at_call 130; refine (m1 _).mono ?_; rintro e w1 ⟨rfl, rfl⟩)
  rw [rounds_succ]
  go_wp2_with (go_at_call 130; refine (m2 _).mono ?_; rintro e w1 ⟨rfl, rfl⟩)
  rw [rounds_succ]
  go_wp2
  refine bodyPost_ret (v := .agg #[.int .u64 s0, .int .u64 s1, .int .u64 s2]) ?_ rfl ⟨rfl, (by repeat (first | exact Gr.refl _ | assumption | refine Gr.alloc ?_ _ | refine Gr.drew ?_ | refine Gr.drewN ?_ _ | refine Gr.setCell ?_ (by simp <;> omega) _ | refine Gr.trans ?_ (by assumption)))⟩
  simp [results, Try.results136, go_sem, *]

theorem mul_hi {a x : Nat} (ha : a < 18446744073709551616) (hx : x < 18446744073709551616) : a * x / 18446744073709551616 + 1 ≤ 18446744073709551615 := by
  have h1 : a * x ≤ 18446744073709551615 * 18446744073709551615 := Nat.mul_le_mul (by omega) (by omega)
  omega

theorem timesWord_any (M x : Nat) (h : Sm (M * x)) (hm : Sm M) (hx : x < 18446744073709551616) (w : World) :
    Calls Try.prog 136 #[(.agg #[.int .u64 ((wd (M) 0 : Nat) : Int), .int .u64 ((wd (M) 1 : Nat) : Int), .int .u64 ((wd (M) 2 : Nat) : Int)]), .int .u64 (x : Int)] w fun e w' => e = .returned (.agg #[.int .u64 ((wd ((M * x)) 0 : Nat) : Int), .int .u64 ((wd ((M * x)) 1 : Nat) : Int), .int .u64 ((wd ((M * x)) 2 : Nat) : Int)]) ∧ Gr w w' := by
  have e := times_words h _ _ _ rfl rfl rfl
  rw [e.1, e.2.1, e.2.2]
  have m0 := wd_lt hm 0
  have m1 := wd_lt hm 1
  have m2 := wd_lt hm 2
  generalize wd M 0 = a0 at *
  generalize wd M 1 = a1 at *
  generalize wd M 2 = a2 at *
  clear e
  have q0 := mul_hi m0 hx
  have q1 := mul_hi m1 hx
  have q2 := mul_hi m2 hx
  have L := fun a (ha : a < 18446744073709551616) => Try.bits_Mul64 a x ha hx
  have A0 := add64 (a0 * x % 18446744073709551616) 0 0 (by omega)
  have A1 := add64 (a1 * x % 18446744073709551616) (a0 * x / 18446744073709551616) 0 (by omega)
  have A2 := add64 (a2 * x % 18446744073709551616) (a1 * x / 18446744073709551616 + (a1 * x % 18446744073709551616 + a0 * x / 18446744073709551616) / 18446744073709551616) 0 (by omega)
  rw [show (a0 * x % 18446744073709551616 + 0 + 0) % 18446744073709551616 = a0 * x % 18446744073709551616 by omega, show (a0 * x % 18446744073709551616 + 0 + 0) / 18446744073709551616 = 0 by omega] at A0
  rw [Nat.add_zero (a1 * x % 18446744073709551616 + a0 * x / 18446744073709551616)] at A1
  rw [Nat.add_zero (a2 * x % 18446744073709551616 + _)] at A2
  refine times_w _ _ _ _ _ _ _ _ _ _ _ _ _ _ (((a1 * x % 18446744073709551616 + a0 * x / 18446744073709551616) / 18446744073709551616 : Nat) : Int) (((a2 * x % 18446744073709551616 + (a1 * x / 18446744073709551616 + (a1 * x % 18446744073709551616 + a0 * x / 18446744073709551616) / 18446744073709551616)) / 18446744073709551616 : Nat) : Int) (L a0 m0) (L a1 m1) (L a2 m2) A0 (fun w => ?_) (fun w => ?_) ?_ ?_ ?_ w
  · rw [show ((a0 * x / 18446744073709551616 : Nat) : Int) + ((0 : Nat) : Int) = ((a0 * x / 18446744073709551616 : Nat) : Int) by omega]; exact A1 w
  · rw [← Int.natCast_add]; exact A2 w
  · generalize a0 * x / 18446744073709551616 = z at *; omega
  · generalize a1 * x / 18446744073709551616 = z at *
    generalize a0 * x / 18446744073709551616 = z0 at *
    omega
  · generalize a2 * x / 18446744073709551616 = z at *
    generalize a1 * x / 18446744073709551616 = z1 at *
    generalize a0 * x / 18446744073709551616 = z0 at *
    omega
end Go.Proofs.Ytmejhccdiimmlaa
