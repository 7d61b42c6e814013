/- Walks: whole numbers of three words: dividedByWord, divided. -/
import Derived.Test.YtmejhccdiimmlaaSh
namespace Go.Proofs.Ytmejhccdiimmlaa
set_option linter.unusedSimpArgs false
set_option linter.unusedVariables false
open Go.RowKit

theorem byWord_any (M x : Nat) (hm : Sm M) (h0 : 0 < x) (hx : x < 18446744073709551616) (w : World) :
    Calls Try.prog 138 #[(.agg #[.int .u64 ((wd (M) 0 : Nat) : Int), .int .u64 ((wd (M) 1 : Nat) : Int), .int .u64 ((wd (M) 2 : Nat) : Int)]), .int .u64 (x : Int)] w fun e w' => e = .returned (.tuple #[(.agg #[.int .u64 ((wd ((M / x)) 0 : Nat) : Int), .int .u64 ((wd ((M / x)) 1 : Nat) : Int), .int .u64 ((wd ((M / x)) 2 : Nat) : Int)]), (.agg #[.int .u64 ((wd ((M % x)) 0 : Nat) : Int), .int .u64 ((wd ((M % x)) 1 : Nat) : Int), .int .u64 ((wd ((M % x)) 2 : Nat) : Int)])]) ∧ Gr w w' := by
  have e := wd_sum M
  have m0 := wd_lt hm 0
  have m1 := wd_lt hm 1
  have m2 := wd_lt hm 2
  have q := word_div_q (a0 := wd M 0) (a1 := wd M 1) (a2 := wd M 2) (b := 18446744073709551616) h0
  rw [← e] at q
  generalize wd M 0 = a0 at *
  generalize wd M 1 = a1 at *
  generalize wd M 2 = a2 at *
  have d2 := Div64_any 0 a2 x h0 m2 hx
  have d1 := Div64_any (a2 % x) a1 x (Nat.mod_lt _ h0) m1 hx
  have d0 := Div64_any ((a2 % x * 18446744073709551616 + a1) % x) a0 x (Nat.mod_lt _ h0) m0 hx
  rw [show 0 * 18446744073709551616 + a2 = a2 by omega] at d2
  have lt : ∀ r z, r < x → z < 18446744073709551616 → (r * 18446744073709551616 + z) / x < 18446744073709551616 := fun r z hr hz => by
    rw [Nat.div_lt_iff_lt_mul h0]
    have : (r + 1) * 18446744073709551616 ≤ x * 18446744073709551616 := Nat.mul_le_mul_right _ hr
    omega
  have w1 := wd_of q.1 (lt _ _ (Nat.mod_lt _ h0) m0) (lt _ _ (Nat.mod_lt _ h0) m1)
  have rl : ((a2 % x * 18446744073709551616 + a1) % x * 18446744073709551616 + a0) % x < 18446744073709551616 := Nat.lt_trans (Nat.mod_lt _ h0) hx
  have w2 := wd_of (N := M % x) (a0 := ((a2 % x * 18446744073709551616 + a1) % x * 18446744073709551616 + a0) % x) (a1 := 0) (a2 := 0) (by rw [q.2]; omega) rl (by omega)
  rw [w1.1, w1.2.1, w1.2.2, w2.1, w2.2.1, w2.2.2]
  exact byWord_w _ _ _ _ _ _ _ _ _ _ d2 d1 d0 w
end Go.Proofs.Ytmejhccdiimmlaa
