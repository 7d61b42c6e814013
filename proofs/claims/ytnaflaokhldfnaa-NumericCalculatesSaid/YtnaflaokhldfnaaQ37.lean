/- Texts of the walks, merged. -/
import Derived.Test.YtnaflaokhldfnaaQ24
import Derived.Test.YtnaflaokhldfnaaQ36
namespace Go.Proofs.Ytnaflaokhldfnaa
set_option linter.unusedSimpArgs false
set_option linter.unusedVariables false
open Go.RowKit

theorem remOk : RemOk := by
  intro n s m t hn hm hm0 w
  obtain ⟨n0, n1, s0, s1⟩ := numErr_ok hn
  obtain ⟨m0, m1, t0, t1⟩ := numErr_ok hm
  have bA : n.natAbs * 10 ^ (max s t - s).toNat ≤ 999999999999999 * 1000000000000000 := Nat.mul_le_mul (by omega) (pow10_le _ (by omega)).2
  have bB : m.natAbs * 10 ^ (max s t - t).toNat ≤ 999999999999999 * 1000000000000000 := Nat.mul_le_mul (by omega) (pow10_le _ (by omega)).2
  have hp : 0 < m.natAbs * 10 ^ (max s t - t).toNat := Nat.mul_pos (by omega) (Nat.pow_pos (by omega))
  have e190 : (2 : Nat) ^ 190 = 1569275433846670190958947355801916604025588861116008628224 := by decide
  exact rem_core n s m t (max s t) _ _ _ _ _ _ _ _ _ _ _ _ _ _ _ _ _ _ _ _ _ rfl (exactOf_any n s (by omega) (by omega)) (exactOf_any m t (by omega) (by omega))
    (brought_any (decide (n < 0)) n.natAbs 1 s (max s t) (max s t - s).toNat _ (by omega) (by omega) (by omega) (by omega) rfl (by unfold Sm; omega))
    (brought_any (decide (m < 0)) m.natAbs 1 t (max s t) (max s t - t).toNat _ (by omega) (by omega) (by omega) (by omega) rfl (by unfold Sm; omega))
    (divided_any _ _ (by unfold Sm; omega) hp (by omega)) w
end Go.Proofs.Ytnaflaokhldfnaa
