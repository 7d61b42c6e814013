/- The reference's digit lists: LongOf. -/
import Derived.Test.YtmejhccdiimmlaaRb
import Derived.Test.YtmejhccdiimmlaaC
namespace Go.Proofs.Ytmejhccdiimmlaa
set_option linter.unusedSimpArgs false
set_option linter.unusedVariables false
open Go.RowKit

/-- The digits of an amount behind so many zeros: so many of them. -/
def ld (z : Nat) (a : Int) (q : Nat) : List Int := List.replicate z 0 ++ fl q (dig a)
theorem ld_length (z : Nat) (a : Int) (q : Nat) : (ld z a q).length = z + q := by unfold ld; simp [fl_length]
theorem ld_succ (z : Nat) (a : Int) (q : Nat) : ld z a q ++ [dig a q] = ld z a (q + 1) := by
  unfold ld fl; rw [List.append_assoc, List.range_succ, List.map_append]; rfl
theorem fl_dg (a : Int) (q : Nat) : Dg (fl q (dig a)) := by
  intro d hd
  unfold fl at hd
  obtain ⟨i, _, rfl⟩ := List.mem_map.1 hd
  exact dig_bd a i
theorem ld_dg (z : Nat) (a : Int) (q : Nat) : Dg (ld z a q) := (Dg.zeros z).append (fl_dg a q)
theorem fl_vl (a : Int) (h : 0 ≤ a) : ∀ q, vl (fl q (dig a)) + 10 ^ q * (a / 10 ^ q) = a
  | 0 => by simp [fl, vl]
  | q + 1 => by
    have e : fl (q + 1) (dig a) = fl q (dig a) ++ [dig a q] := by unfold fl; rw [List.range_succ, List.map_append]; rfl
    have ih := fl_vl a h q
    rw [e, vl_snoc, fl_length, ← div_step]
    rw [show dig a q = a / 10 ^ q % 10 from rfl]
    have := Int.mul_ediv_add_emod (a / 10 ^ q) 10
    generalize a / 10 ^ q = x at *
    rw [Int.pow_succ]
    generalize (10 : Int) ^ q = P at *
    have e2 : P * x = P * (10 * (x / 10)) + P * (x % 10) := by rw [← Int.mul_add, this]
    rw [Int.mul_assoc]
    omega
theorem ld_vl {z : Nat} {a : Int} {q : Nat} (h : 0 ≤ a) (hq : a / 10 ^ q = 0) : vl (ld z a q) = a * 10 ^ z := by
  unfold ld
  have := fl_vl a h q
  rw [hq] at this
  rw [vl_append, vl_zeros, List.length_replicate, Int.mul_comm a]
  simp at this
  rw [this]; simp
end Go.Proofs.Ytmejhccdiimmlaa
