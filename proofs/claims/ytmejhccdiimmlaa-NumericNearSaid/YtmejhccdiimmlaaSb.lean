/- Walks: whole numbers of three words: amountOf, plus, minus, timesWord. -/
import Derived.Test.YtmejhccdiimmlaaSa
import Derived.Test.YtmejhccdiimmlaaA
import Derived.Test.YtmejhccdiimmlaaShelf
import Derived.Laws.Externs
import Derived.Shelf.Spec.BitsCarry
import Derived.LoopN
namespace Go.Proofs.Ytmejhccdiimmlaa
set_option linter.unusedSimpArgs false
set_option linter.unusedVariables false
open Go.RowKit

theorem add64 (x y c : Nat) (hc : c ≤ 1) (w : World) :
    (callFunc 139 #[.int .u64 x, .int .u64 y, .int .u64 c]).run Try.prog w =
      .ok (.value (.tuple #[.int .u64 (((x + y + c) % 18446744073709551616 : Nat) : Int), .int .u64 (((x + y + c) / 18446744073709551616 : Nat) : Int)])) w := by
  rw [run_callFunc_extern Try.func139 (by kernel_rfl) (by kernel_rfl) (by kernel_rfl) (e := add64Entry) (by kernel_rfl), run_add64 x y c (by omega) (by omega) (by omega) (by omega)]
  simp only [Result.andThen]
  congr 5 <;> omega

theorem amountOf_any (n : Int) (h : -1000000000000000000 ≤ n) (h' : n ≤ 1000000000000000000) (w : World) :
    Calls Try.prog 103 #[.int .i64 n] w fun e w' => e = .returned (.agg #[.int .u64 ((wd (n.natAbs) 0 : Nat) : Int), .int .u64 ((wd (n.natAbs) 1 : Nat) : Int), .int .u64 ((wd (n.natAbs) 2 : Nat) : Int)]) ∧ Gr w w' := by
  have e := wd_of (N := n.natAbs) (a0 := n.natAbs) (a1 := 0) (a2 := 0) (by omega) (by omega) (by omega)
  have e0 : n < 0 → IntKind.u64.wrap (-IntKind.u64.wrap n) = n.natAbs := by intro hn; rw [IntKind.wrap_u64, IntKind.wrap_u64]; omega
  have E0 := Lib.hid e0
  clear e0
  rw [e.1, e.2.1, e.2.2]
  clear e
  go_enter Try.func103, Try.ntmps103
  go_wp2
  · refine bodyPost_ret (v := .agg #[.int .u64 (n.natAbs : Nat), .int .u64 0, .int .u64 0]) ?_ rfl ⟨rfl, (by repeat (first | exact Gr.refl _ | assumption | refine Gr.alloc ?_ _ | refine Gr.drew ?_ | refine Gr.drewN ?_ _ | refine Gr.setCell ?_ (by simp <;> omega) _ | refine Gr.trans ?_ (by assumption)))⟩
    rw [E0.out (by assumption)]
    simp [results, Try.results103, go_sem, *]
  · refine bodyPost_ret (v := .agg #[.int .u64 (n.natAbs : Nat), .int .u64 0, .int .u64 0]) ?_ rfl ⟨rfl, (by repeat (first | exact Gr.refl _ | assumption | refine Gr.alloc ?_ _ | refine Gr.drew ?_ | refine Gr.drewN ?_ _ | refine Gr.setCell ?_ (by simp <;> omega) _ | refine Gr.trans ?_ (by assumption)))⟩
    simp [results, Try.results103, go_sem, *]
    omega

set_option maxHeartbeats 1000000 in
theorem plus_w (a0 a1 a2 b0 b1 b2 s0 s1 s2 c0 c1 c2 : Int)
    (h0 : ∀ w, (callFunc 139 #[.int .u64 a0, .int .u64 b0, .int .u64 0]).run Try.prog w = .ok (.value (.tuple #[.int .u64 s0, .int .u64 c0])) w)
    (h1 : ∀ w, (callFunc 139 #[.int .u64 a1, .int .u64 b1, .int .u64 c0]).run Try.prog w = .ok (.value (.tuple #[.int .u64 s1, .int .u64 c1])) w)
    (h2 : ∀ w, (callFunc 139 #[.int .u64 a2, .int .u64 b2, .int .u64 c1]).run Try.prog w = .ok (.value (.tuple #[.int .u64 s2, .int .u64 c2])) w) (w : World) :
    Calls Try.prog 106 #[.agg #[.int .u64 a0, .int .u64 a1, .int .u64 a2], .agg #[.int .u64 b0, .int .u64 b1, .int .u64 b2]] w fun e w' => e = .returned (.agg #[.int .u64 s0, .int .u64 s1, .int .u64 s2]) ∧ Gr w w' := by
  go_enter Try.func106, Try.ntmps106
  go_wp2
  refine wp_loop_rounds 4 ?_
  rw [rounds_succ]
  go_wp2
  go_region
  go_wp2
  rw [rounds_succ]
  go_wp2
  go_region
  go_wp2
  rw [rounds_succ]
  go_wp2
  go_region
  go_wp2
  rw [rounds_succ]
  go_wp2
  refine bodyPost_ret (v := .agg #[.int .u64 s0, .int .u64 s1, .int .u64 s2]) ?_ rfl ⟨rfl, (by repeat (first | exact Gr.refl _ | assumption | refine Gr.alloc ?_ _ | refine Gr.drew ?_ | refine Gr.drewN ?_ _ | refine Gr.setCell ?_ (by simp <;> omega) _ | refine Gr.trans ?_ (by assumption)))⟩
  simp [results, Try.results106, go_sem, *]

theorem plus_any (M N : Nat) (h : Sm (M + N)) (w : World) :
    Calls Try.prog 106 #[(.agg #[.int .u64 ((wd (M) 0 : Nat) : Int), .int .u64 ((wd (M) 1 : Nat) : Int), .int .u64 ((wd (M) 2 : Nat) : Int)]), (.agg #[.int .u64 ((wd (N) 0 : Nat) : Int), .int .u64 ((wd (N) 1 : Nat) : Int), .int .u64 ((wd (N) 2 : Nat) : Int)])] w fun e w' => e = .returned (.agg #[.int .u64 ((wd ((M + N)) 0 : Nat) : Int), .int .u64 ((wd ((M + N)) 1 : Nat) : Int), .int .u64 ((wd ((M + N)) 2 : Nat) : Int)]) ∧ Gr w w' := by
  have e := plus_words h
  have m0 := wd_lt (sm_le h (Nat.le_add_right M N)) 0
  have n0 := wd_lt (sm_le h (Nat.le_add_left N M)) 0
  have m1 := wd_lt (sm_le h (Nat.le_add_right M N)) 1
  have n1 := wd_lt (sm_le h (Nat.le_add_left N M)) 1
  rw [e.1, e.2.1, e.2.2]
  exact plus_w _ _ _ _ _ _ _ _ _ _ _ _ (fun w => add64 _ _ 0 (by omega) w) (fun w => add64 _ _ _ (by omega) w) (fun w => add64 _ _ _ (by omega) w) w

theorem sub64 (x y b : Nat) (hb : b ≤ 1) (w : World) :
    (callFunc 144 #[.int .u64 x, .int .u64 y, .int .u64 b]).run Try.prog w =
      .ok (.value (.tuple #[.int .u64 (((x + 18446744073709551616 - y - b) % 18446744073709551616 : Nat) : Int), .int .u64 ((bw x (y + b) : Nat) : Int)])) w := by
  rw [run_callFunc_extern Try.func144 (by kernel_rfl) (by kernel_rfl) (by kernel_rfl) (e := sub64Entry) (by kernel_rfl), run_sub64 x y b hb]
  rfl

set_option maxHeartbeats 1000000 in
theorem minus_w (a0 a1 a2 b0 b1 b2 s0 s1 s2 c0 c1 c2 : Int)
    (h0 : ∀ w, (callFunc 144 #[.int .u64 a0, .int .u64 b0, .int .u64 0]).run Try.prog w = .ok (.value (.tuple #[.int .u64 s0, .int .u64 c0])) w)
    (h1 : ∀ w, (callFunc 144 #[.int .u64 a1, .int .u64 b1, .int .u64 c0]).run Try.prog w = .ok (.value (.tuple #[.int .u64 s1, .int .u64 c1])) w)
    (h2 : ∀ w, (callFunc 144 #[.int .u64 a2, .int .u64 b2, .int .u64 c1]).run Try.prog w = .ok (.value (.tuple #[.int .u64 s2, .int .u64 c2])) w) (w : World) :
    Calls Try.prog 124 #[.agg #[.int .u64 a0, .int .u64 a1, .int .u64 a2], .agg #[.int .u64 b0, .int .u64 b1, .int .u64 b2]] w fun e w' => e = .returned (.agg #[.int .u64 s0, .int .u64 s1, .int .u64 s2]) ∧ Gr w w' := by
  go_enter Try.func124, Try.ntmps124
  go_wp2
  refine wp_loop_rounds 4 ?_
  rw [rounds_succ]
  go_wp2
  go_region
  go_wp2
  rw [rounds_succ]
  go_wp2
  go_region
  go_wp2
  rw [rounds_succ]
  go_wp2
  go_region
  go_wp2
  rw [rounds_succ]
  go_wp2
  refine bodyPost_ret (v := .agg #[.int .u64 s0, .int .u64 s1, .int .u64 s2]) ?_ rfl ⟨rfl, (by repeat (first | exact Gr.refl _ | assumption | refine Gr.alloc ?_ _ | refine Gr.drew ?_ | refine Gr.drewN ?_ _ | refine Gr.setCell ?_ (by simp <;> omega) _ | refine Gr.trans ?_ (by assumption)))⟩
  simp [results, Try.results124, go_sem, *]

theorem minus_any (M N : Nat) (hm : Sm M) (h : N ≤ M) (w : World) :
    Calls Try.prog 124 #[(.agg #[.int .u64 ((wd (M) 0 : Nat) : Int), .int .u64 ((wd (M) 1 : Nat) : Int), .int .u64 ((wd (M) 2 : Nat) : Int)]), (.agg #[.int .u64 ((wd (N) 0 : Nat) : Int), .int .u64 ((wd (N) 1 : Nat) : Int), .int .u64 ((wd (N) 2 : Nat) : Int)])] w fun e w' => e = .returned (.agg #[.int .u64 ((wd ((M - N)) 0 : Nat) : Int), .int .u64 ((wd ((M - N)) 1 : Nat) : Int), .int .u64 ((wd ((M - N)) 2 : Nat) : Int)]) ∧ Gr w w' := by
  have e := minus_words hm h
  have b : ∀ x y, bw x y ≤ 1 := fun x y => by unfold bw; split <;> omega
  rw [e.1, e.2.1, e.2.2]
  exact minus_w _ _ _ _ _ _ _ _ _ _ _ _ (fun w => sub64 _ _ 0 (by omega) w) (fun w => sub64 _ _ _ (b _ _) w) (fun w => sub64 _ _ _ (b _ _) w) w
end Go.Proofs.Ytmejhccdiimmlaa
