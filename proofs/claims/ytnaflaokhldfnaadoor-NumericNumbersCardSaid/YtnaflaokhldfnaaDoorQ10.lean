/- Texts of the walks, merged. -/
import Derived.Test.YtnaflaokhldfnaaDoorQ09
import Derived.Test.YtnaflaokhldfnaaDoorQ01
import Derived.Test.YtnaflaokhldfnaaDoorShelf
import Derived.Laws.Externs
import Derived.Shelf.Spec.BitsCarry
import Derived.LoopN
namespace Go.Proofs.YtnaflaokhldfnaaDoor
set_option linter.unusedSimpArgs false
set_option linter.unusedVariables false
open Go.RowKit

theorem add64 (x y c : Nat) (hc : c ≤ 1) (w : World) :
    (callFunc 69 #[.int .u64 x, .int .u64 y, .int .u64 c]).run Tryd.prog w =
      .ok (.value (.tuple #[.int .u64 (((x + y + c) % 18446744073709551616 : Nat) : Int), .int .u64 (((x + y + c) / 18446744073709551616 : Nat) : Int)])) w := by
  rw [run_callFunc_extern Tryd.func69 (by kernel_rfl) (by kernel_rfl) (by kernel_rfl) (e := add64Entry) (by kernel_rfl), run_add64 x y c (by omega) (by omega) (by omega) (by omega)]
  simp only [Result.andThen]
  congr 5 <;> omega

theorem amountOf_any (n : Int) (h : -1000000000000000000 ≤ n) (h' : n ≤ 1000000000000000000) (w : World) :
    Calls Tryd.prog 45 #[.int .i64 n] w fun e w' => e = .returned (.agg #[.int .u64 ((wd (n.natAbs) 0 : Nat) : Int), .int .u64 ((wd (n.natAbs) 1 : Nat) : Int), .int .u64 ((wd (n.natAbs) 2 : Nat) : Int)]) ∧ Gr w w' := by
  have e := wd_of (N := n.natAbs) (a0 := n.natAbs) (a1 := 0) (a2 := 0) (by omega) (by omega) (by omega)
  have e0 : n < 0 → IntKind.u64.wrap (-IntKind.u64.wrap n) = n.natAbs := by intro hn; rw [IntKind.wrap_u64, IntKind.wrap_u64]; omega
  have E0 := Lib.hid e0
  clear e0
  rw [e.1, e.2.1, e.2.2]
  clear e
  go_enter Tryd.func45, Tryd.ntmps45
  go_wp2
  · refine bodyPost_ret (v := .agg #[.int .u64 (n.natAbs : Nat), .int .u64 0, .int .u64 0]) ?_ rfl ⟨rfl, (by repeat (first | (with_reducible exact Gr.refl _) | (with_reducible assumption) | (with_reducible refine Gr.alloc ?_ _) | (with_reducible refine Gr.drew ?_) | (with_reducible refine Gr.drewN ?_ _) | (with_reducible refine Gr.setCell ?_ (by simp <;> omega) _) | (with_reducible refine Gr.trans ?_ (by with_reducible assumption)) | exact Gr.refl _ | assumption | refine Gr.alloc ?_ _ | refine Gr.drew ?_ | refine Gr.drewN ?_ _ | refine Gr.setCell ?_ (by simp <;> omega) _ | refine Gr.trans ?_ (by assumption)))⟩
    rw [E0.out (by assumption)]
    simp [results, Tryd.results45, go_sem, *]
  · refine bodyPost_ret (v := .agg #[.int .u64 (n.natAbs : Nat), .int .u64 0, .int .u64 0]) ?_ rfl ⟨rfl, (by repeat (first | (with_reducible exact Gr.refl _) | (with_reducible assumption) | (with_reducible refine Gr.alloc ?_ _) | (with_reducible refine Gr.drew ?_) | (with_reducible refine Gr.drewN ?_ _) | (with_reducible refine Gr.setCell ?_ (by simp <;> omega) _) | (with_reducible refine Gr.trans ?_ (by with_reducible assumption)) | exact Gr.refl _ | assumption | refine Gr.alloc ?_ _ | refine Gr.drew ?_ | refine Gr.drewN ?_ _ | refine Gr.setCell ?_ (by simp <;> omega) _ | refine Gr.trans ?_ (by assumption)))⟩
    simp [results, Tryd.results45, go_sem, *]
    omega

set_option maxHeartbeats 1000000 in
theorem plus_w (a0 a1 a2 b0 b1 b2 s0 s1 s2 c0 c1 c2 : Int)
    (h0 : ∀ w, (callFunc 69 #[.int .u64 a0, .int .u64 b0, .int .u64 0]).run Tryd.prog w = .ok (.value (.tuple #[.int .u64 s0, .int .u64 c0])) w)
    (h1 : ∀ w, (callFunc 69 #[.int .u64 a1, .int .u64 b1, .int .u64 c0]).run Tryd.prog w = .ok (.value (.tuple #[.int .u64 s1, .int .u64 c1])) w)
    (h2 : ∀ w, (callFunc 69 #[.int .u64 a2, .int .u64 b2, .int .u64 c1]).run Tryd.prog w = .ok (.value (.tuple #[.int .u64 s2, .int .u64 c2])) w) (w : World) :
    Calls Tryd.prog 42 #[.agg #[.int .u64 a0, .int .u64 a1, .int .u64 a2], .agg #[.int .u64 b0, .int .u64 b1, .int .u64 b2]] w fun e w' => e = .returned (.agg #[.int .u64 s0, .int .u64 s1, .int .u64 s2]) ∧ Gr w w' := by
  go_enter Tryd.func42, Tryd.ntmps42
  go_wp2
  refine wp_loop_rounds 4 ?_
  rw [rounds_succ]
  go_wp2
  go_region
  go_wp2
  rw [rounds_succ]
  go_wp2
  go_region
  go_wp2
  rw [rounds_succ]
  go_wp2
  go_region
  go_wp2
  rw [rounds_succ]
  go_wp2
  refine bodyPost_ret (v := .agg #[.int .u64 s0, .int .u64 s1, .int .u64 s2]) ?_ rfl ⟨rfl, (by repeat (first | (with_reducible exact Gr.refl _) | (with_reducible assumption) | (with_reducible refine Gr.alloc ?_ _) | (with_reducible refine Gr.drew ?_) | (with_reducible refine Gr.drewN ?_ _) | (with_reducible refine Gr.setCell ?_ (by simp <;> omega) _) | (with_reducible refine Gr.trans ?_ (by with_reducible assumption)) | exact Gr.refl _ | assumption | refine Gr.alloc ?_ _ | refine Gr.drew ?_ | refine Gr.drewN ?_ _ | refine Gr.setCell ?_ (by simp <;> omega) _ | refine Gr.trans ?_ (by assumption)))⟩
  simp [results, Tryd.results42, go_sem, *]

theorem plus_any (M N : Nat) (h : Sm (M + N)) (w : World) :
    Calls Tryd.prog 42 #[(.agg #[.int .u64 ((wd (M) 0 : Nat) : Int), .int .u64 ((wd (M) 1 : Nat) : Int), .int .u64 ((wd (M) 2 : Nat) : Int)]), (.agg #[.int .u64 ((wd (N) 0 : Nat) : Int), .int .u64 ((wd (N) 1 : Nat) : Int), .int .u64 ((wd (N) 2 : Nat) : Int)])] w fun e w' => e = .returned (.agg #[.int .u64 ((wd ((M + N)) 0 : Nat) : Int), .int .u64 ((wd ((M + N)) 1 : Nat) : Int), .int .u64 ((wd ((M + N)) 2 : Nat) : Int)]) ∧ Gr w w' := by
  have e := plus_words h
  have m0 := wd_lt (sm_le h (Nat.le_add_right M N)) 0
  have n0 := wd_lt (sm_le h (Nat.le_add_left N M)) 0
  have m1 := wd_lt (sm_le h (Nat.le_add_right M N)) 1
  have n1 := wd_lt (sm_le h (Nat.le_add_left N M)) 1
  rw [e.1, e.2.1, e.2.2]
  exact plus_w _ _ _ _ _ _ _ _ _ _ _ _ (fun w => add64 _ _ 0 (by omega) w) (fun w => add64 _ _ _ (by omega) w) (fun w => add64 _ _ _ (by omega) w) w

theorem sub64 (x y b : Nat) (hb : b ≤ 1) (w : World) :
    (callFunc 71 #[.int .u64 x, .int .u64 y, .int .u64 b]).run Tryd.prog w =
      .ok (.value (.tuple #[.int .u64 (((x + 18446744073709551616 - y - b) % 18446744073709551616 : Nat) : Int), .int .u64 ((bw x (y + b) : Nat) : Int)])) w := by
  rw [run_callFunc_extern Tryd.func71 (by kernel_rfl) (by kernel_rfl) (by kernel_rfl) (e := sub64Entry) (by kernel_rfl), run_sub64 x y b hb]
  rfl

set_option maxHeartbeats 1000000 in
theorem minus_w (a0 a1 a2 b0 b1 b2 s0 s1 s2 c0 c1 c2 : Int)
    (h0 : ∀ w, (callFunc 71 #[.int .u64 a0, .int .u64 b0, .int .u64 0]).run Tryd.prog w = .ok (.value (.tuple #[.int .u64 s0, .int .u64 c0])) w)
    (h1 : ∀ w, (callFunc 71 #[.int .u64 a1, .int .u64 b1, .int .u64 c0]).run Tryd.prog w = .ok (.value (.tuple #[.int .u64 s1, .int .u64 c1])) w)
    (h2 : ∀ w, (callFunc 71 #[.int .u64 a2, .int .u64 b2, .int .u64 c1]).run Tryd.prog w = .ok (.value (.tuple #[.int .u64 s2, .int .u64 c2])) w) (w : World) :
    Calls Tryd.prog 44 #[.agg #[.int .u64 a0, .int .u64 a1, .int .u64 a2], .agg #[.int .u64 b0, .int .u64 b1, .int .u64 b2]] w fun e w' => e = .returned (.agg #[.int .u64 s0, .int .u64 s1, .int .u64 s2]) ∧ Gr w w' := by
  go_enter Tryd.func44, Tryd.ntmps44
  go_wp2
  refine wp_loop_rounds 4 ?_
  rw [rounds_succ]
  go_wp2
  go_region
  go_wp2
  rw [rounds_succ]
  go_wp2
  go_region
  go_wp2
  rw [rounds_succ]
  go_wp2
  go_region
  go_wp2
  rw [rounds_succ]
  go_wp2
  refine bodyPost_ret (v := .agg #[.int .u64 s0, .int .u64 s1, .int .u64 s2]) ?_ rfl ⟨rfl, (by repeat (first | (with_reducible exact Gr.refl _) | (with_reducible assumption) | (with_reducible refine Gr.alloc ?_ _) | (with_reducible refine Gr.drew ?_) | (with_reducible refine Gr.drewN ?_ _) | (with_reducible refine Gr.setCell ?_ (by simp <;> omega) _) | (with_reducible refine Gr.trans ?_ (by with_reducible assumption)) | exact Gr.refl _ | assumption | refine Gr.alloc ?_ _ | refine Gr.drew ?_ | refine Gr.drewN ?_ _ | refine Gr.setCell ?_ (by simp <;> omega) _ | refine Gr.trans ?_ (by assumption)))⟩
  simp [results, Tryd.results44, go_sem, *]

theorem minus_any (M N : Nat) (hm : Sm M) (h : N ≤ M) (w : World) :
    Calls Tryd.prog 44 #[(.agg #[.int .u64 ((wd (M) 0 : Nat) : Int), .int .u64 ((wd (M) 1 : Nat) : Int), .int .u64 ((wd (M) 2 : Nat) : Int)]), (.agg #[.int .u64 ((wd (N) 0 : Nat) : Int), .int .u64 ((wd (N) 1 : Nat) : Int), .int .u64 ((wd (N) 2 : Nat) : Int)])] w fun e w' => e = .returned (.agg #[.int .u64 ((wd ((M - N)) 0 : Nat) : Int), .int .u64 ((wd ((M - N)) 1 : Nat) : Int), .int .u64 ((wd ((M - N)) 2 : Nat) : Int)]) ∧ Gr w w' := by
  have e := minus_words hm h
  have b : ∀ x y, bw x y ≤ 1 := fun x y => by unfold bw; split <;> omega
  rw [e.1, e.2.1, e.2.2]
  exact minus_w _ _ _ _ _ _ _ _ _ _ _ _ (fun w => sub64 _ _ 0 (by omega) w) (fun w => sub64 _ _ _ (b _ _) w) (fun w => sub64 _ _ _ (b _ _) w) w
end Go.Proofs.YtnaflaokhldfnaaDoor
namespace Go.Proofs.YtnaflaokhldfnaaDoor
set_option linter.unusedSimpArgs false
set_option linter.unusedVariables false
open Go.RowKit

set_option maxHeartbeats 1000000 in
theorem times_w (a0 a1 a2 x h0 h1 h2 l0 l1 l2 s0 s1 s2 c0 c1 c2 : Int)
    (m0 : ∀ w, Calls Tryd.prog 74 #[.int .u64 a0, .int .u64 x] w fun e w' => e = .returned (.tuple #[.int .u64 h0, .int .u64 l0]) ∧ w' = w)
    (m1 : ∀ w, Calls Tryd.prog 74 #[.int .u64 a1, .int .u64 x] w fun e w' => e = .returned (.tuple #[.int .u64 h1, .int .u64 l1]) ∧ w' = w)
    (m2 : ∀ w, Calls Tryd.prog 74 #[.int .u64 a2, .int .u64 x] w fun e w' => e = .returned (.tuple #[.int .u64 h2, .int .u64 l2]) ∧ w' = w)
    (k0 : ∀ w, (callFunc 69 #[.int .u64 l0, .int .u64 0, .int .u64 0]).run Tryd.prog w = .ok (.value (.tuple #[.int .u64 s0, .int .u64 c0])) w)
    (k1 : ∀ w, (callFunc 69 #[.int .u64 l1, .int .u64 (h0 + c0), .int .u64 0]).run Tryd.prog w = .ok (.value (.tuple #[.int .u64 s1, .int .u64 c1])) w)
    (k2 : ∀ w, (callFunc 69 #[.int .u64 l2, .int .u64 (h1 + c1), .int .u64 0]).run Tryd.prog w = .ok (.value (.tuple #[.int .u64 s2, .int .u64 c2])) w)
    (b0 : 0 ≤ h0 + c0 ∧ h0 + c0 ≤ 18446744073709551615) (b1 : 0 ≤ h1 + c1 ∧ h1 + c1 ≤ 18446744073709551615) (b2 : 0 ≤ h2 + c2 ∧ h2 + c2 ≤ 18446744073709551615) (w : World) :
    Calls Tryd.prog 89 #[.agg #[.int .u64 a0, .int .u64 a1, .int .u64 a2], .int .u64 x] w fun e w' => e = .returned (.agg #[.int .u64 s0, .int .u64 s1, .int .u64 s2]) ∧ Gr w w' := by
  obtain ⟨b00, b01⟩ := b0
  obtain ⟨b10, b11⟩ := b1
  obtain ⟨b20, b21⟩ := b2
  go_enter Tryd.func89, Tryd.ntmps89
  go_wp2
  refine wp_loop_rounds 4 ?_
  rw [rounds_succ]
  go_wp2_with (go_at_call 74; refine (m0 _).mono ?_; rintro e w1 ⟨rfl, rfl⟩)
  rw [rounds_succ]
  go_wp2_with (go_at_call 74; refine (m1 _).mono ?_; rintro e w1 ⟨rfl, rfl⟩)
  rw [rounds_succ]
  go_wp2_with (go_at_call 74; refine (m2 _).mono ?_; rintro e w1 ⟨rfl, rfl⟩)
  rw [rounds_succ]
  go_wp2
  refine bodyPost_ret (v := .agg #[.int .u64 s0, .int .u64 s1, .int .u64 s2]) ?_ rfl ⟨rfl, (by repeat (first | (with_reducible exact Gr.refl _) | (with_reducible assumption) | (with_reducible refine Gr.alloc ?_ _) | (with_reducible refine Gr.drew ?_) | (with_reducible refine Gr.drewN ?_ _) | (with_reducible refine Gr.setCell ?_ (by simp <;> omega) _) | (with_reducible refine Gr.trans ?_ (by with_reducible assumption)) | exact Gr.refl _ | assumption | refine Gr.alloc ?_ _ | refine Gr.drew ?_ | refine Gr.drewN ?_ _ | refine Gr.setCell ?_ (by simp <;> omega) _ | refine Gr.trans ?_ (by assumption)))⟩
  simp [results, Tryd.results89, go_sem, *]

theorem mul_hi {a x : Nat} (ha : a < 18446744073709551616) (hx : x < 18446744073709551616) : a * x / 18446744073709551616 + 1 ≤ 18446744073709551615 := by
  have h1 : a * x ≤ 18446744073709551615 * 18446744073709551615 := Nat.mul_le_mul (by omega) (by omega)
  omega

theorem timesWord_any (M x : Nat) (h : Sm (M * x)) (hm : Sm M) (hx : x < 18446744073709551616) (w : World) :
    Calls Tryd.prog 89 #[(.agg #[.int .u64 ((wd (M) 0 : Nat) : Int), .int .u64 ((wd (M) 1 : Nat) : Int), .int .u64 ((wd (M) 2 : Nat) : Int)]), .int .u64 (x : Int)] w fun e w' => e = .returned (.agg #[.int .u64 ((wd ((M * x)) 0 : Nat) : Int), .int .u64 ((wd ((M * x)) 1 : Nat) : Int), .int .u64 ((wd ((M * x)) 2 : Nat) : Int)]) ∧ Gr w w' := by
  have e := times_words h _ _ _ rfl rfl rfl
  rw [e.1, e.2.1, e.2.2]
  have m0 := wd_lt hm 0
  have m1 := wd_lt hm 1
  have m2 := wd_lt hm 2
  generalize wd M 0 = a0 at *
  generalize wd M 1 = a1 at *
  generalize wd M 2 = a2 at *
  clear e
  have q0 := mul_hi m0 hx
  have q1 := mul_hi m1 hx
  have q2 := mul_hi m2 hx
  have L := fun a (ha : a < 18446744073709551616) => Tryd.bits_Mul64 a x ha hx
  have A0 := add64 (a0 * x % 18446744073709551616) 0 0 (by omega)
  have A1 := add64 (a1 * x % 18446744073709551616) (a0 * x / 18446744073709551616) 0 (by omega)
  have A2 := add64 (a2 * x % 18446744073709551616) (a1 * x / 18446744073709551616 + (a1 * x % 18446744073709551616 + a0 * x / 18446744073709551616) / 18446744073709551616) 0 (by omega)
  rw [show (a0 * x % 18446744073709551616 + 0 + 0) % 18446744073709551616 = a0 * x % 18446744073709551616 by omega, show (a0 * x % 18446744073709551616 + 0 + 0) / 18446744073709551616 = 0 by omega] at A0
  rw [Nat.add_zero (a1 * x % 18446744073709551616 + a0 * x / 18446744073709551616)] at A1
  rw [Nat.add_zero (a2 * x % 18446744073709551616 + _)] at A2
  refine times_w _ _ _ _ _ _ _ _ _ _ _ _ _ _ (((a1 * x % 18446744073709551616 + a0 * x / 18446744073709551616) / 18446744073709551616 : Nat) : Int) (((a2 * x % 18446744073709551616 + (a1 * x / 18446744073709551616 + (a1 * x % 18446744073709551616 + a0 * x / 18446744073709551616) / 18446744073709551616)) / 18446744073709551616 : Nat) : Int) (L a0 m0) (L a1 m1) (L a2 m2) A0 (fun w => ?_) (fun w => ?_) ?_ ?_ ?_ w
  · rw [show ((a0 * x / 18446744073709551616 : Nat) : Int) + ((0 : Nat) : Int) = ((a0 * x / 18446744073709551616 : Nat) : Int) by omega]; exact A1 w
  · rw [← Int.natCast_add]; exact A2 w
  · generalize a0 * x / 18446744073709551616 = z at *; omega
  · generalize a1 * x / 18446744073709551616 = z at *
    generalize a0 * x / 18446744073709551616 = z0 at *
    omega
  · generalize a2 * x / 18446744073709551616 = z at *
    generalize a1 * x / 18446744073709551616 = z1 at *
    generalize a0 * x / 18446744073709551616 = z0 at *
    omega
end Go.Proofs.YtnaflaokhldfnaaDoor
namespace Go.Proofs.YtnaflaokhldfnaaDoor
set_option linter.unusedSimpArgs false
set_option linter.unusedVariables false
open Go.RowKit

/-- Block b holds the three words of a number. -/
def Am (w : World) (b : Nat) (N : Nat) : Prop := Arr w b .u64 51 [(wd N 0 : Nat), (wd N 1 : Nat), (wd N 2 : Nat)]
theorem Am.new (w : World) (N : Nat) : Am (w.alloc (.cells #[.int .u64 (wd N 0 : Nat), .int .u64 (wd N 1 : Nat), .int .u64 (wd N 2 : Nat)] 51)) w.heap.size N := Arr.new w _ _ rfl
theorem Am.zero (w : World) : Am (w.alloc (.cells #[.int .u64 0, .int .u64 0, .int .u64 0] 51)) w.heap.size 0 := Arr.new w _ _ (by simp [wd])
theorem Am.cells {w : World} {b N : Nat} (h : Am w b N) : w.cell? ⟨b, 0, none⟩ = some (.int .u64 (wd N 0 : Nat)) ∧ w.cell? ⟨b, 1, none⟩ = some (.int .u64 (wd N 1 : Nat)) ∧ w.cell? ⟨b, 2, none⟩ = some (.int .u64 (wd N 2 : Nat)) :=
  ⟨Arr.cell h 0 (by simp), Arr.cell h 1 (by simp), Arr.cell h 2 (by simp)⟩
theorem Am.frozen {w : World} {b N : Nat} (h : Am w b N) : w.frozen? ⟨b, 0, none⟩ = false ∧ w.frozen? ⟨b, 1, none⟩ = false ∧ w.frozen? ⟨b, 2, none⟩ = false :=
  ⟨Arr.frozen h 0, Arr.frozen h 1, Arr.frozen h 2⟩
theorem Am.gr {w w' : World} {b N : Nat} (h : Am w b N) (g : Gr w w') : Am w' b N := Arr.gr h g
theorem Am.alloc {w : World} {b N : Nat} (h : Am w b N) (o : Obj) : Am (w.alloc o) b N := Arr.alloc h o
theorem Am.drew {w : World} {b N : Nat} (h : Am w b N) : Am w.drew b N := h
theorem Am.lt {w : World} {b N : Nat} (h : Am w b N) : b < w.heap.size := Arr.lt h
theorem Am.put {w : World} {b N : Nat} (h : Am w b N) (K : Nat) :
    Am (((w.setCell ⟨b, 0, none⟩ (.int .u64 (wd K 0 : Nat))).setCell ⟨b, 1, none⟩ (.int .u64 (wd K 1 : Nat))).setCell ⟨b, 2, none⟩ (.int .u64 (wd K 2 : Nat))) b K :=
  ((Arr.set h 0 (wd K 0 : Nat)).set 1 (wd K 1 : Nat)).set 2 (wd K 2 : Nat)
theorem Am.other {w : World} {b N : Nat} (h : Am w b N) (p : Addr) (u : Value) (hp : b ≠ p.block) : Am (w.setCell p u) b N := Arr.set_other h p u hp
theorem Am.of {w : World} {b N K : Nat} (h : Am w b N) (e : N = K) : Am w b K := e ▸ h

theorem times10_any (M : Nat) (h : Sm (M * 10)) (hm : Sm M) (w : World) :
    Calls Tryd.prog 89 #[(.agg #[.int .u64 ((wd (M) 0 : Nat) : Int), .int .u64 ((wd (M) 1 : Nat) : Int), .int .u64 ((wd (M) 2 : Nat) : Int)]), .int .u64 10] w fun e w' => e = .returned (.agg #[.int .u64 ((wd ((M * 10)) 0 : Nat) : Int), .int .u64 ((wd ((M * 10)) 1 : Nat) : Int), .int .u64 ((wd ((M * 10)) 2 : Nat) : Int)]) ∧ Gr w w' :=
  timesWord_any M 10 h hm (by omega) w

set_option maxHeartbeats 1000000 in
theorem timesPower_any (M n : Nat) (h : Sm (M * 10 ^ n)) (hn : n ≤ 100) (w : World) :
    Calls Tryd.prog 68 #[(.agg #[.int .u64 ((wd (M) 0 : Nat) : Int), .int .u64 ((wd (M) 1 : Nat) : Int), .int .u64 ((wd (M) 2 : Nat) : Int)]), .int .i64 (n : Int)] w fun e w' => e = .returned (.agg #[.int .u64 ((wd ((M * 10 ^ n)) 0 : Nat) : Int), .int .u64 ((wd ((M * 10 ^ n)) 1 : Nat) : Int), .int .u64 ((wd ((M * 10 ^ n)) 2 : Nat) : Int)]) ∧ Gr w w' := by
  have H := Lib.hid h
  clear h
  go_enter Tryd.func68, Tryd.ntmps68
  go_wp2
  have hz := Lib.hid (Am.zero (w.alloc (.cells #[.int .u64 (wd M 0 : Nat), .int .u64 (wd M 1 : Nat), .int .u64 (wd M 2 : Nat)] 51)))
  have ha := Lib.hid ((Am.new w M).alloc (.cells #[.int .u64 0, .int .u64 0, .int .u64 0] 51))
  go_loopw [6] (fun i wr => ∃ q : Nat, q ≤ n ∧ i = .int .i64 q ∧ Hid (Am wr w.heap.size (M * 10 ^ q)) ∧ Hid (Am wr (w.heap.size + 1) 0) ∧ Hid (Gr w wr)) (fun i _ => n - (intOf i).toNat)
  case atStart => exact ⟨0, by omega, rfl, Lib.hid (ha.out.of (by simp)), Lib.hid (by simpa using hz.out), Lib.hid (by repeat (first | (with_reducible exact Gr.refl _) | (with_reducible assumption) | (with_reducible refine Gr.alloc ?_ _) | (with_reducible refine Gr.drew ?_) | (with_reducible refine Gr.drewN ?_ _) | (with_reducible refine Gr.setCell ?_ (by simp <;> omega) _) | (with_reducible refine Gr.trans ?_ (by with_reducible assumption)) | exact Gr.refl _ | assumption | refine Gr.alloc ?_ _ | refine Gr.drew ?_ | refine Gr.drewN ?_ _ | refine Gr.setCell ?_ (by simp <;> omega) _ | refine Gr.trans ?_ (by assumption)))⟩
  case round =>
    obtain ⟨q, hq, rfl, hA, hZ, hG⟩ := hrel
    obtain ⟨c0, c1, c2⟩ := hA.out.cells
    obtain ⟨z0, z1, z2⟩ := hZ.out.cells
    obtain ⟨f0, f1, f2⟩ := hZ.out.frozen
    obtain ⟨g0, g1, g2⟩ := hA.out.frozen
    by_cases hlt : q < n
    · have hs1 : Sm (M * 10 ^ q * 10) := sm_le H.out (by rw [Nat.mul_assoc, ← Nat.pow_succ]; exact Nat.mul_le_mul_left _ (Nat.pow_le_pow_right (by omega) (by omega)))
      have hs0 : Sm (M * 10 ^ q) := sm_le hs1 (by omega)
      have hT := times10_any (M * 10 ^ q) hs1 hs0
      clear hs1 hs0 c0 c1 c2 z0 z1 z2 f0 f1 f2 g0 g1 g2
      obtain ⟨c0, c1, c2⟩ := hA.out.cells
      go_wp2_with (go_at_call 89; refine (hT _).mono ?_; rintro e w1 ⟨rfl, hb⟩; have HA := Lib.hid (hA.out.gr hb); have HZ := Lib.hid (hZ.out.gr hb); have HG := Lib.hid (Gr.trans hG.out hb); clear c0 c1 c2 hb; obtain ⟨c0, c1, c2⟩ := HA.out.cells; obtain ⟨g0, g1, g2⟩ := HA.out.frozen)
      go_roundw
      case rel =>
        refine ⟨q + 1, by omega, by go_num, Lib.hid ((HA.out.put (M * 10 ^ q * 10)).of (by rw [Nat.pow_succ, Nat.mul_assoc])), Lib.hid (((HZ.out.other _ _ (by simp)).other _ _ (by simp)).other _ _ (by simp)), Lib.hid (((HG.out.setCell (by simp) _).setCell (by simp) _).setCell (by simp) _)⟩
      case measure => simp [intOf]; omega
    · obtain rfl : q = n := by omega
      go_wp2
      refine bodyPost_ret (v := (.agg #[.int .u64 ((wd ((M * 10 ^ q)) 0 : Nat) : Int), .int .u64 ((wd ((M * 10 ^ q)) 1 : Nat) : Int), .int .u64 ((wd ((M * 10 ^ q)) 2 : Nat) : Int)])) ?_ rfl ⟨rfl, (((hG.out.setCell (by simp) _).setCell (by simp) _).setCell (by simp) _)⟩
      simp [results, Tryd.results68, go_sem, *]
end Go.Proofs.YtnaflaokhldfnaaDoor
namespace Go.Proofs.YtnaflaokhldfnaaDoor
set_option linter.unusedSimpArgs false
set_option linter.unusedVariables false
open Go.RowKit

/-- Block b holds the values vs, and may be written. -/
def Bx (w : World) (b : Nat) (t : TypeId) (vs : List Value) : Prop := ∃ c : Array Value, c.toList = vs ∧ w.heap[b]? = some (.cells c t (0, 0))
theorem Bx.lt {w : World} {b t vs} (h : Bx w b t vs) : b < w.heap.size := by
  obtain ⟨c, _, h⟩ := h
  rcases Nat.lt_or_ge b w.heap.size with g | g
  · exact g
  · rw [Array.getElem?_eq_none (by omega)] at h; simp at h
theorem Bx.cell {w : World} {b t vs} (h : Bx w b t vs) (i : Nat) {v : Value} (hv : vs[i]? = some v) : w.cell? ⟨b, i, none⟩ = some v := by
  obtain ⟨c, hc, h⟩ := h
  rw [cell_of_row w b i c t (0, 0) h, ← Array.getElem?_toList, hc, hv]
theorem Bx.frozen {w : World} {b t vs} (h : Bx w b t vs) (i : Nat) : w.frozen? ⟨b, i, none⟩ = false := by
  obtain ⟨c, _, h⟩ := h
  exact frozen_of_row w b i c t h
theorem Bx.set {w : World} {b t vs} (h : Bx w b t vs) (i : Nat) (x : Value) : Bx (w.setCell ⟨b, i, none⟩ x) b t (vs.set i x) := by
  obtain ⟨c, hc, h⟩ := h
  exact ⟨c.setIfInBounds i x, by rw [Array.toList_setIfInBounds, hc], heap_setCell_same w b i c t _ h⟩
theorem Bx.gr {a w : World} {b t vs} (h : Bx a b t vs) (g : Gr a w) : Bx w b t vs := by
  have hl := h.lt
  obtain ⟨c, hc, h⟩ := h
  exact ⟨c, hc, by rw [Below.block g b hl]; exact h⟩
theorem Bx.alloc {w : World} {b t vs} (h : Bx w b t vs) (o : Obj) : Bx (w.alloc o) b t vs := h.gr ((Gr.refl w).alloc o)
theorem Bx.drew {w : World} {b t vs} (h : Bx w b t vs) : Bx w.drew b t vs := h
theorem Bx.other {w : World} {b t vs} (h : Bx w b t vs) (p : Addr) (u : Value) (hp : b ≠ p.block) : Bx (w.setCell p u) b t vs := by
  obtain ⟨c, hc, h⟩ := h
  exact ⟨c, hc, by rw [Below.heap_setCell _ _ _ _ hp]; exact h⟩
theorem Bx.new (w : World) (t : TypeId) (c : Array Value) : Bx (w.alloc (.cells c t)) w.heap.size t c.toList :=
  ⟨c, rfl, by show (w.heap.push _)[w.heap.size]? = _; simp⟩
theorem Bx.is {w : World} {b t vs vs'} (h : Bx w b t vs) (e : vs = vs') : Bx w b t vs' := e ▸ h
theorem Bx.drewN {w : World} {b t vs} (h : Bx w b t vs) (n : Nat) : Bx (w.drewN n) b t vs := h
end Go.Proofs.YtnaflaokhldfnaaDoor
