/- Walks: whole numbers of three words: timesPower, compare, length. -/
import Derived.Test.YtmejhccdiimmlaaSc
namespace Go.Proofs.Ytmejhccdiimmlaa
set_option linter.unusedSimpArgs false
set_option linter.unusedVariables false
open Go.RowKit

/-- Block b holds the three words of a number. -/
def Am (w : World) (b : Nat) (N : Nat) : Prop := Arr w b .u64 103 [(wd N 0 : Nat), (wd N 1 : Nat), (wd N 2 : Nat)]
theorem Am.new (w : World) (N : Nat) : Am (w.alloc (.cells #[.int .u64 (wd N 0 : Nat), .int .u64 (wd N 1 : Nat), .int .u64 (wd N 2 : Nat)] 103)) w.heap.size N := Arr.new w _ _ rfl
theorem Am.zero (w : World) : Am (w.alloc (.cells #[.int .u64 0, .int .u64 0, .int .u64 0] 103)) w.heap.size 0 := Arr.new w _ _ (by simp [wd])
theorem Am.cells {w : World} {b N : Nat} (h : Am w b N) : w.cell? ⟨b, 0, none⟩ = some (.int .u64 (wd N 0 : Nat)) ∧ w.cell? ⟨b, 1, none⟩ = some (.int .u64 (wd N 1 : Nat)) ∧ w.cell? ⟨b, 2, none⟩ = some (.int .u64 (wd N 2 : Nat)) :=
  ⟨Arr.cell h 0 (by simp), Arr.cell h 1 (by simp), Arr.cell h 2 (by simp)⟩
theorem Am.frozen {w : World} {b N : Nat} (h : Am w b N) : w.frozen? ⟨b, 0, none⟩ = false ∧ w.frozen? ⟨b, 1, none⟩ = false ∧ w.frozen? ⟨b, 2, none⟩ = false :=
  ⟨Arr.frozen h 0, Arr.frozen h 1, Arr.frozen h 2⟩
theorem Am.gr {w w' : World} {b N : Nat} (h : Am w b N) (g : Gr w w') : Am w' b N := Arr.gr h g
theorem Am.alloc {w : World} {b N : Nat} (h : Am w b N) (o : Obj) : Am (w.alloc o) b N := Arr.alloc h o
theorem Am.drew {w : World} {b N : Nat} (h : Am w b N) : Am w.drew b N := h
theorem Am.lt {w : World} {b N : Nat} (h : Am w b N) : b < w.heap.size := Arr.lt h
theorem Am.put {w : World} {b N : Nat} (h : Am w b N) (K : Nat) :
    Am (((w.setCell ⟨b, 0, none⟩ (.int .u64 (wd K 0 : Nat))).setCell ⟨b, 1, none⟩ (.int .u64 (wd K 1 : Nat))).setCell ⟨b, 2, none⟩ (.int .u64 (wd K 2 : Nat))) b K :=
  ((Arr.set h 0 (wd K 0 : Nat)).set 1 (wd K 1 : Nat)).set 2 (wd K 2 : Nat)
theorem Am.other {w : World} {b N : Nat} (h : Am w b N) (p : Addr) (u : Value) (hp : b ≠ p.block) : Am (w.setCell p u) b N := Arr.set_other h p u hp
theorem Am.of {w : World} {b N K : Nat} (h : Am w b N) (e : N = K) : Am w b K := e ▸ h

theorem times10_any (M : Nat) (h : Sm (M * 10)) (hm : Sm M) (w : World) :
    Calls Try.prog 136 #[(.agg #[.int .u64 ((wd (M) 0 : Nat) : Int), .int .u64 ((wd (M) 1 : Nat) : Int), .int .u64 ((wd (M) 2 : Nat) : Int)]), .int .u64 10] w fun e w' => e = .returned (.agg #[.int .u64 ((wd ((M * 10)) 0 : Nat) : Int), .int .u64 ((wd ((M * 10)) 1 : Nat) : Int), .int .u64 ((wd ((M * 10)) 2 : Nat) : Int)]) ∧ Gr w w' :=
  timesWord_any M 10 h hm (by omega) w

set_option maxHeartbeats 1000000 in
theorem timesPower_any (M n : Nat) (h : Sm (M * 10 ^ n)) (hn : n ≤ 100) (w : World) :
    Calls Try.prog 104 #[(.agg #[.int .u64 ((wd (M) 0 : Nat) : Int), .int .u64 ((wd (M) 1 : Nat) : Int), .int .u64 ((wd (M) 2 : Nat) : Int)]), .int .i64 (n : Int)] w fun e w' => e = .returned (.agg #[.int .u64 ((wd ((M * 10 ^ n)) 0 : Nat) : Int), .int .u64 ((wd ((M * 10 ^ n)) 1 : Nat) : Int), .int .u64 ((wd ((M * 10 ^ n)) 2 : Nat) : Int)]) ∧ Gr w w' := by
  have H := Lib.hid h
  clear h
  go_enter Try.func104, Try.ntmps104
  go_wp2
  have hz := Lib.hid (Am.zero (w.alloc (.cells #[.int .u64 (wd M 0 : Nat), .int .u64 (wd M 1 : Nat), .int .u64 (wd M 2 : Nat)] 103)))
  have ha := Lib.hid ((Am.new w M).alloc (.cells #[.int .u64 0, .int .u64 0, .int .u64 0] 103))
  go_loopw [6] (fun i wr => ∃ q : Nat, q ≤ n ∧ i = .int .i64 q ∧ Hid (Am wr w.heap.size (M * 10 ^ q)) ∧ Hid (Am wr (w.heap.size + 1) 0) ∧ Hid (Gr w wr)) (fun i _ => n - (intOf i).toNat)
  case atStart => exact ⟨0, by omega, rfl, Lib.hid (ha.out.of (by simp)), Lib.hid (by simpa using hz.out), Lib.hid (by repeat (first | exact Gr.refl _ | assumption | refine Gr.alloc ?_ _ | refine Gr.drew ?_ | refine Gr.drewN ?_ _ | refine Gr.setCell ?_ (by simp <;> omega) _ | refine Gr.trans ?_ (by assumption)))⟩
  case round =>
    obtain ⟨q, hq, rfl, hA, hZ, hG⟩ := hrel
    obtain ⟨c0, c1, c2⟩ := hA.out.cells
    obtain ⟨z0, z1, z2⟩ := hZ.out.cells
    obtain ⟨f0, f1, f2⟩ := hZ.out.frozen
    obtain ⟨g0, g1, g2⟩ := hA.out.frozen
    by_cases hlt : q < n
    · have hs1 : Sm (M * 10 ^ q * 10) := sm_le H.out (by rw [Nat.mul_assoc, ← Nat.pow_succ]; exact Nat.mul_le_mul_left _ (Nat.pow_le_pow_right (by omega) (by omega)))
      have hs0 : Sm (M * 10 ^ q) := sm_le hs1 (by omega)
      have hT := times10_any (M * 10 ^ q) hs1 hs0
      clear hs1 hs0 c0 c1 c2 z0 z1 z2 f0 f1 f2 g0 g1 g2
      obtain ⟨c0, c1, c2⟩ := hA.out.cells
      go_wp2_with (go_at_call 136; refine (hT _).mono ?_; rintro e w1 ⟨rfl, hb⟩; have HA := Lib.hid (hA.out.gr hb); have HZ := Lib.hid (hZ.out.gr hb); have HG := Lib.hid (Gr.trans hG.out hb); clear c0 c1 c2 hb; obtain ⟨c0, c1, c2⟩ := HA.out.cells; obtain ⟨g0, g1, g2⟩ := HA.out.frozen)
      go_roundw
      case rel =>
        refine ⟨q + 1, by omega, by go_num, Lib.hid ((HA.out.put (M * 10 ^ q * 10)).of (by rw [Nat.pow_succ, Nat.mul_assoc])), Lib.hid (((HZ.out.other _ _ (by simp)).other _ _ (by simp)).other _ _ (by simp)), Lib.hid (((HG.out.setCell (by simp) _).setCell (by simp) _).setCell (by simp) _)⟩
      case measure => simp [intOf]; omega
    · obtain rfl : q = n := by omega
      go_wp2
      refine bodyPost_ret (v := (.agg #[.int .u64 ((wd ((M * 10 ^ q)) 0 : Nat) : Int), .int .u64 ((wd ((M * 10 ^ q)) 1 : Nat) : Int), .int .u64 ((wd ((M * 10 ^ q)) 2 : Nat) : Int)])) ?_ rfl ⟨rfl, (((hG.out.setCell (by simp) _).setCell (by simp) _).setCell (by simp) _)⟩
      simp [results, Try.results104, go_sem, *]
end Go.Proofs.Ytmejhccdiimmlaa
