/- Cuts of strings; sums of strings; a string with a part replaced. -/
import Derived.Test.YtljminmfldejnaaG2
namespace Go.Proofs.Ytljminmfldejnaa
set_option linter.unusedSimpArgs false
set_option linter.unusedVariables false
open Go.RowKit
set_option maxRecDepth 100000 in
/-- s[:j] -/
theorem cut_j (s : ByteArray) (j : Int) (b : Nat) (hb : j = b) (h2 : b ≤ s.size) (w : World) :
    (Instr.slice 9 (.string s) none (some (.int .i64 j)) none).run Try.prog w = .ok (.string (s.extract 0 b)) w := by
  rw [run_slice_string_h (P := Try.prog) w 9 s Try.underlying9 .i64 j (by omega) (by omega), show j.toNat = b by omega]
set_option maxRecDepth 100000 in
/-- s[i:] -/
theorem cut_i (s : ByteArray) (i : Int) (a : Nat) (ha : i = a) (h2 : a ≤ s.size) (w : World) :
    (Instr.slice 9 (.string s) (some (.int .i64 i)) none none).run Try.prog w = .ok (.string (s.extract a s.size)) w := by
  rw [run_slice_string_l (P := Try.prog) w 9 s Try.underlying9 .i64 i (by omega) (by omega), show i.toNat = a by omega]
theorem add_ss (s t : ByteArray) (h : s.size + t.size ≤ 9223372036854775807) (w : World) : (Op.stringOp .add s t).run Try.prog w = .ok (.string (s ++ t)) w := run_string_add_sum w s t h
/-- A string with other bytes from a place on. -/
def pS (x : ByteArray) (a : Nat) (d : ByteArray) : ByteArray := x.extract 0 a ++ d ++ x.extract (a + d.size) x.size
theorem pS_size {x : ByteArray} {a : Nat} {d : ByteArray} (h : a + d.size ≤ x.size) : (pS x a d).size = x.size := by
  unfold pS
  simp only [ByteArray.size_append, ByteArray.size_extract]
  omega
theorem Gr.and_below {a b c : World} {B : Nat} (h : Gr a b) (k : Below B b c) (hB : a.heap.size ≤ B) : Gr a c := Below.trans h (k.mono hB)
/-- A slice that lay in an older world is kept by a store into a block that is new since. -/
theorem Wv.setNew {a w : World} {B : Nat} {A : Option Addr} {n c size : Nat} {xs : List Value} (h : Wv a B A n c size xs) (g : Gr a w) {p : Addr} (hp : a.heap.size ≤ p.block) (u : Value) : Wv (w.setCell p u) B A n c size xs :=
  (h.gr g).setFar u fun x e hn => by
    obtain ⟨k, e', _, hl, _⟩ := h.2 hn
    rw [e] at e'
    simp only [Option.some.injEq] at e'
    subst e'
    show k ≠ p.block
    omega
end Go.Proofs.Ytljminmfldejnaa
