/- More small equations. -/
import Derived.Test.YtljminmfldejnaaS
namespace Go.Proofs.Ytljminmfldejnaa
set_option linter.unusedSimpArgs false
set_option linter.unusedVariables false
open Go.RowKit
set_option maxRecDepth 100000 in
/-- s[i:j] -/
theorem cut_ij (s : ByteArray) (i j : Int) (a b : Nat) (ha : i = a) (hb : j = b) (h1 : a ≤ b) (h2 : b ≤ s.size) (w : World) :
    (Instr.slice 9 (.string s) (some (.int .i64 i)) (some (.int .i64 j)) none).run Try.prog w = .ok (.string (s.extract a b)) w := by
  have h := run_slice_string (P := Try.prog) w 9 s .i64 .i64 i j Try.underlying9 (by omega) (by omega) (by omega)
  rw [h, show i.toNat = a by omega, show j.toNat = b by omega]
theorem Wv.setLow {w : World} {B : Nat} {A : Option Addr} {n c size : Nat} {xs : List Value} (h : Wv w B A n c size xs) {p : Addr} (hp : p.block < B) (u : Value) : Wv (w.setCell p u) B A n c size xs :=
  h.setFar u fun x e hn => by
    obtain ⟨g, e', hb, _⟩ := h.2 hn
    rw [e] at e'
    simp only [Option.some.injEq] at e'
    subst e'
    show g ≠ p.block
    omega
theorem Wv.drew {w : World} {B : Nat} {A : Option Addr} {n c size : Nat} {xs : List Value} (h : Wv w B A n c size xs) : Wv w.drew B A n c size xs := h
end Go.Proofs.Ytljminmfldejnaa
