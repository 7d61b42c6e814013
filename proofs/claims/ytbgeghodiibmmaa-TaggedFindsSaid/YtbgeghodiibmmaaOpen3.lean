/- A storage that came in. -/
import Derived.Test.YtbgeghodiibmmaaOpen
import Derived.Test.YtbgeghodiibmmaaTf
namespace Go.Proofs.Ytbgeghodiibmmaa
set_option linter.unusedSimpArgs false
set_option linter.unusedVariables false
open Go.ChangeShapes Go.WideShapes Go.ChangeAt Go.RowKit Go.Joins Go.Deep
theorem cells_st : Try.prog.cellsOf 40 = 2 := by kernel_rfl
theorem cells_bo : Try.prog.cellsOf 4 = 1 := by kernel_rfl
section
variable {H : Type} {enc : TypeId × Value → H} {w : World} {base : Nat} {held : Bool}
set_option maxRecDepth 100000 in
theorem open_st {r : Reach} {b0 : Nat} {v : Value} {d : DataW H} {p : List MemPlace} (hv : Value.okWide Try.prog w r b0 40 v) (h : DataW.Trod enc Try.prog w base (fun _ => true) held 40 v d p) :
    ∃ (x : ByteArray) (A : Option Addr) (n c : Nat) (bs : List Bool), v = .agg #[.string x, .slice A n c] ∧ Sv w A n c 1 (bv bs) ∧ x.size ≤ maxLen := by
  obtain ⟨c0, c1, y0, y1, m, rfl, -, -, g0, g1⟩ := open_agg2 Try.underlying40 (by kernel_rfl) cells_st hv h
  obtain ⟨x, e0, -, w0⟩ := DataW.trod_string Try.underlying9 g0
  simp at e0
  subst e0
  rcases open_bools Try.underlying38 Try.underlying4 cells_bo g1 with ⟨e1, -⟩ | ⟨a, len, cap, B, e1, -, hl, hm, -, hc⟩
  · simp at e1
    subst e1
    exact ⟨x, none, 0, 0, [], rfl, Sv.nil w 1, w0⟩
  · simp at e1
    subst e1
    refine ⟨x, some a, len, cap, (List.range len).map B, rfl, Sv.of_cells (by simp [bv]) (by omega) hl hm (fun j u hj => ?_), w0⟩
    have hjl : j < len := by
      rcases Nat.lt_or_ge j len with h | h
      · exact h
      · rw [List.getElem?_eq_none (by simpa [bv] using h)] at hj; cases hj
    simp [bv, hjl] at hj
    rw [hc j (by omega), hj]
end
end Go.Proofs.Ytbgeghodiibmmaa
