/- A slice of bools that came in, as 'Sv'. -/
import Derived.Test.YtljminmfldejnaaLift
import Derived.Test.YtljminmfldejnaaS
import Derived.Deep.Grids
namespace Go.Proofs.Ytljminmfldejnaa
set_option linter.unusedSimpArgs false
set_option linter.unusedVariables false
open Go.ChangeShapes Go.WideShapes Go.ChangeAt Go.RowKit Go.Joins Go.Deep

theorem addr_plain {w : World} {a : Addr} {v : Value} (h : w.cell? a = some v) : a = ⟨a.block, a.off, none⟩ := by
  obtain ⟨b, o, s⟩ := a
  cases s with
  | none => rfl
  | some k =>
    exfalso
    unfold World.cell? at h
    split at h <;> simp at h
/-- Cells behind an address, as a slice that is read. -/
theorem Sv.of_cells {w : World} {a : Addr} {n c size : Nat} {xs : List Value} (hl : xs.length = n * size) (hsz : 0 < size) (hc : n ≤ c) (hm : c ≤ maxLen) (h : ∀ j u, xs[j]? = some u → w.cell? (a.add j) = some u) : Sv w (some a) n c size xs := by
  refine ⟨hl, hc, hm, (fun e => by cases e), fun hn => ?_⟩
  have hpos : 0 < xs.length := by rw [hl]; exact Nat.mul_pos hn hsz
  have h0 := h 0 _ (List.getElem?_eq_getElem hpos)
  have e0 : a.add 0 = a := by simp [Addr.add]
  rw [e0] at h0
  have ha := addr_plain h0
  refine ⟨a.block, a.off, by rw [← ha], World.block_lt_of_cell? w _ h0, fun j hj => ?_⟩
  have hj' : j < xs.length := by omega
  have hcell := h j _ (List.getElem?_eq_getElem hj')
  rw [ha, Addr.add_lit] at hcell
  rw [hcell, List.getElem?_eq_getElem hj']
end Go.Proofs.Ytljminmfldejnaa
