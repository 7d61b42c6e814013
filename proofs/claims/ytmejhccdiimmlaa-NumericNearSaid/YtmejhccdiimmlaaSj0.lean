/- Boxes: blocks whose cells are known. -/
import Derived.Test.YtmejhccdiimmlaaSd
namespace Go.Proofs.Ytmejhccdiimmlaa
set_option linter.unusedSimpArgs false
set_option linter.unusedVariables false
open Go.RowKit

/-- Block b holds the values vs, and may be written. -/
def Bx (w : World) (b : Nat) (t : TypeId) (vs : List Value) : Prop := ∃ c : Array Value, c.toList = vs ∧ w.heap[b]? = some (.cells c t (0, 0))
theorem Bx.lt {w : World} {b t vs} (h : Bx w b t vs) : b < w.heap.size := by
  obtain ⟨c, _, h⟩ := h
  rcases Nat.lt_or_ge b w.heap.size with g | g
  · exact g
  · rw [Array.getElem?_eq_none (by omega)] at h; simp at h
theorem Bx.cell {w : World} {b t vs} (h : Bx w b t vs) (i : Nat) {v : Value} (hv : vs[i]? = some v) : w.cell? ⟨b, i, none⟩ = some v := by
  obtain ⟨c, hc, h⟩ := h
  rw [cell_of_row w b i c t (0, 0) h, ← Array.getElem?_toList, hc, hv]
theorem Bx.frozen {w : World} {b t vs} (h : Bx w b t vs) (i : Nat) : w.frozen? ⟨b, i, none⟩ = false := by
  obtain ⟨c, _, h⟩ := h
  exact frozen_of_row w b i c t h
theorem Bx.set {w : World} {b t vs} (h : Bx w b t vs) (i : Nat) (x : Value) : Bx (w.setCell ⟨b, i, none⟩ x) b t (vs.set i x) := by
  obtain ⟨c, hc, h⟩ := h
  exact ⟨c.setIfInBounds i x, by rw [Array.toList_setIfInBounds, hc], heap_setCell_same w b i c t _ h⟩
theorem Bx.gr {a w : World} {b t vs} (h : Bx a b t vs) (g : Gr a w) : Bx w b t vs := by
  have hl := h.lt
  obtain ⟨c, hc, h⟩ := h
  exact ⟨c, hc, by rw [Below.block g b hl]; exact h⟩
theorem Bx.alloc {w : World} {b t vs} (h : Bx w b t vs) (o : Obj) : Bx (w.alloc o) b t vs := h.gr ((Gr.refl w).alloc o)
theorem Bx.drew {w : World} {b t vs} (h : Bx w b t vs) : Bx w.drew b t vs := h
theorem Bx.other {w : World} {b t vs} (h : Bx w b t vs) (p : Addr) (u : Value) (hp : b ≠ p.block) : Bx (w.setCell p u) b t vs := by
  obtain ⟨c, hc, h⟩ := h
  exact ⟨c, hc, by rw [Below.heap_setCell _ _ _ _ hp]; exact h⟩
theorem Bx.new (w : World) (t : TypeId) (c : Array Value) : Bx (w.alloc (.cells c t)) w.heap.size t c.toList :=
  ⟨c, rfl, by show (w.heap.push _)[w.heap.size]? = _; simp⟩
theorem Bx.is {w : World} {b t vs vs'} (h : Bx w b t vs) (e : vs = vs') : Bx w b t vs' := e ▸ h
theorem Bx.drewN {w : World} {b t vs} (h : Bx w b t vs) (n : Nat) : Bx (w.drewN n) b t vs := h
end Go.Proofs.Ytmejhccdiimmlaa
