/- A pointer that came in. -/
import Derived.Test.YtbgeghodiibmmaaOpen
import Derived.Deep.Strs
namespace Go.Proofs.Ytbgeghodiibmmaa
set_option linter.unusedSimpArgs false
set_option linter.unusedVariables false
open Go.ChangeShapes Go.WideShapes Go.ChangeAt Go.RowKit Go.Joins Go.Deep
theorem cells_ptr : Try.prog.cellsOf 25 = 4 := by kernel_rfl
theorem cells_adr : Try.prog.cellsOf 23 = 2 := by kernel_rfl
theorem cells_i : Try.prog.cellsOf 3 = 1 := by kernel_rfl
theorem under_ptr : ∃ f0 f1 f2 : Field, Try.prog.underlying 25 = some (.struct #[f0, f1, f2]) ∧ (f0.type = 3 ∧ f1.type = 23 ∧ f2.type = 3) ∧ f0.offset = 0 ∧ f1.offset = 1 ∧ f2.offset = 3 := ⟨_, _, _, Try.underlying25, ⟨rfl, rfl, rfl⟩, rfl, rfl, rfl⟩
theorem under_adr : ∃ f0 f1 : Field, Try.prog.underlying 23 = some (.struct #[f0, f1]) ∧ f0.type = 3 ∧ f1.type = 3 ∧ f0.offset = 0 ∧ f1.offset = 1 := ⟨_, _, Try.underlying23, rfl, rfl, rfl, rfl⟩
section
variable {H : Type} {enc : TypeId × Value → H} {w : World} {base : Nat} {spare : Nat → Bool} {held : Bool}
set_option maxRecDepth 100000 in
theorem open_adr {n : Nat} {c0 c1 : Value} {z : DataW H × List MemPlace} (h : DataW.trod enc Try.prog w base spare held n 23 [c0, c1] = some z) :
    ∃ a b : Int, c0 = .int .i64 a ∧ c1 = .int .i64 b ∧ (Lit.int .i64 a).wf = true ∧ (Lit.int .i64 b).wf = true := by
  obtain ⟨f0, f1, hs, t0, t1, o0, o1⟩ := under_adr
  obtain ⟨y0, y1, m, hx, _, h0, h1⟩ := trod_struct2 hs h
  rw [t0, o0, cells_i] at h0
  rw [t1, o1, cells_i] at h1
  have h0 : DataW.trod enc Try.prog w base spare held m 3 [c0] = some y0 := by simpa using h0
  have h1 : DataW.trod enc Try.prog w base spare held m 3 [c1] = some y1 := by simpa using h1
  obtain ⟨a, e0, -, w0⟩ := DataW.trod_int Try.underlying3 h0
  obtain ⟨b, e1, -, w1⟩ := DataW.trod_int Try.underlying3 h1
  simp at e0 e1
  exact ⟨a, b, e0, e1, w0, w1⟩
set_option maxRecDepth 100000 in
theorem open_pt {r : Reach} {b0 : Nat} {v : Value} {d : DataW H} {p : List MemPlace} (hv : Value.okWide Try.prog w r b0 25 v) (h : DataW.Trod enc Try.prog w base spare held 25 v d p) :
    ∃ k g o u : Int, v = .agg #[.int .i64 k, .int .i64 g, .int .i64 o, .int .i64 u] ∧ (Lit.int .i64 k).wf = true ∧ (Lit.int .i64 g).wf = true ∧ (Lit.int .i64 o).wf = true ∧ (Lit.int .i64 u).wf = true := by
  obtain ⟨f0, f1, f2, hs, ⟨t0, t1, t2⟩, o0, o1, o2⟩ := under_ptr
  obtain ⟨cs, rfl, hsz⟩ := okWide_struct hs hv
  obtain ⟨c0, c1, c2, c3, rfl⟩ := array4 (hsz.trans cells_ptr)
  obtain ⟨fuel, hf⟩ := h
  obtain ⟨y0, y1, y2, n, hx, _, h0, h1, h2⟩ := trod_struct3 hs hf
  rw [t0, o0, cells_i] at h0
  rw [t1, o1, cells_adr] at h1
  rw [t2, o2, cells_i] at h2
  have h0 : DataW.trod enc Try.prog w base spare held n 3 [c0] = some y0 := by simpa [Value.cells] using h0
  have h2 : DataW.trod enc Try.prog w base spare held n 3 [c3] = some y2 := by simpa [Value.cells] using h2
  obtain ⟨a, e0, -, w0⟩ := DataW.trod_int Try.underlying3 h0
  obtain ⟨b, e2, -, w2⟩ := DataW.trod_int Try.underlying3 h2
  obtain ⟨c, d', e3, e4, w3, w4⟩ := open_adr (by simpa [Value.cells] using h1)
  simp at e0 e2
  subst e0 e2 e3 e4
  exact ⟨a, c, d', b, rfl, w0, w3, w4, w2⟩
end
end Go.Proofs.Ytbgeghodiibmmaa
