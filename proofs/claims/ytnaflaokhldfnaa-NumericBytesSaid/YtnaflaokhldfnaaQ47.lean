/- Texts of the walks, merged. -/
import Derived.Test.YtnaflaokhldfnaaQ34
namespace Go.Proofs.Ytnaflaokhldfnaa
set_option linter.unusedSimpArgs false
set_option linter.unusedVariables false
open Go.ChangeShapes Go.WideShapes Go.ChangeAt Go.RowKit Go.Joins Go.Deep

section
variable {H : Type} {enc : TypeId × Value → H} {w : World} {base : Nat} {spare : Nat → Bool} {held : Bool}
theorem under_opr : ∃ f0 f1 : Field, Try.prog.underlying 40 = some (.struct #[f0, f1]) ∧ f0.type = 23 ∧ f1.type = 9 ∧ f0.offset = 0 ∧ f1.offset = 3 := ⟨_, _, Try.underlying40, rfl, rfl, rfl, rfl⟩
theorem cells_opr : Try.prog.cellsOf 40 = 4 := by kernel_rfl
theorem cells_strq : Try.prog.cellsOf 9 = 1 := by kernel_rfl
set_option maxRecDepth 100000 in
theorem open_opr {r : Reach} {b0 : Nat} {v : Value} {d : DataW H} {p : List MemPlace} (hv : Value.okWide Try.prog w r b0 40 v) (h : DataW.Trod enc Try.prog w base spare held 40 v d p) :
    ∃ (k l s : Int) (x : ByteArray), v = .agg #[.int .i64 k, .int .i64 l, .int .i64 s, .string x] ∧ x.size ≤ maxLen := by
  obtain ⟨f0, f1, hs, t0, t1, o0, o1⟩ := under_opr
  obtain ⟨cs, rfl, hsz⟩ := okWide_struct hs hv
  obtain ⟨c0, c1, c2, c3, rfl⟩ := array4 (hsz.trans cells_opr)
  obtain ⟨fuel, hf⟩ := h
  obtain ⟨y0, y1, n, hx, _, h0, h1⟩ := trod_struct2 hs hf
  rw [t0, o0, cells_dtq] at h0
  rw [t1, o1, cells_strq] at h1
  have h0' : DataW.trod enc Try.prog w base spare held n 23 [c0, c1, c2] = some y0 := by simpa [Value.cells] using h0
  have h1' : DataW.trod enc Try.prog w base spare held n 9 [c3] = some y1 := by simpa [Value.cells] using h1
  obtain ⟨k, l, s, rfl, rfl, rfl⟩ := open_dt3 h0'
  obtain ⟨x, e3, -, wx⟩ := DataW.trod_string Try.underlying9 h1'
  simp at e3
  subst e3
  exact ⟨k, l, s, x, rfl, wx⟩
end
end Go.Proofs.Ytnaflaokhldfnaa
