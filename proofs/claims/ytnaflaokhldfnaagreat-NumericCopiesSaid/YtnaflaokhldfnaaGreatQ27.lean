/- Texts of the walks, merged. -/
import Derived.Test.YtnaflaokhldfnaaGreatRows
import Derived.OpenShut
import Derived.Lib.SmallJoins
import Derived.Deep.Strs
namespace Go.Proofs.YtnaflaokhldfnaaGreat
set_option linter.unusedSimpArgs false
set_option linter.unusedVariables false
open Go.ChangeShapes Go.WideShapes Go.ChangeAt Go.RowKit Go.Joins Go.Deep

section
variable {H : Type} {enc : TypeId × Value → H} {w : World} {base : Nat} {spare : Nat → Bool} {held : Bool}
theorem cells_intq : Tryz.prog.cellsOf 3 = 1 := by kernel_rfl
theorem cells_boolq : Tryz.prog.cellsOf 4 = 1 := by kernel_rfl
theorem cells_dtq : Tryz.prog.cellsOf 23 = 3 := by kernel_rfl
theorem array5 {cs : Array Value} (h : cs.size = 5) : ∃ a b c d e, cs = #[a, b, c, d, e] := by
  obtain ⟨l⟩ := cs
  match l, h with
  | [a, b, c, d, e], _ => exact ⟨a, b, c, d, e, rfl⟩
set_option maxRecDepth 100000 in
theorem open_dt3 {n : Nat} {c0 c1 c2 : Value} {z : DataW H × List MemPlace} (h : DataW.trod enc Tryz.prog w base spare held n 23 [c0, c1, c2] = some z) :
    ∃ a b c : Int, c0 = .int .i64 a ∧ c1 = .int .i64 b ∧ c2 = .int .i64 c := by
  obtain ⟨y0, y1, y2, m, hx, _, h0, h1, h2⟩ := trod_struct3 Tryz.underlying23 h
  have h0 : DataW.trod enc Tryz.prog w base spare held m 3 [c0] = some y0 := by simpa [cells_intq] using h0
  have h1 : DataW.trod enc Tryz.prog w base spare held m 3 [c1] = some y1 := by simpa [cells_intq] using h1
  have h2 : DataW.trod enc Tryz.prog w base spare held m 3 [c2] = some y2 := by simpa [cells_intq] using h2
  obtain ⟨a, e0, rfl, w0⟩ := DataW.trod_int Tryz.underlying3 h0
  obtain ⟨b, e1, rfl, w1⟩ := DataW.trod_int Tryz.underlying3 h1
  obtain ⟨c, e2, rfl, w2⟩ := DataW.trod_int Tryz.underlying3 h2
  simp at e0 e1 e2
  exact ⟨a, b, c, e0, e1, e2⟩
end
end Go.Proofs.YtnaflaokhldfnaaGreat
namespace Go.Proofs.YtnaflaokhldfnaaGreat
set_option linter.unusedSimpArgs false
set_option linter.unusedVariables false
open Go.ChangeShapes Go.WideShapes Go.ChangeAt Go.RowKit Go.Joins Go.Deep

section
variable {H : Type} {enc : TypeId × Value → H} {w : World} {base : Nat} {spare : Nat → Bool} {held : Bool}
theorem under_opr : ∃ f0 f1 : Field, Tryz.prog.underlying 25 = some (.struct #[f0, f1]) ∧ f0.type = 23 ∧ f1.type = 9 ∧ f0.offset = 0 ∧ f1.offset = 3 := ⟨_, _, Tryz.underlying25, rfl, rfl, rfl, rfl⟩
theorem cells_opr : Tryz.prog.cellsOf 25 = 4 := by kernel_rfl
theorem cells_strq : Tryz.prog.cellsOf 9 = 1 := by kernel_rfl
set_option maxRecDepth 100000 in
theorem open_opr {r : Reach} {b0 : Nat} {v : Value} {d : DataW H} {p : List MemPlace} (hv : Value.okWide Tryz.prog w r b0 25 v) (h : DataW.Trod enc Tryz.prog w base spare held 25 v d p) :
    ∃ (k l s : Int) (x : ByteArray), v = .agg #[.int .i64 k, .int .i64 l, .int .i64 s, .string x] ∧ x.size ≤ maxLen := by
  obtain ⟨f0, f1, hs, t0, t1, o0, o1⟩ := under_opr
  obtain ⟨cs, rfl, hsz⟩ := okWide_struct hs hv
  obtain ⟨c0, c1, c2, c3, rfl⟩ := array4 (hsz.trans cells_opr)
  obtain ⟨fuel, hf⟩ := h
  obtain ⟨y0, y1, n, hx, _, h0, h1⟩ := trod_struct2 hs hf
  rw [t0, o0, cells_dtq] at h0
  rw [t1, o1, cells_strq] at h1
  have h0' : DataW.trod enc Tryz.prog w base spare held n 23 [c0, c1, c2] = some y0 := by simpa [Value.cells] using h0
  have h1' : DataW.trod enc Tryz.prog w base spare held n 9 [c3] = some y1 := by simpa [Value.cells] using h1
  obtain ⟨k, l, s, rfl, rfl, rfl⟩ := open_dt3 h0'
  obtain ⟨x, e3, -, wx⟩ := DataW.trod_string Tryz.underlying9 h1'
  simp at e3
  subst e3
  exact ⟨k, l, s, x, rfl, wx⟩
end
end Go.Proofs.YtnaflaokhldfnaaGreat
