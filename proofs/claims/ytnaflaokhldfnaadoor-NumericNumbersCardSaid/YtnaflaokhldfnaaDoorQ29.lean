/- Texts of the walks, merged. -/
import Derived.Test.YtnaflaokhldfnaaDoorRows
import Derived.OpenShut
import Derived.Lib.SmallJoins
import Derived.Deep.Strs
namespace Go.Proofs.YtnaflaokhldfnaaDoor
set_option linter.unusedSimpArgs false
set_option linter.unusedVariables false
open Go.ChangeShapes Go.WideShapes Go.ChangeAt Go.RowKit Go.Joins Go.Deep

section
variable {H : Type} {enc : TypeId × Value → H} {w : World} {base : Nat} {spare : Nat → Bool} {held : Bool}
theorem cells_intq : Tryd.prog.cellsOf 3 = 1 := by kernel_rfl
theorem cells_boolq : Tryd.prog.cellsOf 4 = 1 := by kernel_rfl
theorem cells_dtq : Tryd.prog.cellsOf 37 = 3 := by kernel_rfl
theorem array5 {cs : Array Value} (h : cs.size = 5) : ∃ a b c d e, cs = #[a, b, c, d, e] := by
  obtain ⟨l⟩ := cs
  match l, h with
  | [a, b, c, d, e], _ => exact ⟨a, b, c, d, e, rfl⟩
set_option maxRecDepth 100000 in
theorem open_dt3 {n : Nat} {c0 c1 c2 : Value} {z : DataW H × List MemPlace} (h : DataW.trod enc Tryd.prog w base spare held n 37 [c0, c1, c2] = some z) :
    ∃ a b c : Int, c0 = .int .i64 a ∧ c1 = .int .i64 b ∧ c2 = .int .i64 c := by
  obtain ⟨y0, y1, y2, m, hx, _, h0, h1, h2⟩ := trod_struct3 Tryd.underlying37 h
  have h0 : DataW.trod enc Tryd.prog w base spare held m 3 [c0] = some y0 := by simpa [cells_intq] using h0
  have h1 : DataW.trod enc Tryd.prog w base spare held m 3 [c1] = some y1 := by simpa [cells_intq] using h1
  have h2 : DataW.trod enc Tryd.prog w base spare held m 3 [c2] = some y2 := by simpa [cells_intq] using h2
  obtain ⟨a, e0, rfl, w0⟩ := DataW.trod_int Tryd.underlying3 h0
  obtain ⟨b, e1, rfl, w1⟩ := DataW.trod_int Tryd.underlying3 h1
  obtain ⟨c, e2, rfl, w2⟩ := DataW.trod_int Tryd.underlying3 h2
  simp at e0 e1 e2
  exact ⟨a, b, c, e0, e1, e2⟩
end
end Go.Proofs.YtnaflaokhldfnaaDoor
namespace Go.Proofs.YtnaflaokhldfnaaDoor
set_option linter.unusedSimpArgs false
set_option linter.unusedVariables false
open Go.ChangeShapes Go.WideShapes Go.ChangeAt Go.RowKit Go.Joins Go.Deep

section
variable {H : Type} {enc : TypeId × Value → H} {w : World} {base : Nat} {spare : Nat → Bool} {held : Bool}
theorem cells_nuq : Tryd.prog.cellsOf 23 = 2 := by kernel_rfl
theorem arrN2 {cs : Array Value} (h : cs.size = 2) : ∃ a b, cs = #[a, b] := by
  obtain ⟨l⟩ := cs
  match l, h with
  | [a, b], _ => exact ⟨a, b, rfl⟩
set_option maxRecDepth 100000 in
theorem open_nu {r : Reach} {b0 : Nat} {v : Value} {d : DataW H} {p : List MemPlace} (hv : Value.okWide Tryd.prog w r b0 23 v) (h : DataW.Trod enc Tryd.prog w base spare held 23 v d p) :
    ∃ n s : Int, v = .agg #[.int .i64 n, .int .i64 s] := by
  obtain ⟨cs, rfl, hsz⟩ := okWide_struct Tryd.underlying23 hv
  obtain ⟨c0, c1, rfl⟩ := arrN2 (hsz.trans cells_nuq)
  obtain ⟨fuel, hf⟩ := h
  have hf' : DataW.trod enc Tryd.prog w base spare held fuel 23 [c0, c1] = some (d, p) := by simpa [Value.cells] using hf
  obtain ⟨y0, y1, m, hx, _, h0, h1⟩ := trod_struct2 Tryd.underlying23 hf'
  have h0 : DataW.trod enc Tryd.prog w base spare held m 3 [c0] = some y0 := by simpa [cells_intq] using h0
  have h1 : DataW.trod enc Tryd.prog w base spare held m 3 [c1] = some y1 := by simpa [cells_intq] using h1
  obtain ⟨a, e0, rfl, w0⟩ := DataW.trod_int Tryd.underlying3 h0
  obtain ⟨b, e1, rfl, w1⟩ := DataW.trod_int Tryd.underlying3 h1
  simp at e0 e1
  subst e0 e1
  exact ⟨a, b, rfl⟩
theorem arrN3 {cs : Array Value} (h : cs.size = 3) : ∃ a b c, cs = #[a, b, c] := by
  obtain ⟨l⟩ := cs
  match l, h with
  | [a, b, c], _ => exact ⟨a, b, c, rfl⟩
set_option maxRecDepth 100000 in
theorem open_dtv {r : Reach} {b0 : Nat} {v : Value} {d : DataW H} {p : List MemPlace} (hv : Value.okWide Tryd.prog w r b0 37 v) (h : DataW.Trod enc Tryd.prog w base spare held 37 v d p) :
    ∃ k l s : Int, v = .agg #[.int .i64 k, .int .i64 l, .int .i64 s] := by
  obtain ⟨cs, rfl, hsz⟩ := okWide_struct Tryd.underlying37 hv
  obtain ⟨c0, c1, c2, rfl⟩ := arrN3 (hsz.trans cells_dtq)
  obtain ⟨fuel, hf⟩ := h
  have hf' : DataW.trod enc Tryd.prog w base spare held fuel 37 [c0, c1, c2] = some (d, p) := by simpa [Value.cells] using hf
  obtain ⟨a, b, c, rfl, rfl, rfl⟩ := open_dt3 hf'
  exact ⟨a, b, c, rfl⟩
end
end Go.Proofs.YtnaflaokhldfnaaDoor
