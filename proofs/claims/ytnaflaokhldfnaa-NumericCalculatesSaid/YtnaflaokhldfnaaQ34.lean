/- Texts of the walks, merged. -/
import Derived.Test.YtnaflaokhldfnaaRows
import Derived.OpenShut
import Derived.Lib.SmallJoins
import Derived.Deep.Strs
namespace Go.Proofs.Ytnaflaokhldfnaa
set_option linter.unusedSimpArgs false
set_option linter.unusedVariables false
open Go.ChangeShapes Go.WideShapes Go.ChangeAt Go.RowKit Go.Joins Go.Deep

section
variable {H : Type} {enc : TypeId × Value → H} {w : World} {base : Nat} {spare : Nat → Bool} {held : Bool}
theorem under_req : ∃ f0 f1 f2 : Field, Try.prog.underlying 25 = some (.struct #[f0, f1, f2]) ∧ f0.type = 3 ∧ f1.type = 23 ∧ f2.type = 4 ∧ f0.offset = 0 ∧ f1.offset = 1 ∧ f2.offset = 4 := ⟨_, _, _, Try.underlying25, rfl, rfl, rfl, rfl, rfl, rfl⟩
theorem cells_req : Try.prog.cellsOf 25 = 5 := by kernel_rfl
theorem cells_intq : Try.prog.cellsOf 3 = 1 := by kernel_rfl
theorem cells_boolq : Try.prog.cellsOf 4 = 1 := by kernel_rfl
theorem cells_dtq : Try.prog.cellsOf 23 = 3 := by kernel_rfl
theorem array5 {cs : Array Value} (h : cs.size = 5) : ∃ a b c d e, cs = #[a, b, c, d, e] := by
  obtain ⟨l⟩ := cs
  match l, h with
  | [a, b, c, d, e], _ => exact ⟨a, b, c, d, e, rfl⟩
set_option maxRecDepth 100000 in
theorem open_dt3 {n : Nat} {c0 c1 c2 : Value} {z : DataW H × List MemPlace} (h : DataW.trod enc Try.prog w base spare held n 23 [c0, c1, c2] = some z) :
    ∃ a b c : Int, c0 = .int .i64 a ∧ c1 = .int .i64 b ∧ c2 = .int .i64 c := by
  obtain ⟨y0, y1, y2, m, hx, _, h0, h1, h2⟩ := trod_struct3 Try.underlying23 h
  have h0 : DataW.trod enc Try.prog w base spare held m 3 [c0] = some y0 := by simpa [cells_intq] using h0
  have h1 : DataW.trod enc Try.prog w base spare held m 3 [c1] = some y1 := by simpa [cells_intq] using h1
  have h2 : DataW.trod enc Try.prog w base spare held m 3 [c2] = some y2 := by simpa [cells_intq] using h2
  obtain ⟨a, e0, rfl, w0⟩ := DataW.trod_int Try.underlying3 h0
  obtain ⟨b, e1, rfl, w1⟩ := DataW.trod_int Try.underlying3 h1
  obtain ⟨c, e2, rfl, w2⟩ := DataW.trod_int Try.underlying3 h2
  simp at e0 e1 e2
  exact ⟨a, b, c, e0, e1, e2⟩
set_option maxRecDepth 100000 in
theorem open_req {r : Reach} {b0 : Nat} {v : Value} {d : DataW H} {p : List MemPlace} (hv : Value.okWide Try.prog w r b0 25 v) (h : DataW.Trod enc Try.prog w base spare held 25 v d p) :
    ∃ (op k l sc : Int) (half : Bool), v = .agg #[.int .i64 op, .int .i64 k, .int .i64 l, .int .i64 sc, .bool half] := by
  obtain ⟨f0, f1, f2, hs, t0, t1, t2, o0, o1, o2⟩ := under_req
  obtain ⟨cs, rfl, hsz⟩ := okWide_struct hs hv
  obtain ⟨c0, c1, c2, c3, c4, rfl⟩ := array5 (hsz.trans cells_req)
  obtain ⟨fuel, hf⟩ := h
  obtain ⟨y0, y1, y2, n, hx, _, h0, h1, h2⟩ := trod_struct3 hs hf
  rw [t0, o0, cells_intq] at h0
  rw [t1, o1, cells_dtq] at h1
  rw [t2, o2, cells_boolq] at h2
  have h0' : DataW.trod enc Try.prog w base spare held n 3 [c0] = some y0 := by simpa [Value.cells] using h0
  have h1' : DataW.trod enc Try.prog w base spare held n 23 [c1, c2, c3] = some y1 := by simpa [Value.cells] using h1
  have h2' : DataW.trod enc Try.prog w base spare held n 4 [c4] = some y2 := by simpa [Value.cells] using h2
  obtain ⟨op, e0, rfl, w0⟩ := DataW.trod_int Try.underlying3 h0'
  obtain ⟨k, l, sc, rfl, rfl, rfl⟩ := open_dt3 h1'
  obtain ⟨half, e4, -⟩ := DataW.trod_bool Try.underlying4 h2'
  simp at e0 e4
  subst e0 e4
  exact ⟨op, k, l, sc, half, rfl⟩
end
end Go.Proofs.Ytnaflaokhldfnaa
