/- Texts of the walks, merged. -/
import Derived.Test.YtnaflaokhldfnaaRows
import Derived.OpenShut
import Derived.Lib.SmallJoins
namespace Go.Proofs.Ytnaflaokhldfnaa
set_option linter.unusedSimpArgs false
set_option linter.unusedVariables false
open Go.ChangeShapes Go.WideShapes Go.ChangeAt Go.RowKit Go.Joins Go.Deep

section
variable {H : Type} {enc : TypeId × Value → H} {w : World} {base : Nat} {spare : Nat → Bool} {held : Bool}
theorem under_pair : ∃ f0 f1 : Field, Try.prog.underlying 29 = some (.struct #[f0, f1]) ∧ f0.type = 27 ∧ f1.type = 27 ∧ f0.offset = 0 ∧ f1.offset = 2 := ⟨_, _, Try.underlying29, rfl, rfl, rfl, rfl⟩
theorem cells_pair : Try.prog.cellsOf 29 = 4 := by kernel_rfl
theorem cells_int : Try.prog.cellsOf 3 = 1 := by kernel_rfl
theorem cells_num : Try.prog.cellsOf 27 = 2 := by kernel_rfl

set_option maxRecDepth 100000 in
theorem open_num {n : Nat} {c0 c1 : Value} {z : DataW H × List MemPlace} (h : DataW.trod enc Try.prog w base spare held n 27 [c0, c1] = some z) :
    ∃ a b : Int, c0 = .int .i64 a ∧ c1 = .int .i64 b ∧ z = (.agg [.lit (.int .i64 a), .lit (.int .i64 b)], []) ∧ (Lit.int .i64 a).wf = true ∧ (Lit.int .i64 b).wf = true := by
  obtain ⟨y0, y1, m, hx, _, h0, h1⟩ := trod_struct2 Try.underlying27 h
  have h0 : DataW.trod enc Try.prog w base spare held m 3 [c0] = some y0 := by simpa [cells_int] using h0
  have h1 : DataW.trod enc Try.prog w base spare held m 3 [c1] = some y1 := by simpa [cells_int] using h1
  obtain ⟨a, e0, rfl, w0⟩ := DataW.trod_int Try.underlying3 h0
  obtain ⟨b, e1, rfl, w1⟩ := DataW.trod_int Try.underlying3 h1
  simp at e0 e1
  subst e0 e1
  exact ⟨a, b, rfl, rfl, by rw [hx]; rfl, w0, w1⟩

set_option maxRecDepth 100000 in
theorem open_pair {r : Reach} {b0 : Nat} {v : Value} {d : DataW H} {p : List MemPlace} (hv : Value.okWide Try.prog w r b0 29 v) (h : DataW.Trod enc Try.prog w base spare held 29 v d p) :
    ∃ n s m t : Int, v = .agg #[.int .i64 n, .int .i64 s, .int .i64 m, .int .i64 t] ∧ d = .agg [.agg [.lit (.int .i64 n), .lit (.int .i64 s)], .agg [.lit (.int .i64 m), .lit (.int .i64 t)]] ∧ p = [] ∧
      (Lit.int .i64 n).wf = true ∧ (Lit.int .i64 s).wf = true ∧ (Lit.int .i64 m).wf = true ∧ (Lit.int .i64 t).wf = true := by
  obtain ⟨f0, f1, hs, t0, t1, o0, o1⟩ := under_pair
  obtain ⟨cs, rfl, hsz⟩ := okWide_struct hs hv
  obtain ⟨c0, c1, c2, c3, rfl⟩ := array4 (hsz.trans cells_pair)
  obtain ⟨fuel, hf⟩ := h
  obtain ⟨y0, y1, n, hx, _, h0, h1⟩ := trod_struct2 hs hf
  rw [t0, o0, cells_num] at h0
  rw [t1, o1, cells_num] at h1
  obtain ⟨a, b, rfl, rfl, rfl, wa, wb⟩ := open_num (by simpa [Value.cells] using h0)
  obtain ⟨c, e, rfl, rfl, rfl, wc, we⟩ := open_num (by simpa [Value.cells] using h1)
  simp only [Prod.mk.injEq] at hx
  exact ⟨a, b, c, e, rfl, hx.1, hx.2, wa, wb, wc, we⟩

set_option maxRecDepth 100000 in
theorem shut_num {n : Nat} {a b : Int} (wa : (Lit.int .i64 a).wf = true) (wb : (Lit.int .i64 b).wf = true) :
    DataW.trod enc Try.prog w base spare held (n + 2) 27 [.int .i64 a, .int .i64 b] = some (.agg [.lit (.int .i64 a), .lit (.int .i64 b)], []) := by
  have ts := trod_struct2_mk (enc := enc) (w := w) (base := base) (spare := spare) (held := held) (n := n + 1) (cs := [.int .i64 a, .int .i64 b]) (y0 := (.lit (.int .i64 a), [])) (y1 := (.lit (.int .i64 b), [])) Try.underlying27 (by simp [cells_num])
    (by simp [cells_int, DataW.trod, Try.underlying3, wa]) (by simp [cells_int, DataW.trod, Try.underlying3, wb])
  simpa using ts
set_option maxRecDepth 100000 in
theorem shut_pair {n s m t : Int} (wn : (Lit.int .i64 n).wf = true) (ws : (Lit.int .i64 s).wf = true) (wm : (Lit.int .i64 m).wf = true) (wt : (Lit.int .i64 t).wf = true) :
    DataW.Trod enc Try.prog w base spare held 29 (.agg #[.int .i64 n, .int .i64 s, .int .i64 m, .int .i64 t]) (.agg [.agg [.lit (.int .i64 n), .lit (.int .i64 s)], .agg [.lit (.int .i64 m), .lit (.int .i64 t)]]) [] := by
  obtain ⟨f0, f1, hs, t0, t1, o0, o1⟩ := under_pair
  have ts := trod_struct2_mk (enc := enc) (w := w) (base := base) (spare := spare) (held := held) (n := 2) (cs := [.int .i64 n, .int .i64 s, .int .i64 m, .int .i64 t]) (y0 := (.agg [.lit (.int .i64 n), .lit (.int .i64 s)], [])) (y1 := (.agg [.lit (.int .i64 m), .lit (.int .i64 t)], [])) hs (by simp [cells_pair])
    (by rw [t0, o0, cells_num]; simpa using shut_num (n := 0) wn ws) (by rw [t1, o1, cells_num]; simpa using shut_num (n := 0) wm wt)
  exact ⟨_, by simpa [Value.cells] using ts⟩
end
end Go.Proofs.Ytnaflaokhldfnaa
