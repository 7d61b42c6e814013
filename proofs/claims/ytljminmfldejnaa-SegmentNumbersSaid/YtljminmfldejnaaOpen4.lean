/- A store that came in. -/
import Derived.Test.YtljminmfldejnaaOpen
import Derived.Test.YtljminmfldejnaaHb
import Derived.Deep.SlicePairs
namespace Go.Proofs.Ytljminmfldejnaa
set_option linter.unusedSimpArgs false
set_option linter.unusedVariables false
open Go.ChangeShapes Go.WideShapes Go.ChangeAt Go.RowKit Go.Joins Go.Deep
theorem cells_sto : Try.prog.cellsOf 24 = 2 := by kernel_rfl
theorem cells_seg : Try.prog.cellsOf 71 = 2 := by kernel_rfl
theorem range_getD (f : Nat → Int × ByteArray) (n i : Nat) (h : i < n) : ((List.range n).map f).getD i (0, ⟨#[]⟩) = f i := by simp [h]
theorem sg_of (f : Nat → Int × ByteArray) {w : World} {a : Addr} {n : Nat} (h : ∀ i, i < n → w.cell? (a.add (i * 2)) = some (.int .i64 (f i).1) ∧ w.cell? (a.add (i * 2 + 1)) = some (.string (f i).2)) (j : Nat) (u : Value)
    (hj : (sg ((List.range n).map f))[j]? = some u) : w.cell? (a.add j) = some u := by
  have hl : j < n * 2 := by
    rcases Nat.lt_or_ge j (n * 2) with h' | h'
    · exact h'
    · rw [List.getElem?_eq_none (by rw [sg_len]; simpa using h')] at hj; cases hj
  have hi : j / 2 < n := by omega
  have hc := sg_cells ((List.range n).map f) (j / 2) (by simpa using hi)
  rw [nuG, byG, range_getD f n _ hi] at hc
  have hcc := h (j / 2) hi
  rcases (show j = j / 2 * 2 ∨ j = j / 2 * 2 + 1 by omega) with e | e
  · rw [e] at hj ⊢
    rw [hc.1] at hj
    rw [hcc.1, ← hj]
  · rw [e] at hj ⊢
    rw [hc.2] at hj
    rw [hcc.2, ← hj]
section
variable {H : Type} {enc : TypeId × Value → H} {w : World} {base : Nat} {held : Bool}
set_option maxRecDepth 100000 in
theorem open_sto {r : Reach} {b0 : Nat} {v : Value} {d : DataW H} {p : List MemPlace} (hv : Value.okWide Try.prog w r b0 24 v) (h : DataW.Trod enc Try.prog w base (fun _ => true) held 24 v d p) :
    ∃ (A : Option Addr) (n c : Nat) (gs : List (Int × ByteArray)) (nx : Int), v = .agg #[.slice A n c, .int .i64 nx] ∧ Sv w A n c 2 (sg gs) ∧ Sh gs ∧ (Lit.int .i64 nx).wf = true := by
  obtain ⟨c0, c1, y0, y1, m, rfl, -, -, g0, g1⟩ := open_agg2 Try.underlying24 (by kernel_rfl) cells_sto hv h
  obtain ⟨nx, e1, -, w1⟩ := DataW.trod_int Try.underlying3 g1
  simp at e1
  subst e1
  rcases open_slice_pairs Try.underlying22 Try.underlying71 cells_seg rfl rfl (by kernel_rfl) (by kernel_rfl) g0 with ⟨e0, -⟩ | ⟨a, len, cap, m', n', V0, V1, D0, D1, P0, P1, e0, -, hl, hm, hmm, -, hc⟩
  · simp at e0
    subst e0
    exact ⟨none, 0, 0, [], nx, rfl, Sv.nil w 2, fun i hi => absurd hi (by simp), w1⟩
  · simp at e0
    subst e0
    have hlm : len ≤ m' := by rw [hmm]; split <;> omega
    have each : ∀ i, i < len → ∃ q : Int × ByteArray, (w.cell? (a.add (i * 2)) = some (.int .i64 q.1) ∧ w.cell? (a.add (i * 2 + 1)) = some (.string q.2)) ∧ q.2.size ≤ maxLen := by
      intro i hi
      obtain ⟨h1, h2, h3, h4⟩ := hc i (by omega)
      obtain ⟨x, ex, -, -⟩ := DataW.trod_int Try.underlying3 h3
      obtain ⟨s, es, -, ws⟩ := DataW.trod_string Try.underlying9 h4
      simp at ex es
      rw [ex] at h1
      rw [es] at h2
      exact ⟨(x, s), ⟨h1, h2⟩, ws⟩
    obtain ⟨q, hq⟩ := choose_lt each
    refine ⟨some a, len, cap, (List.range len).map q, nx, rfl, Sv.of_cells (by rw [sg_len]; simp) (by omega) hl hm (sg_of q fun i hi => (hq i hi).1), fun i hi => ?_, w1⟩
    have hi' : i < len := by simpa using hi
    unfold byG
    rw [range_getD q len i hi']
    exact (hq i hi').2
end
end Go.Proofs.Ytljminmfldejnaa
