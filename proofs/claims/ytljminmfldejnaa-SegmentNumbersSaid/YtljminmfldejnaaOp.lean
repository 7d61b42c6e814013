/- Operations as data; lists of them that came in. -/
import Derived.Test.YtljminmfldejnaaOpen4
namespace Go.Proofs.Ytljminmfldejnaa
set_option linter.unusedSimpArgs false
set_option linter.unusedVariables false
open Go.ChangeShapes Go.WideShapes Go.ChangeAt Go.RowKit Go.Joins Go.Deep

def oz : Int × Int × Int × Int × ByteArray := (0, 0, 0, 0, ⟨#[]⟩)
def opAt (l : List (Int × Int × Int × Int × ByteArray)) (i : Nat) : Int × Int × Int × Int × ByteArray := l.getD i oz
/-- The cells of operations. -/
def oc : List (Int × Int × Int × Int × ByteArray) → List Value
  | [] => []
  | x :: r => .int .i64 x.1 :: .int .i64 x.2.1 :: .int .i64 x.2.2.1 :: .int .i64 x.2.2.2.1 :: .string x.2.2.2.2 :: oc r
theorem oc_len : ∀ l : List (Int × Int × Int × Int × ByteArray), (oc l).length = l.length * 5
  | [] => rfl
  | x :: r => by simp only [oc, List.length_cons, oc_len r]; omega
theorem oc_cells : ∀ (l : List (Int × Int × Int × Int × ByteArray)) (i : Nat), i < l.length → (oc l)[i * 5]? = some (.int .i64 (opAt l i).1) ∧ (oc l)[i * 5 + 1]? = some (.int .i64 (opAt l i).2.1) ∧ (oc l)[i * 5 + 2]? = some (.int .i64 (opAt l i).2.2.1) ∧ (oc l)[i * 5 + 3]? = some (.int .i64 (opAt l i).2.2.2.1) ∧ (oc l)[i * 5 + 4]? = some (.string (opAt l i).2.2.2.2)
  | [], i, h => absurd h (by simp)
  | x :: r, 0, _ => by simp [oc, opAt]
  | x :: r, i + 1, h => by
    have := oc_cells r i (by simpa using h)
    rw [show (i + 1) * 5 = i * 5 + 1 + 1 + 1 + 1 + 1 by omega]
    have e : ∀ j, i * 5 + 1 + 1 + 1 + 1 + 1 + j = i * 5 + j + 1 + 1 + 1 + 1 + 1 := fun j => by omega
    rw [e 1, e 2, e 3, e 4]
    simp only [oc, opAt, List.getElem?_cons_succ, List.getD_cons_succ]
    exact this
theorem oc_one : ∀ l : List (Int × Int × Int × Int × ByteArray), ∀ u ∈ oc l, u.oneCell' = true
  | [], u, h => by cases h
  | x :: r, u, h => by
    simp only [oc, List.mem_cons] at h
    rcases h with rfl | rfl | rfl | rfl | rfl | h
    · rfl
    · rfl
    · rfl
    · rfl
    · rfl
    · exact oc_one r u h
theorem Sv.ops {w : World} {A : Option Addr} {n c : Nat} {l : List (Int × Int × Int × Int × ByteArray)} (h : Sv w A n c 5 (oc l)) : l.length = n := by
  have hl := h.1
  rw [oc_len] at hl
  omega
theorem Sv.op {w : World} {b o n c : Nat} {l : List (Int × Int × Int × Int × ByteArray)} (h : Sv w (some ⟨b, o, none⟩) n c 5 (oc l)) {i : Nat} (hi : i < n) : w.cell? ⟨b, o + i * 5, none⟩ = some (.int .i64 (opAt l i).1) ∧ w.cell? ⟨b, o + i * 5 + 1, none⟩ = some (.int .i64 (opAt l i).2.1) ∧ w.cell? ⟨b, o + i * 5 + 2, none⟩ = some (.int .i64 (opAt l i).2.2.1) ∧ w.cell? ⟨b, o + i * 5 + 3, none⟩ = some (.int .i64 (opAt l i).2.2.2.1) ∧ w.cell? ⟨b, o + i * 5 + 4, none⟩ = some (.string (opAt l i).2.2.2.2) := by
  have hl := h.ops
  obtain ⟨b', o', e, hb, hc⟩ := h.2.2.2.2 (by omega)
  simp only [Option.some.injEq, Addr.mk.injEq, and_true] at e
  obtain ⟨rfl, rfl⟩ := e
  have := oc_cells l i (by omega)
  exact ⟨by rw [hc _ (by omega), this.1], by rw [Nat.add_assoc, hc _ (by omega), this.2.1], by rw [Nat.add_assoc, hc _ (by omega), this.2.2.1], by rw [Nat.add_assoc, hc _ (by omega), this.2.2.2.1], by rw [Nat.add_assoc, hc _ (by omega), this.2.2.2.2]⟩
/-- All strings of the operations are short. -/
def ShO (l : List (Int × Int × Int × Int × ByteArray)) : Prop := ∀ i, i < l.length → (opAt l i).2.2.2.2.size ≤ maxLen

theorem cells_op : Try.prog.cellsOf 62 = 5 := by kernel_rfl
theorem cells_int4 : Try.prog.cellsOf 3 = 1 := by kernel_rfl
theorem cells_str4 : Try.prog.cellsOf 9 = 1 := by kernel_rfl
theorem range_getO (f : Nat → Int × Int × Int × Int × ByteArray) (n i : Nat) (h : i < n) : ((List.range n).map f).getD i oz = f i := by simp [h]
theorem oc_of (f : Nat → Int × Int × Int × Int × ByteArray) {w : World} {a : Addr} {n : Nat} (h : ∀ i, i < n → w.cell? (a.add (i * 5)) = some (.int .i64 (f i).1) ∧ w.cell? (a.add (i * 5 + 1)) = some (.int .i64 (f i).2.1) ∧ w.cell? (a.add (i * 5 + 2)) = some (.int .i64 (f i).2.2.1) ∧ w.cell? (a.add (i * 5 + 3)) = some (.int .i64 (f i).2.2.2.1) ∧ w.cell? (a.add (i * 5 + 4)) = some (.string (f i).2.2.2.2)) (j : Nat) (u : Value)
    (hj : (oc ((List.range n).map f))[j]? = some u) : w.cell? (a.add j) = some u := by
  have hl : j < n * 5 := by
    rcases Nat.lt_or_ge j (n * 5) with h' | h'
    · exact h'
    · rw [List.getElem?_eq_none (by rw [oc_len]; simpa using h')] at hj; cases hj
  have hi : j / 5 < n := by omega
  have hc := oc_cells ((List.range n).map f) (j / 5) (by simpa using hi)
  rw [opAt, range_getO f n _ hi] at hc
  have hcc := h (j / 5) hi
  rcases (show j = j / 5 * 5 ∨ j = j / 5 * 5 + 1 ∨ j = j / 5 * 5 + 2 ∨ j = j / 5 * 5 + 3 ∨ j = j / 5 * 5 + 4 by omega) with e | e | e | e | e
  · rw [e] at hj ⊢
    rw [hc.1] at hj
    rw [hcc.1, ← hj]
  · rw [e] at hj ⊢
    rw [hc.2.1] at hj
    rw [hcc.2.1, ← hj]
  · rw [e] at hj ⊢
    rw [hc.2.2.1] at hj
    rw [hcc.2.2.1, ← hj]
  · rw [e] at hj ⊢
    rw [hc.2.2.2.1] at hj
    rw [hcc.2.2.2.1, ← hj]
  · rw [e] at hj ⊢
    rw [hc.2.2.2.2] at hj
    rw [hcc.2.2.2.2, ← hj]
section
variable {H : Type} {enc : TypeId × Value → H} {w : World} {base : Nat} {held : Bool}
set_option maxRecDepth 100000 in
/-- One operation, from its cells. -/
theorem open_op5 {fuel : Nat} {cs : List Value} {z : DataW H × List MemPlace} (hl : cs.length = 5) (h : DataW.trod enc Try.prog w base (fun _ => true) held fuel 62 cs = some z) :
    ∃ (k s o p : Int) (b : ByteArray), cs = [.int .i64 k, .int .i64 s, .int .i64 o, .int .i64 p, .string b] ∧ b.size ≤ maxLen := by
  match cs, hl with
  | [c0, c1, c2, c3, c4], _ =>
    obtain ⟨xs, m, hm, hxy, _, hxl, hq⟩ := DataW.trod_struct Try.underlying62 h
    match xs, hxl with
    | [y0, y1, y2, y3, y4], _ =>
      have g0 := hq 0 _ rfl
      have g1 := hq 1 _ rfl
      have g2 := hq 2 _ rfl
      have g3 := hq 3 _ rfl
      have g4 := hq 4 _ rfl
      simp [cells_int4, cells_str4] at g0 g1 g2 g3 g4
      obtain ⟨k, e0, -, -⟩ := DataW.trod_int Try.underlying3 g0
      obtain ⟨s, e1, -, -⟩ := DataW.trod_int Try.underlying3 g1
      obtain ⟨o, e2, -, -⟩ := DataW.trod_int Try.underlying3 g2
      obtain ⟨p, e3, -, -⟩ := DataW.trod_int Try.underlying3 g3
      obtain ⟨b, e4, -, wb⟩ := DataW.trod_string Try.underlying9 g4
      simp at e0 e1 e2 e3 e4
      subst e0 e1 e2 e3 e4
      exact ⟨k, s, o, p, b, rfl, wb⟩
set_option maxRecDepth 100000 in
theorem open_ops {r : Reach} {b0 : Nat} {v : Value} {d : DataW H} {p : List MemPlace} (hv : Value.okWide Try.prog w r b0 55 v) (h : DataW.Trod enc Try.prog w base (fun _ => true) held 55 v d p) :
    ∃ (A : Option Addr) (n c : Nat) (l : List (Int × Int × Int × Int × ByteArray)), v = .slice A n c ∧ Sv w A n c 5 (oc l) ∧ ShO l := by
  obtain ⟨A0, n0, c0, rfl⟩ := okWide_slice Try.underlying55 hv
  obtain ⟨fuel, hf⟩ := h
  rcases open_slice Try.underlying55 hf with ⟨e0, -⟩ | ⟨a, len, cap, m', n', D, Pl, e0, -, hl, hm, hmm, -, hx⟩
  · simp [Value.cells] at e0
    obtain ⟨rfl, rfl, rfl⟩ := e0
    exact ⟨none, 0, 0, [], rfl, Sv.nil w 5, fun i hi => absurd hi (by simp)⟩
  · simp [Value.cells] at e0
    obtain ⟨rfl, rfl, rfl⟩ := e0
    have hlm : n0 ≤ m' := by rw [hmm]; split <;> omega
    have each : ∀ i, i < n0 → ∃ q : Int × Int × Int × Int × ByteArray, (w.cell? (a.add (i * 5)) = some (.int .i64 q.1) ∧ w.cell? (a.add (i * 5 + 1)) = some (.int .i64 q.2.1) ∧ w.cell? (a.add (i * 5 + 2)) = some (.int .i64 q.2.2.1) ∧ w.cell? (a.add (i * 5 + 3)) = some (.int .i64 q.2.2.2.1) ∧ w.cell? (a.add (i * 5 + 4)) = some (.string q.2.2.2.2)) ∧ q.2.2.2.2.size ≤ maxLen := by
      intro i hi
      obtain ⟨cs', h1, h2⟩ := hx i (by omega)
      rw [cells_op] at h1
      obtain ⟨_, hlen, hcell⟩ := World.cells?_some h1
      obtain ⟨k, s, o, p, b, rfl, wb⟩ := open_op5 hlen h2
      have q0 := hcell 0 (by omega)
      have q1 := hcell 1 (by omega)
      have q2 := hcell 2 (by omega)
      have q3 := hcell 3 (by omega)
      have q4 := hcell 4 (by omega)
      rw [add_add] at q0 q1 q2 q3 q4
      exact ⟨(k, s, o, p, b), ⟨by simpa using q0, by simpa using q1, by simpa using q2, by simpa using q3, by simpa using q4⟩, wb⟩
    obtain ⟨q, hq⟩ := choose_lt (α := Int × Int × Int × Int × ByteArray) each
    refine ⟨some a, n0, c0, (List.range n0).map q, rfl, Sv.of_cells (by rw [oc_len]; simp) (by omega) hl hm (oc_of q fun i hi => (hq i hi).1), fun i hi => ?_⟩
    have hi' : i < n0 := by simpa using hi
    unfold opAt
    rw [range_getO q n0 i hi']
    exact (hq i hi').2
end
end Go.Proofs.Ytljminmfldejnaa
