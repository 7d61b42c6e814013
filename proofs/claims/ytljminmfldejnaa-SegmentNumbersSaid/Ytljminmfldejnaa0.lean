/- Helpers of these walks: 'Gr a b': the world b is a with new blocks, writes to those, and draws. -/
import Derived.Test.YtljminmfldejnaaRows
import Derived.WalkKit
import Derived.ProofKit
import Derived.Lib.Hide
import Derived.Deep.Draws
import Derived.Deep.QuietTactic
import Derived.BigQuiet
import Derived.Deep.RegionHeld3
import Derived.Deep.DeepCutAuto
namespace Go.Proofs.Ytljminmfldejnaa
set_option linter.unusedSimpArgs false
set_option linter.unusedVariables false
open Go.RowKit

def Gr (a b : World) : Prop := Below a.heap.size a b
theorem Gr.refl (a : World) : Gr a a := Below.refl _ _
theorem Gr.size {a b : World} (h : Gr a b) : a.heap.size ≤ b.heap.size := Below.size h
theorem Gr.trans {a b c : World} (h : Gr a b) (k : Gr b c) : Gr a c := Below.trans h (Below.mono k (Below.size h))
theorem Gr.alloc {a b : World} (h : Gr a b) (o : Obj) : Gr a (b.alloc o) := Below.alloc h (Below.size h) o
theorem Gr.drew {a b : World} (h : Gr a b) : Gr a b.drew := Below.drew h
theorem Gr.drewN {a b : World} (h : Gr a b) (n : Nat) : Gr a (b.drewN n) := Below.trans h ⟨rfl, rfl, rfl, Nat.le_refl _, fun _ _ => rfl⟩
theorem Gr.setCell {a b : World} (h : Gr a b) {p : Addr} (hp : a.heap.size ≤ p.block) (u : Value) : Gr a (b.setCell p u) := Below.setCell h hp u
theorem Gr.cells {a b : World} (h : Gr a b) : (∀ k o, k < a.heap.size → b.cell? ⟨k, o, none⟩ = a.cell? ⟨k, o, none⟩) ∧ (∀ k o, k < a.heap.size → b.frozen? ⟨k, o, none⟩ = a.frozen? ⟨k, o, none⟩) :=
  ⟨fun k o hk => Below.cell h (p := ⟨k, o, none⟩) hk, fun k o hk => Below.frozen h (p := ⟨k, o, none⟩) hk⟩
theorem Gr.keep {a b : World} (h : Gr a b) {p : Addr} {v : Value} (hv : a.cell? p = some v) : b.cell? p = some v := by
  rw [Below.cell h (World.block_lt_of_cell? a _ hv)]; exact hv
theorem Gr.below {a b : World} (h : Gr a b) : Below a.heap.size a b := h
/-- Block b holds the numbers xs (of kind k, element type t), and may be written. -/
def Arr (w : World) (b : Nat) (k : IntKind) (t : TypeId) (xs : List Int) : Prop := ∃ c : Array Value, c.toList = xs.map (Value.int k) ∧ w.heap[b]? = some (.cells c t (0, 0))
theorem Arr.lt {w : World} {b k t xs} (h : Arr w b k t xs) : b < w.heap.size := by
  obtain ⟨c, _, h⟩ := h
  rcases Nat.lt_or_ge b w.heap.size with g | g
  · exact g
  · rw [Array.getElem?_eq_none (by omega)] at h; simp at h
theorem Arr.cell {w : World} {b k t xs} (h : Arr w b k t xs) (i : Nat) (hi : i < xs.length) : w.cell? ⟨b, i, none⟩ = some (.int k (xs.getD i 0)) := by
  obtain ⟨c, hc, h⟩ := h
  rw [cell_of_row w b i c t (0, 0) h, ← Array.getElem?_toList, hc]
  simp [hi]
theorem Arr.frozen {w : World} {b k t xs} (h : Arr w b k t xs) (i : Nat) : w.frozen? ⟨b, i, none⟩ = false := by
  obtain ⟨c, _, h⟩ := h
  exact frozen_of_row w b i c t h
theorem Arr.set {w : World} {b k t xs} (h : Arr w b k t xs) (i : Nat) (x : Int) : Arr (w.setCell ⟨b, i, none⟩ (.int k x)) b k t (xs.set i x) := by
  obtain ⟨c, hc, h⟩ := h
  exact ⟨c.setIfInBounds i (.int k x), by rw [Array.toList_setIfInBounds, hc, List.map_set], heap_setCell_same w b i c t _ h⟩
theorem Arr.below {a w : World} {b k t xs} {B : Nat} (h : Arr a b k t xs) (g : Below B a w) (hb : b < B) : Arr w b k t xs := by
  obtain ⟨c, hc, h⟩ := h
  exact ⟨c, hc, by rw [g.block b hb]; exact h⟩
theorem Arr.gr {a w : World} {b k t xs} (h : Arr a b k t xs) (g : Gr a w) : Arr w b k t xs := h.below g h.lt
theorem Arr.alloc {w : World} {b k t xs} (h : Arr w b k t xs) (o : Obj) : Arr (w.alloc o) b k t xs := h.gr ((Gr.refl w).alloc o)
theorem Arr.drew {w : World} {b k t xs} (h : Arr w b k t xs) : Arr w.drew b k t xs := h
theorem Arr.drewN {w : World} {b k t xs} (h : Arr w b k t xs) (n : Nat) : Arr (w.drewN n) b k t xs := h
theorem Arr.set_other {w : World} {b k t xs} (h : Arr w b k t xs) (p : Addr) (u : Value) (hp : b ≠ p.block) : Arr (w.setCell p u) b k t xs := by
  obtain ⟨c, hc, h⟩ := h
  exact ⟨c, hc, by rw [Below.heap_setCell _ _ _ _ hp]; exact h⟩

/-- n zero cells of a kind: a name for what 'make' lays. -/
def mkz (k : IntKind) (n : Nat) : Array Value := madeCells #[.int k 0] n
theorem mkz_list (k : IntKind) (n : Nat) : (mkz k n).toList = (List.replicate n (0 : Int)).map (Value.int k) := by
  unfold mkz; rw [toList_madeCells_one]; simp
theorem Arr.made (w : World) (k : IntKind) (t : TypeId) (n : Nat) : Arr (w.alloc (.cells (mkz k n) t)) w.heap.size k t (List.replicate n 0) :=
  ⟨_, mkz_list k n, by show (w.heap.push _)[w.heap.size]? = _; simp⟩
theorem Arr.new (w : World) (k : IntKind) (t : TypeId) {c : Array Value} {xs : List Int} (h : c.toList = xs.map (Value.int k)) : Arr (w.alloc (.cells c t)) w.heap.size k t xs :=
  ⟨c, h, by show (w.heap.push _)[w.heap.size]? = _; simp⟩
theorem mkz_get (k : IntKind) (n i : Nat) (h : i < n) : (mkz k n)[i]? = some (.int k 0) := by
  rw [← Array.getElem?_toList, mkz_list]; simp [h]
theorem mkz_set (k : IntKind) (n i : Nat) (x : Int) : ((mkz k n).setIfInBounds i (.int k x)).toList = ((List.replicate n (0 : Int)).set i x).map (Value.int k) := by
  rw [Array.toList_setIfInBounds, mkz_list, List.map_set]
theorem run_mkz {P : Program} {t e : TypeId} {i : TypeInfo} {k : IntKind} {by_ : Nat} (ht : P.underlying t = some (.slice e)) (hi : P.info? e = some i) (hz : i.zero = some (.int k 0)) (h1 : i.size = 1) (h2 : i.bytes = by_)
    (N : Int) (n : Nat) (hN : N = n) (hb : by_ * n ≤ 281474976710656) (hm : n ≤ maxLen) (w : World) :
    (Instr.makeSlice t (.int .i64 N) (.int .i64 N)).run P w = .ok (.slice (some ⟨w.heap.size, 0, none⟩) n n) (w.alloc (.cells (mkz k n) e)) := by
  have h63 : (n : Int) ≤ 9223372036854775807 := by unfold maxLen at hm; omega
  have h := run_make (P := P) w t e i (.int k 0) ht hi hz .i64 .i64 N N (by omega) (Int.le_refl _) (by rw [h2]; subst hN; rw [← Int.natCast_mul]; exact Int.ofNat_le.2 hb) (by omega)
  rw [h, h1, Nat.mul_one]
  subst hN
  simp [mkz, Value.cells]

/-- A list by its length and its elements. -/
def fl (n : Nat) (f : Nat → Int) : List Int := (List.range n).map f
theorem fl_length (n : Nat) (f : Nat → Int) : (fl n f).length = n := by simp [fl]
theorem fl_getD {n : Nat} {f : Nat → Int} {i : Nat} (h : i < n) : (fl n f).getD i 0 = f i := by simp [fl, h]
theorem fl_congr {n : Nat} {f g : Nat → Int} (h : ∀ i, i < n → f i = g i) : fl n f = fl n g := by
  unfold fl; apply List.map_congr_left; intro i hi; exact h i (by simpa using hi)
theorem fl_set (n : Nat) (f : Nat → Int) (i : Nat) (x : Int) : (fl n f).set i x = fl n (fun j => if j = i then x else f j) := by
  apply List.ext_getElem
  · simp [fl]
  · intro j h1 h2; simp [fl, List.getElem_set]; by_cases h : i = j <;> simp [h, eq_comm]
theorem fl_zero (n : Nat) : List.replicate n (0 : Int) = fl n (fun _ => 0) := by
  apply List.ext_getElem <;> simp [fl]
theorem Arr.made_fl (w : World) (k : IntKind) (t : TypeId) (n : Nat) (f : Nat → Int) (h : ∀ i, i < n → f i = 0) : Arr (w.alloc (.cells (mkz k n) t)) w.heap.size k t (fl n f) := by
  have := Arr.made w k t n
  rw [fl_zero] at this
  rw [fl_congr (g := fun _ => 0) h]; exact this
theorem Arr.made_set_fl (w : World) (k : IntKind) (t : TypeId) (n j : Nat) (x : Int) (f : Nat → Int) (h : ∀ i, i < n → f i = if i = j then x else 0) : Arr (w.alloc (.cells ((mkz k n).setIfInBounds j (.int k x)) t)) w.heap.size k t (fl n f) := by
  have := Arr.new w k t (mkz_set k n j x)
  rw [fl_zero, fl_set] at this
  rw [fl_congr h]; exact this
theorem Arr.set_fl {w : World} {b k t n} {f g : Nat → Int} (h : Arr w b k t (fl n f)) (j : Nat) (x : Int) (hg : ∀ i, i < n → g i = if i = j then x else f i) : Arr (w.setCell ⟨b, j, none⟩ (.int k x)) b k t (fl n g) := by
  have := h.set j x
  rw [fl_set] at this
  rw [fl_congr hg]; exact this
theorem Arr.cell_fl {w : World} {b k t n} {f : Nat → Int} (h : Arr w b k t (fl n f)) (i : Nat) (hi : i < n) : w.cell? ⟨b, i, none⟩ = some (.int k (f i)) := by
  rw [h.cell i (by rw [fl_length]; exact hi), fl_getD hi]
theorem Arr.has {w : World} {b k t n} {f : Nat → Int} (h : Arr w b k t (fl n f)) (i : Nat) (hi : i < n) : ∃ v, w.cell? ⟨b, i, none⟩ = some v := ⟨_, h.cell_fl i hi⟩
theorem fl_eq {n : Nat} {xs : List Int} (h : xs.length = n) : xs = fl n (fun i => xs.getD i 0) := by
  apply List.ext_getElem
  · simp [fl, h]
  · intro j h1 h2; simp [fl, h1]

theorem ret_str {a b : ByteArray} (h : a = b) : Ending.returned (.string a) = .returned (.string b) := by rw [h]
theorem ret_int {k : IntKind} {a b : Int} (h : a = b) : Ending.returned (.int k a) = .returned (.int k b) := by rw [h]
theorem ret_bool {a b : Bool} (h : a = b) : Ending.returned (.bool a) = .returned (.bool b) := by rw [h]
end Go.Proofs.Ytljminmfldejnaa
