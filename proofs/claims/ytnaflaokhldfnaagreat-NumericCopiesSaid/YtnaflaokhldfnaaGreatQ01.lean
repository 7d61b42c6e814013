/- Texts of the walks, merged. -/
import Derived.Test.YtnaflaokhldfnaaGreatRows
import Derived.WalkKit
import Derived.ProofKit
import Derived.Lib.Hide
import Derived.Deep.Draws
import Derived.Deep.QuietTactic
import Derived.BigQuiet
import Derived.Deep.RegionHeld3
import Derived.Deep.DeepCutAuto
namespace Go.Proofs.YtnaflaokhldfnaaGreat
set_option linter.unusedSimpArgs false
set_option linter.unusedVariables false
open Go.RowKit

def Gr (a b : World) : Prop := Below a.heap.size a b
theorem Gr.refl (a : World) : Gr a a := Below.refl _ _
theorem Gr.size {a b : World} (h : Gr a b) : a.heap.size ≤ b.heap.size := Below.size h
theorem Gr.trans {a b c : World} (h : Gr a b) (k : Gr b c) : Gr a c := Below.trans h (Below.mono k (Below.size h))
theorem Gr.alloc {a b : World} (h : Gr a b) (o : Obj) : Gr a (b.alloc o) := Below.alloc h (Below.size h) o
theorem Gr.drew {a b : World} (h : Gr a b) : Gr a b.drew := Below.drew h
theorem Gr.drewN {a b : World} (h : Gr a b) (n : Nat) : Gr a (b.drewN n) := Below.trans h ⟨rfl, rfl, rfl, Nat.le_refl _, fun _ _ => rfl⟩
theorem Gr.setCell {a b : World} (h : Gr a b) {p : Addr} (hp : a.heap.size ≤ p.block) (u : Value) : Gr a (b.setCell p u) := Below.setCell h hp u
theorem Gr.cells {a b : World} (h : Gr a b) : (∀ k o, k < a.heap.size → b.cell? ⟨k, o, none⟩ = a.cell? ⟨k, o, none⟩) ∧ (∀ k o, k < a.heap.size → b.frozen? ⟨k, o, none⟩ = a.frozen? ⟨k, o, none⟩) :=
  ⟨fun k o hk => Below.cell h (p := ⟨k, o, none⟩) hk, fun k o hk => Below.frozen h (p := ⟨k, o, none⟩) hk⟩
theorem Gr.keep {a b : World} (h : Gr a b) {p : Addr} {v : Value} (hv : a.cell? p = some v) : b.cell? p = some v := by
  rw [Below.cell h (World.block_lt_of_cell? a _ hv)]; exact hv
theorem Gr.below {a b : World} (h : Gr a b) : Below a.heap.size a b := h
/-- Block b holds the numbers xs (of kind k, element type t), and may be written. -/
def Arr (w : World) (b : Nat) (k : IntKind) (t : TypeId) (xs : List Int) : Prop := ∃ c : Array Value, c.toList = xs.map (Value.int k) ∧ w.heap[b]? = some (.cells c t (0, 0))
theorem Arr.lt {w : World} {b k t xs} (h : Arr w b k t xs) : b < w.heap.size := by
  obtain ⟨c, _, h⟩ := h
  rcases Nat.lt_or_ge b w.heap.size with g | g
  · exact g
  · rw [Array.getElem?_eq_none (by omega)] at h; simp at h
theorem Arr.cell {w : World} {b k t xs} (h : Arr w b k t xs) (i : Nat) (hi : i < xs.length) : w.cell? ⟨b, i, none⟩ = some (.int k (xs.getD i 0)) := by
  obtain ⟨c, hc, h⟩ := h
  rw [cell_of_row w b i c t (0, 0) h, ← Array.getElem?_toList, hc]
  simp [hi]
theorem Arr.frozen {w : World} {b k t xs} (h : Arr w b k t xs) (i : Nat) : w.frozen? ⟨b, i, none⟩ = false := by
  obtain ⟨c, _, h⟩ := h
  exact frozen_of_row w b i c t h
theorem Arr.set {w : World} {b k t xs} (h : Arr w b k t xs) (i : Nat) (x : Int) : Arr (w.setCell ⟨b, i, none⟩ (.int k x)) b k t (xs.set i x) := by
  obtain ⟨c, hc, h⟩ := h
  exact ⟨c.setIfInBounds i (.int k x), by rw [Array.toList_setIfInBounds, hc, List.map_set], heap_setCell_same w b i c t _ h⟩
theorem Arr.below {a w : World} {b k t xs} {B : Nat} (h : Arr a b k t xs) (g : Below B a w) (hb : b < B) : Arr w b k t xs := by
  obtain ⟨c, hc, h⟩ := h
  exact ⟨c, hc, by rw [g.block b hb]; exact h⟩
theorem Arr.gr {a w : World} {b k t xs} (h : Arr a b k t xs) (g : Gr a w) : Arr w b k t xs := h.below g h.lt
theorem Arr.alloc {w : World} {b k t xs} (h : Arr w b k t xs) (o : Obj) : Arr (w.alloc o) b k t xs := h.gr ((Gr.refl w).alloc o)
theorem Arr.drew {w : World} {b k t xs} (h : Arr w b k t xs) : Arr w.drew b k t xs := h
theorem Arr.drewN {w : World} {b k t xs} (h : Arr w b k t xs) (n : Nat) : Arr (w.drewN n) b k t xs := h
theorem Arr.set_other {w : World} {b k t xs} (h : Arr w b k t xs) (p : Addr) (u : Value) (hp : b ≠ p.block) : Arr (w.setCell p u) b k t xs := by
  obtain ⟨c, hc, h⟩ := h
  exact ⟨c, hc, by rw [Below.heap_setCell _ _ _ _ hp]; exact h⟩

/-- n zero cells of a kind: a name for what 'make' lays. -/
def mkz (k : IntKind) (n : Nat) : Array Value := madeCells #[.int k 0] n
theorem mkz_list (k : IntKind) (n : Nat) : (mkz k n).toList = (List.replicate n (0 : Int)).map (Value.int k) := by
  unfold mkz; rw [toList_madeCells_one]; simp
theorem Arr.made (w : World) (k : IntKind) (t : TypeId) (n : Nat) : Arr (w.alloc (.cells (mkz k n) t)) w.heap.size k t (List.replicate n 0) :=
  ⟨_, mkz_list k n, by show (w.heap.push _)[w.heap.size]? = _; simp⟩
theorem Arr.new (w : World) (k : IntKind) (t : TypeId) {c : Array Value} {xs : List Int} (h : c.toList = xs.map (Value.int k)) : Arr (w.alloc (.cells c t)) w.heap.size k t xs :=
  ⟨c, h, by show (w.heap.push _)[w.heap.size]? = _; simp⟩
theorem mkz_get (k : IntKind) (n i : Nat) (h : i < n) : (mkz k n)[i]? = some (.int k 0) := by
  rw [← Array.getElem?_toList, mkz_list]; simp [h]
theorem mkz_set (k : IntKind) (n i : Nat) (x : Int) : ((mkz k n).setIfInBounds i (.int k x)).toList = ((List.replicate n (0 : Int)).set i x).map (Value.int k) := by
  rw [Array.toList_setIfInBounds, mkz_list, List.map_set]
theorem run_mkz {P : Program} {t e : TypeId} {i : TypeInfo} {k : IntKind} {by_ : Nat} (ht : P.underlying t = some (.slice e)) (hi : P.info? e = some i) (hz : i.zero = some (.int k 0)) (h1 : i.size = 1) (h2 : i.bytes = by_)
    (N : Int) (n : Nat) (hN : N = n) (hb : by_ * n ≤ 281474976710656) (hm : n ≤ maxLen) (w : World) :
    (Instr.makeSlice t (.int .i64 N) (.int .i64 N)).run P w = .ok (.slice (some ⟨w.heap.size, 0, none⟩) n n) (w.alloc (.cells (mkz k n) e)) := by
  have h63 : (n : Int) ≤ 9223372036854775807 := by unfold maxLen at hm; omega
  have h := run_make (P := P) w t e i (.int k 0) ht hi hz .i64 .i64 N N (by omega) (Int.le_refl _) (by rw [h2]; subst hN; rw [← Int.natCast_mul]; exact Int.ofNat_le.2 hb) (by omega)
  rw [h, h1, Nat.mul_one]
  subst hN
  simp [mkz, Value.cells]

/-- A list by its length and its elements. -/
def fl (n : Nat) (f : Nat → Int) : List Int := (List.range n).map f
theorem fl_length (n : Nat) (f : Nat → Int) : (fl n f).length = n := by simp [fl]
theorem fl_getD {n : Nat} {f : Nat → Int} {i : Nat} (h : i < n) : (fl n f).getD i 0 = f i := by simp [fl, h]
theorem fl_congr {n : Nat} {f g : Nat → Int} (h : ∀ i, i < n → f i = g i) : fl n f = fl n g := by
  unfold fl; apply List.map_congr_left; intro i hi; exact h i (by simpa using hi)
theorem fl_set (n : Nat) (f : Nat → Int) (i : Nat) (x : Int) : (fl n f).set i x = fl n (fun j => if j = i then x else f j) := by
  apply List.ext_getElem
  · simp [fl]
  · intro j h1 h2; simp [fl, List.getElem_set]; by_cases h : i = j <;> simp [h, eq_comm]
theorem fl_zero (n : Nat) : List.replicate n (0 : Int) = fl n (fun _ => 0) := by
  apply List.ext_getElem <;> simp [fl]
theorem Arr.made_fl (w : World) (k : IntKind) (t : TypeId) (n : Nat) (f : Nat → Int) (h : ∀ i, i < n → f i = 0) : Arr (w.alloc (.cells (mkz k n) t)) w.heap.size k t (fl n f) := by
  have := Arr.made w k t n
  rw [fl_zero] at this
  rw [fl_congr (g := fun _ => 0) h]; exact this
theorem Arr.made_set_fl (w : World) (k : IntKind) (t : TypeId) (n j : Nat) (x : Int) (f : Nat → Int) (h : ∀ i, i < n → f i = if i = j then x else 0) : Arr (w.alloc (.cells ((mkz k n).setIfInBounds j (.int k x)) t)) w.heap.size k t (fl n f) := by
  have := Arr.new w k t (mkz_set k n j x)
  rw [fl_zero, fl_set] at this
  rw [fl_congr h]; exact this
theorem Arr.set_fl {w : World} {b k t n} {f g : Nat → Int} (h : Arr w b k t (fl n f)) (j : Nat) (x : Int) (hg : ∀ i, i < n → g i = if i = j then x else f i) : Arr (w.setCell ⟨b, j, none⟩ (.int k x)) b k t (fl n g) := by
  have := h.set j x
  rw [fl_set] at this
  rw [fl_congr hg]; exact this
theorem Arr.cell_fl {w : World} {b k t n} {f : Nat → Int} (h : Arr w b k t (fl n f)) (i : Nat) (hi : i < n) : w.cell? ⟨b, i, none⟩ = some (.int k (f i)) := by
  rw [h.cell i (by rw [fl_length]; exact hi), fl_getD hi]
theorem Arr.has {w : World} {b k t n} {f : Nat → Int} (h : Arr w b k t (fl n f)) (i : Nat) (hi : i < n) : ∃ v, w.cell? ⟨b, i, none⟩ = some v := ⟨_, h.cell_fl i hi⟩
theorem fl_eq {n : Nat} {xs : List Int} (h : xs.length = n) : xs = fl n (fun i => xs.getD i 0) := by
  apply List.ext_getElem
  · simp [fl, h]
  · intro j h1 h2; simp [fl, h1]

theorem ret_str {a b : ByteArray} (h : a = b) : Ending.returned (.string a) = .returned (.string b) := by rw [h]
theorem ret_int {k : IntKind} {a b : Int} (h : a = b) : Ending.returned (.int k a) = .returned (.int k b) := by rw [h]
theorem ret_bool {a b : Bool} (h : a = b) : Ending.returned (.bool a) = .returned (.bool b) := by rw [h]
end Go.Proofs.YtnaflaokhldfnaaGreat
namespace Go.Proofs.YtnaflaokhldfnaaGreat
set_option linter.unusedSimpArgs false
set_option linter.unusedVariables false


/-- The number that digits make, the lowest one first. -/
def vl : List Int → Int
  | [] => 0
  | d :: l => d + 10 * vl l
def Dg (l : List Int) : Prop := ∀ d, d ∈ l → 0 ≤ d ∧ d ≤ 9
/-- Digits without zeros at their end. -/
def Cn (l : List Int) : Prop := Dg l ∧ (l ≠ [] → 10 ^ (l.length - 1) ≤ vl l)

theorem ten_pos (n : Nat) : (0 : Int) < 10 ^ n := Int.pow_pos (by omega)
theorem le_mul_pos {a b : Int} (ha : 0 < a) (hb : 0 < b) : a ≤ a * b := by
  have : a * 1 ≤ a * b := Int.mul_le_mul_of_nonneg_left (by omega) (by omega)
  omega
theorem ten_mono {m n : Nat} (h : m ≤ n) : (10 : Int) ^ m ≤ 10 ^ n := by
  obtain ⟨k, rfl⟩ := Nat.exists_eq_add_of_le h
  rw [Int.pow_add]
  exact le_mul_pos (ten_pos m) (ten_pos k)

theorem vl_append (a b : List Int) : vl (a ++ b) = vl a + 10 ^ a.length * vl b := by
  induction a with
  | nil => simp [vl]
  | cons x a ih => simp only [List.cons_append, vl, ih, List.length_cons, Int.pow_succ]; grind
theorem vl_snoc (a : List Int) (x : Int) : vl (a ++ [x]) = vl a + 10 ^ a.length * x := by rw [vl_append]; simp [vl]
theorem Dg.nil : Dg [] := by intro d hd; simp at hd
theorem Dg.append {a b : List Int} (h : Dg a) (k : Dg b) : Dg (a ++ b) := by
  intro d hd; rcases List.mem_append.1 hd with e | e
  · exact h d e
  · exact k d e
theorem Dg.snoc {a : List Int} (h : Dg a) {x : Int} (h0 : 0 ≤ x) (h9 : x ≤ 9) : Dg (a ++ [x]) := h.append (by intro d hd; simp at hd; omega)
theorem Dg.cons {a : List Int} (h : Dg a) {x : Int} (h0 : 0 ≤ x) (h9 : x ≤ 9) : Dg (x :: a) := by
  intro d hd; rcases List.mem_cons.1 hd with e | e
  · omega
  · exact h d e
theorem Dg.take {a : List Int} (h : Dg a) (n : Nat) : Dg (a.take n) := fun d hd => h d (List.mem_of_mem_take hd)
theorem Dg.drop {a : List Int} (h : Dg a) (n : Nat) : Dg (a.drop n) := fun d hd => h d (List.mem_of_mem_drop hd)
theorem Dg.getD {a : List Int} (h : Dg a) (i : Nat) : 0 ≤ a.getD i 0 ∧ a.getD i 0 ≤ 9 := by
  by_cases hi : i < a.length
  · have e : a.getD i 0 = a[i] := by simp [hi]
    rw [e]; exact h _ (List.getElem_mem hi)
  · have e : a.getD i 0 = 0 := by rw [List.getD_eq_getElem?_getD, List.getElem?_eq_none (by omega)]; rfl
    omega
theorem Dg.bd {a : List Int} (h : Dg a) : 0 ≤ vl a ∧ vl a < 10 ^ a.length := by
  induction a with
  | nil => simp [vl]
  | cons x a ih =>
    have h1 := h x (by simp)
    have h2 := ih (fun d hd => h d (by simp [hd]))
    simp only [vl, List.length_cons, Int.pow_succ]; omega
theorem Dg.zeros (n : Nat) : Dg (List.replicate n 0) := by
  intro d hd; have := List.eq_of_mem_replicate hd; omega
theorem vl_zeros (n : Nat) : vl (List.replicate n 0) = 0 := by
  induction n with
  | zero => rfl
  | succ n ih => rw [List.replicate_succ, vl, ih]; rfl

/-- What the first digits make. -/
def vt (l : List Int) : Nat → Int
  | 0 => 0
  | i + 1 => vt l i + 10 ^ i * l.getD i 0
theorem vt_take (l : List Int) : ∀ i, vt l i = vl (l.take i)
  | 0 => by simp [vt, vl]
  | i + 1 => by
    rw [vt, vt_take l i]
    by_cases hi : i < l.length
    · rw [List.take_succ_eq_append_getElem hi, vl_snoc]
      simp [hi, Nat.min_eq_left (Nat.le_of_lt hi)]
    · rw [List.take_of_length_le (by omega), List.take_of_length_le (by omega)]
      have e : l.getD i 0 = 0 := by rw [List.getD_eq_getElem?_getD, List.getElem?_eq_none (by omega)]; rfl
      rw [e]; omega
theorem vt_all {l : List Int} {i : Nat} (h : l.length ≤ i) : vt l i = vl l := by rw [vt_take, List.take_of_length_le h]
theorem vl_split (l : List Int) {i : Nat} (h : i ≤ l.length) : vl l = vl (l.take i) + 10 ^ i * vl (l.drop i) := by
  have e := vl_append (l.take i) (l.drop i)
  rw [List.take_append_drop] at e
  rw [e, List.length_take, Nat.min_eq_left h]
theorem vl_drop (l : List Int) {i : Nat} (h : i < l.length) : vl (l.drop i) = l.getD i 0 + 10 * vl (l.drop (i + 1)) := by
  rw [List.drop_eq_getElem_cons h, vl]; simp [h]

theorem Cn.dg {l : List Int} (h : Cn l) : Dg l := h.1
theorem Cn.nil : Cn [] := ⟨Dg.nil, fun h => absurd rfl h⟩
theorem Cn.bd {l : List Int} (h : Cn l) : 0 ≤ vl l ∧ vl l < 10 ^ l.length := h.1.bd
theorem Cn.ge {l : List Int} (h : Cn l) {n : Nat} (hn : n < l.length) : 10 ^ n ≤ vl l := by
  have h1 := h.2 (by intro e; subst e; simp at hn)
  exact Int.le_trans (ten_mono (by omega)) h1
theorem Cn.len_le {l : List Int} (h : Cn l) (n : Nat) : l.length ≤ n ↔ vl l < 10 ^ n := by
  constructor
  · intro hn; exact Int.lt_of_lt_of_le h.bd.2 (ten_mono hn)
  · intro hv; rcases Nat.lt_or_ge n l.length with k | k
    · have := h.ge k; omega
    · exact k
theorem Cn.pos {l : List Int} (h : Cn l) (hl : 0 < l.length) : 0 < vl l := by
  have := h.ge hl; simp at this; omega
theorem Cn.zero {l : List Int} (h : Cn l) : vl l = 0 ↔ l.length = 0 := by
  constructor
  · intro hv; rcases Nat.eq_zero_or_pos l.length with k | k
    · exact k
    · have := h.pos k; omega
  · intro hl; rw [List.eq_nil_of_length_eq_zero hl]; rfl
theorem Cn.of_last {l : List Int} (h : Dg l) (hl : 0 < l.length → l.getD (l.length - 1) 0 ≠ 0) : Cn l := by
  refine ⟨h, fun hne => ?_⟩
  have hpos : 0 < l.length := by cases l with | nil => exact absurd rfl hne | cons _ _ => simp
  have hg := h.getD (l.length - 1)
  have hz := hl hpos
  have e := vl_split l (i := l.length - 1) (by omega)
  have e2 := vl_drop l (i := l.length - 1) (by omega)
  rw [List.drop_of_length_le (i := l.length - 1 + 1) (by omega)] at e2
  have b := (h.take (l.length - 1)).bd.1
  have hp := ten_pos (l.length - 1)
  rw [e, e2]
  simp only [vl]
  generalize (10 : Int) ^ (l.length - 1) = P at *
  generalize l.getD (l.length - 1) 0 = x at *
  have : P * 1 ≤ P * x := Int.mul_le_mul_of_nonneg_left (by omega) (by omega)
  simp only [Int.mul_zero, Int.add_zero]
  omega
theorem Cn.last {l : List Int} (h : Cn l) (hl : 0 < l.length) : l.getD (l.length - 1) 0 ≠ 0 := by
  intro hz
  have e := vl_split l (i := l.length - 1) (by omega)
  have e2 := vl_drop l (i := l.length - 1) (by omega)
  rw [List.drop_of_length_le (i := l.length - 1 + 1) (by omega), hz] at e2
  simp only [vl] at e2
  rw [e2] at e
  have b := (h.1.take (l.length - 1)).bd.2
  rw [List.length_take, Nat.min_eq_left (by omega)] at b
  have g := h.ge (n := l.length - 1) (by omega)
  simp at e
  omega
/-- The value of a list from a place on, where zeros stand at its end. -/
theorem trim_step {l : List Int} {n : Nat} (hz : l.getD n 0 = 0) : vl (l.take (n + 1)) = vl (l.take n) := by
  rw [← vt_take, ← vt_take, vt, hz]; omega
theorem lt_len {a b : List Int} (ha : Cn a) (hb : Cn b) (h : a.length < b.length) : vl a < vl b := by
  have := ha.bd.2; have := hb.ge h; omega
theorem drop_lt {a b : List Int} (ha : Dg a) (hb : Dg b) {n : Nat} (hn : a.length = b.length) {i : Nat} (hi : i < n) (hn2 : n = a.length) (he : vl (a.drop (i + 1)) = vl (b.drop (i + 1))) (h : a.getD i 0 < b.getD i 0) : vl a < vl b := by
  have e1 := vl_split a (i := i) (by omega)
  have e2 := vl_split b (i := i) (by omega)
  have d1 := vl_drop a (i := i) (by omega)
  have d2 := vl_drop b (i := i) (by omega)
  have b1 := (ha.take i).bd
  have b2 := (hb.take i).bd
  rw [List.length_take, Nat.min_eq_left (by omega)] at b1 b2
  rw [e1, e2, d1, d2, he]
  have hp := ten_pos i
  generalize vl (b.drop (i + 1)) = R at *
  generalize (10 : Int) ^ i = P at *
  generalize a.getD i 0 = x at *
  generalize b.getD i 0 = y at *
  have : P * (x + 10 * R + 1) ≤ P * (y + 10 * R) := Int.mul_le_mul_of_nonneg_left (by omega) (by omega)
  rw [Int.mul_add P (x + 10 * R) 1] at this
  omega
/-- One step of a sum: digit and carry. -/
theorem plus_step {P o c a b x y : Int} (h : o + P * c = a + b) : (o + P * ((c + x + y) % 10)) + (P * 10) * ((c + x + y) / 10) = (a + P * x) + (b + P * y) := by
  have e : P * (c + x + y) = P * ((c + x + y) % 10) + P * 10 * ((c + x + y) / 10) := by
    rw [Int.mul_assoc, ← Int.mul_add]; congr 1; omega
  rw [Int.mul_add, Int.mul_add] at e; omega
theorem minus_step {P o c a b x y c' : Int} (h : o - P * c = a - b) : (o + P * (x - c - y + 10 * c')) - (P * 10) * c' = (a + P * x) - (b + P * y) := by
  have e : P * (x - c - y + 10 * c') = P * x - P * c - P * y + P * 10 * c' := by
    rw [Int.mul_add, Int.mul_sub, Int.mul_sub, Int.mul_assoc]
  omega


/-- q times the divisor against the dividend, by the rest of the high digit. -/
theorem kn_le {u v y1 y0 q r b : Nat} (hu : u = q * y1 + r) (h : q * y0 ≤ b * r + v) : q * (y1 * b + y0) ≤ u * b + v := by
  subst hu
  have e1 : q * (y1 * b + y0) = q * y1 * b + q * y0 := by rw [Nat.mul_add, Nat.mul_assoc]
  have e2 : (q * y1 + r) * b + v = q * y1 * b + (b * r + v) := by rw [Nat.add_mul, Nat.mul_comm r b]; omega
  omega
theorem kn_gt {u v y1 y0 q r b : Nat} (hu : u = q * y1 + r) (h : b * r + v < q * y0) : u * b + v < q * (y1 * b + y0) := by
  subst hu
  have e1 : q * (y1 * b + y0) = q * y1 * b + q * y0 := by rw [Nat.mul_add, Nat.mul_assoc]
  have e2 : (q * y1 + r) * b + v = q * y1 * b + (b * r + v) := by rw [Nat.add_mul, Nat.mul_comm r b]; omega
  omega
/-- The digit is found: not too high, not too low. -/
theorem kn_eq {u v Y q b : Nat} (h1 : q * Y ≤ u * b + v) (h2 : (u * b + v) / Y ≤ q) (hY : 0 < Y) : q = (u * b + v) / Y := by
  have := (Nat.le_div_iff_mul_le hY).2 h1
  omega
theorem kn_lt {n q Y : Nat} (hY : 0 < Y) (h : n < q * Y) : n / Y ≤ q - 1 := by
  have := (Nat.div_lt_iff_lt_mul hY).2 h
  omega
/-- The two digits make the quotient. -/
theorem kn_two {u v z Y b : Nat} (hY : 0 < Y) : ((u * b + v) * b + z) / Y = (u * b + v) / Y * b + ((u * b + v) % Y * b + z) / Y ∧ ((u * b + v) * b + z) % Y = ((u * b + v) % Y * b + z) % Y := by
  generalize u * b + v = N
  have e : N * b + z = (N % Y * b + z) + Y * (N / Y * b) := by
    have := Nat.div_add_mod N Y
    have e2 : N * b = (Y * (N / Y) + N % Y) * b := by rw [this]
    rw [e2, Nat.add_mul, Nat.mul_assoc]; omega
  rw [e, Nat.add_mul_div_left _ _ hY, Nat.add_mul_mod_self_left]
  exact ⟨by omega, rfl⟩

/-- The division by one word, from the highest word on. -/
theorem word_div {a0 a1 a2 w b : Nat} (hw : 0 < w) : (a2 * b + a1) * b + a0 = ((a2 / w * b + (a2 % w * b + a1) / w) * b + ((a2 % w * b + a1) % w * b + a0) / w) * w + ((a2 % w * b + a1) % w * b + a0) % w := by
  have h2 := Nat.div_add_mod a2 w
  have h1 := Nat.div_add_mod (a2 % w * b + a1) w
  have h0 := Nat.div_add_mod ((a2 % w * b + a1) % w * b + a0) w
  generalize ((a2 % w * b + a1) % w * b + a0) / w = q0 at *
  generalize ((a2 % w * b + a1) % w * b + a0) % w = r0 at *
  generalize (a2 % w * b + a1) / w = q1 at *
  generalize (a2 % w * b + a1) % w = r1 at *
  generalize a2 / w = q2 at *
  generalize a2 % w = r2 at *
  subst h2
  grind
theorem word_div_q {a0 a1 a2 w b : Nat} (hw : 0 < w) : ((a2 * b + a1) * b + a0) / w = (a2 / w * b + (a2 % w * b + a1) / w) * b + ((a2 % w * b + a1) % w * b + a0) / w ∧ ((a2 * b + a1) * b + a0) % w = ((a2 % w * b + a1) % w * b + a0) % w := by
  have e := word_div (a0 := a0) (a1 := a1) (a2 := a2) (b := b) hw
  have h := Nat.mod_lt ((a2 % w * b + a1) % w * b + a0) hw
  have hm : ((a2 * b + a1) * b + a0) % w = ((a2 % w * b + a1) % w * b + a0) % w := by
    rw [e, Nat.mul_comm _ w, Nat.mul_add_mod, Nat.mod_eq_of_lt h]
  refine ⟨?_, hm⟩
  generalize ((a2 % w * b + a1) % w * b + a0) % w = r at *
  rw [e, Nat.mul_comm _ w, Nat.mul_add_div hw, Nat.div_eq_of_lt h]; omega

/-- One bit more of a division. -/
theorem bit_div {T N t : Nat} (hN : 0 < N) (ht : t < 2) : (2 * T + t) / N = 2 * (T / N) + (if N ≤ 2 * (T % N) + t then 1 else 0) ∧ (2 * T + t) % N = (if N ≤ 2 * (T % N) + t then 2 * (T % N) + t - N else 2 * (T % N) + t) := by
  have h1 := Nat.div_add_mod T N
  have h2 := Nat.mod_lt T hN
  generalize T / N = q at *
  generalize T % N = r at *
  subst h1
  have e : 2 * (N * q + r) + t = N * (2 * q) + (2 * r + t) := by grind
  rw [e, Nat.mul_add_div hN, Nat.mul_add_mod]
  split
  · next h =>
    have e2 : 2 * r + t = N * 1 + (2 * r + t - N) := by omega
    have hlt : 2 * r + t - N < N := by omega
    constructor
    · rw [e2, Nat.mul_add_div hN, Nat.div_eq_of_lt hlt]
    · rw [e2, Nat.mul_add_mod, Nat.mod_eq_of_lt hlt]; omega
  · next h =>
    have hlt : 2 * r + t < N := by omega
    exact ⟨by rw [Nat.div_eq_of_lt hlt], Nat.mod_eq_of_lt hlt⟩

/-- The rounded quotient. -/
def rq (n d : Nat) (half : Bool) : Nat := n / d + (if half ∧ d ≤ 2 * (n % d) then 1 else 0)
theorem rq_scale {n d c : Nat} (half : Bool) (hc : 0 < c) : rq (n * c) (d * c) half = rq n d half := by
  unfold rq
  rw [Nat.mul_div_mul_right _ _ hc, Nat.mul_mod_mul_right]
  have : d * c ≤ 2 * (n % d * c) ↔ d ≤ 2 * (n % d) := by
    rw [← Nat.mul_assoc]; exact Nat.mul_le_mul_right_iff hc
  simp only [this]

/-- The words of a whole number, the lowest one first. -/
def wd (N : Nat) : Nat → Nat
  | 0 => N % 18446744073709551616
  | 1 => N / 18446744073709551616 % 18446744073709551616
  | _ => N / 18446744073709551616 / 18446744073709551616
/-- Less than three words hold. -/
def Sm (N : Nat) : Prop := N / 18446744073709551616 / 18446744073709551616 < 18446744073709551616
theorem wd_lt {N : Nat} (h : Sm N) (i : Nat) : wd N i < 18446744073709551616 := by
  unfold Sm at h
  match i with
  | 0 => simp only [wd]; omega
  | 1 => simp only [wd]; omega
  | _ + 2 => simpa only [wd] using h
theorem wd_sum (N : Nat) : N = (wd N 2 * 18446744073709551616 + wd N 1) * 18446744073709551616 + wd N 0 := by
  simp only [wd]; omega
theorem wd_of {N a0 a1 a2 : Nat} (h : N = (a2 * 18446744073709551616 + a1) * 18446744073709551616 + a0) (h0 : a0 < 18446744073709551616) (h1 : a1 < 18446744073709551616) : wd N 0 = a0 ∧ wd N 1 = a1 ∧ wd N 2 = a2 := by
  subst h; simp only [wd]; omega
theorem sm_of {N a0 a1 a2 : Nat} (h : N = (a2 * 18446744073709551616 + a1) * 18446744073709551616 + a0) (h0 : a0 < 18446744073709551616) (h1 : a1 < 18446744073709551616) (h2 : a2 < 18446744073709551616) : Sm N := by
  subst h; unfold Sm; omega
theorem sm_le {M N : Nat} (h : Sm N) (hle : M ≤ N) : Sm M := by unfold Sm at *; omega
theorem sm_lt {N : Nat} : Sm N ↔ N < 6277101735386680763835789423207666416102355444464034512896 := by unfold Sm; omega

/-- The sum's words. -/
theorem plus_words {M N : Nat} (h : Sm (M + N)) :
    wd (M + N) 0 = (wd M 0 + wd N 0 + 0) % 18446744073709551616 ∧
    wd (M + N) 1 = (wd M 1 + wd N 1 + (wd M 0 + wd N 0 + 0) / 18446744073709551616) % 18446744073709551616 ∧
    wd (M + N) 2 = (wd M 2 + wd N 2 + (wd M 1 + wd N 1 + (wd M 0 + wd N 0 + 0) / 18446744073709551616) / 18446744073709551616) % 18446744073709551616 := by
  have hm := wd_sum M
  have hn := wd_sum N
  have m0 := wd_lt (sm_le h (Nat.le_add_right M N)) 0
  have m1 := wd_lt (sm_le h (Nat.le_add_right M N)) 1
  have n0 := wd_lt (sm_le h (Nat.le_add_left N M)) 0
  have n1 := wd_lt (sm_le h (Nat.le_add_left N M)) 1
  have h2 := h
  unfold Sm at h2
  generalize wd M 0 = a0 at *
  generalize wd M 1 = a1 at *
  generalize wd M 2 = a2 at *
  generalize wd N 0 = b0 at *
  generalize wd N 1 = b1 at *
  generalize wd N 2 = b2 at *
  have e := wd_of (N := M + N) (a0 := (a0 + b0) % 18446744073709551616) (a1 := (a1 + b1 + (a0 + b0) / 18446744073709551616) % 18446744073709551616) (a2 := a2 + b2 + (a1 + b1 + (a0 + b0) / 18446744073709551616) / 18446744073709551616) (by omega) (by omega) (by omega)
  refine ⟨by rw [e.1]; rfl, by rw [e.2.1]; rfl, ?_⟩
  have : wd (M + N) 2 < 18446744073709551616 := wd_lt h 2
  rw [e.2.2] at this ⊢
  exact (Nat.mod_eq_of_lt (by simpa using this)).symm
/-- The difference's words. -/
def bw (x y : Nat) : Nat := if x < y then 1 else 0
theorem minus_words {M N : Nat} (hm : Sm M) (h : N ≤ M) :
    wd (M - N) 0 = (wd M 0 + 18446744073709551616 - wd N 0 - 0) % 18446744073709551616 ∧
    wd (M - N) 1 = (wd M 1 + 18446744073709551616 - wd N 1 - bw (wd M 0) (wd N 0 + 0)) % 18446744073709551616 ∧
    wd (M - N) 2 = (wd M 2 + 18446744073709551616 - wd N 2 - bw (wd M 1) (wd N 1 + bw (wd M 0) (wd N 0 + 0))) % 18446744073709551616 := by
  have em := wd_sum M
  have en := wd_sum N
  have hn := sm_le hm h
  have m0 := wd_lt hm 0
  have m1 := wd_lt hm 1
  have m2 := wd_lt hm 2
  have n0 := wd_lt hn 0
  have n1 := wd_lt hn 1
  have n2 := wd_lt hn 2
  generalize wd M 0 = a0 at *
  generalize wd M 1 = a1 at *
  generalize wd M 2 = a2 at *
  generalize wd N 0 = b0 at *
  generalize wd N 1 = b1 at *
  generalize wd N 2 = b2 at *
  obtain ⟨c0, hc0⟩ : ∃ c, bw a0 (b0 + 0) = c := ⟨_, rfl⟩
  rw [hc0]
  obtain ⟨c1, hc1⟩ : ∃ c, bw a1 (b1 + c0) = c := ⟨_, rfl⟩
  rw [hc1]
  unfold bw at hc0 hc1
  have k0 : a0 + 18446744073709551616 * c0 - b0 = (a0 + 18446744073709551616 - b0 - 0) % 18446744073709551616 ∧ b0 ≤ a0 + 18446744073709551616 * c0 ∧ c0 ≤ 1 := by split at hc0 <;> omega
  have k1 : a1 + 18446744073709551616 * c1 - b1 - c0 = (a1 + 18446744073709551616 - b1 - c0) % 18446744073709551616 ∧ b1 + c0 ≤ a1 + 18446744073709551616 * c1 ∧ c1 ≤ 1 := by split at hc1 <;> omega
  have k2 : b2 + c1 ≤ a2 := by omega
  have e := wd_of (N := M - N) (a0 := (a0 + 18446744073709551616 - b0 - 0) % 18446744073709551616) (a1 := (a1 + 18446744073709551616 - b1 - c0) % 18446744073709551616) (a2 := a2 - b2 - c1) (by omega) (by omega) (by omega)
  exact ⟨e.1, e.2.1, by rw [e.2.2]; omega⟩
theorem times_sum {B p0 p1 p2 q0 q1 q2 s0 s1 s2 : Nat} (d0 : p0 = B * q0 + s0) (d1 : p1 = B * q1 + s1) (d2 : s1 + q0 = B * q2 + s2) : (p2 * B + p1) * B + p0 = ((p2 + (q1 + q2)) * B + s2) * B + s0 := by
  subst d0 d1
  have e : (p2 * B + (B * q1 + s1)) * B + (B * q0 + s0) = (p2 * B + B * q1) * B + B * (s1 + q0) + s0 := by grind
  rw [e, d2]; grind
/-- The product's words, by a word. -/
theorem times_words {M x : Nat} (h : Sm (M * x)) (p0 p1 p2 : Nat) (h0 : p0 = wd M 0 * x) (h1 : p1 = wd M 1 * x) (h2 : p2 = wd M 2 * x) :
    wd (M * x) 0 = p0 % 18446744073709551616 ∧
    wd (M * x) 1 = (p1 % 18446744073709551616 + p0 / 18446744073709551616) % 18446744073709551616 ∧
    wd (M * x) 2 = (p2 % 18446744073709551616 + (p1 / 18446744073709551616 + (p1 % 18446744073709551616 + p0 / 18446744073709551616) / 18446744073709551616)) % 18446744073709551616 := by
  have em := wd_sum M
  have hs : M * x = (p2 * 18446744073709551616 + p1) * 18446744073709551616 + p0 := by
    subst h0 h1 h2
    generalize wd M 0 = a0 at *
    generalize wd M 1 = a1 at *
    generalize wd M 2 = a2 at *
    subst em
    grind
  generalize M * x = N at *
  have d0 := Nat.div_add_mod p0 18446744073709551616
  have d1 := Nat.div_add_mod p1 18446744073709551616
  have r0 := Nat.mod_lt p0 (show 18446744073709551616 > 0 by omega)
  generalize p0 / 18446744073709551616 = q0 at *
  generalize p0 % 18446744073709551616 = s0 at *
  generalize p1 / 18446744073709551616 = q1 at *
  generalize p1 % 18446744073709551616 = s1 at *
  have d2 := Nat.div_add_mod (s1 + q0) 18446744073709551616
  have r1 := Nat.mod_lt (s1 + q0) (show 18446744073709551616 > 0 by omega)
  generalize (s1 + q0) / 18446744073709551616 = q2 at *
  generalize (s1 + q0) % 18446744073709551616 = s2 at *
  have e := wd_of (N := N) (a0 := s0) (a1 := s2) (a2 := p2 + (q1 + q2)) (by rw [hs]; exact times_sum d0.symm d1.symm d2.symm) r0 r1
  refine ⟨e.1, e.2.1, ?_⟩
  have k := wd_lt h 2
  rw [e.2.2] at k ⊢
  omega
theorem lex_lt {B a0 a1 a2 b0 b1 b2 : Nat} (h0 : a0 < B) (h1 : a1 < B) : (a2 < b2 → (a2 * B + a1) * B + a0 < (b2 * B + b1) * B + b0) ∧ (a2 = b2 → a1 < b1 → (a2 * B + a1) * B + a0 < (b2 * B + b1) * B + b0) := by
  constructor
  · intro h
    have e1 : a2 * B + a1 + 1 ≤ b2 * B + b1 := by
      have : (a2 + 1) * B ≤ b2 * B := Nat.mul_le_mul_right _ h
      rw [Nat.add_mul] at this; omega
    have e2 : (a2 * B + a1 + 1) * B ≤ (b2 * B + b1) * B := Nat.mul_le_mul_right _ e1
    rw [Nat.add_mul (a2 * B + a1) 1 B] at e2; omega
  · intro h k
    subst h
    have e2 : (a2 * B + a1 + 1) * B ≤ (a2 * B + b1) * B := Nat.mul_le_mul_right _ (by omega)
    rw [Nat.add_mul (a2 * B + a1) 1 B] at e2; omega
theorem cmp_words {M N : Nat} (hm : Sm M) (_hn : Sm N) : (wd M 2 < wd N 2 → M < N) ∧ (wd M 2 = wd N 2 → wd M 1 < wd N 1 → M < N) ∧ (wd M 2 = wd N 2 → wd M 1 = wd N 1 → wd M 0 < wd N 0 → M < N) ∧ (wd M 2 = wd N 2 → wd M 1 = wd N 1 → wd M 0 = wd N 0 → M = N) := by
  have em := wd_sum M
  have en := wd_sum N
  have k := lex_lt (B := 18446744073709551616) (a2 := wd M 2) (b2 := wd N 2) (b1 := wd N 1) (b0 := wd N 0) (wd_lt hm 0) (wd_lt hm 1)
  rw [← em, ← en] at k
  refine ⟨k.1, k.2, fun h2 h1 h0 => ?_, fun h2 h1 h0 => ?_⟩
  · rw [em, en, h2, h1]; omega
  · rw [em, en, h2, h1, h0]
set_option maxRecDepth 100000 in
/-- The shape of the longer one: two to the power of so many bits is above it. -/
theorem bits_words {M L : Nat} (hm : Sm M) : (wd M 2 ≠ 0 → wd M 2 < 2 ^ L → M < 2 ^ (128 + L)) ∧ (wd M 2 = 0 → wd M 1 < 2 ^ L → M < 2 ^ (64 + L)) ∧ (wd M 2 = 0 → wd M 1 = 0 → M = wd M 0) := by
  have em := wd_sum M
  have m0 := wd_lt hm 0
  have m1 := wd_lt hm 1
  generalize wd M 0 = a0 at *
  generalize wd M 1 = a1 at *
  generalize wd M 2 = a2 at *
  refine ⟨fun _ h => ?_, fun h0 h => ?_, fun h1 h2 => by subst h1 h2; omega⟩
  · rw [Nat.pow_add]
    generalize 2 ^ L = P at *
    omega
  · rw [Nat.pow_add]
    generalize 2 ^ L = P at *
    omega
end Go.Proofs.YtnaflaokhldfnaaGreat
namespace Go.Proofs.YtnaflaokhldfnaaGreat
set_option linter.unusedSimpArgs false
set_option linter.unusedVariables false
open Go.RowKit

def isNum (k : Int) : Bool := decide (k = 1) || decide (k = 2) || decide (k = 3)

theorem isNumeric_any (k l s : Int) (w : World) :
    Calls Tryz.prog 59 #[.agg #[.int .i64 k, .int .i64 l, .int .i64 s]] w fun e w' => e = .returned (.bool (isNum k)) ∧ Gr w w' := by
  go_enter Tryz.func59, Tryz.ntmps59
  go_wp2
  all_goals (go_ret; exact ⟨ret_bool (by grind [isNum]), (by repeat (first | (with_reducible exact Gr.refl _) | (with_reducible assumption) | (with_reducible refine Gr.alloc ?_ _) | (with_reducible refine Gr.drew ?_) | (with_reducible refine Gr.drewN ?_ _) | (with_reducible refine Gr.setCell ?_ (by simp <;> omega) _) | (with_reducible refine Gr.trans ?_ (by with_reducible assumption)) | exact Gr.refl _ | assumption | refine Gr.alloc ?_ _ | refine Gr.drew ?_ | refine Gr.drewN ?_ _ | refine Gr.setCell ?_ (by simp <;> omega) _ | refine Gr.trans ?_ (by assumption)))⟩)

def rightLen (k l : Int) : Bool :=
  if k = 0 then decide (1 ≤ l ∧ l ≤ 256) else if k = 3 then decide (l = 4 ∨ l = 9) else if k = 4 then decide (l = 0) else decide (1 ≤ l ∧ l ≤ 15)

theorem rightLength_any (k l s : Int) (w : World) :
    Calls Tryz.prog 29 #[.agg #[.int .i64 k, .int .i64 l, .int .i64 s]] w fun e w' => e = .returned (.bool (rightLen k l)) ∧ Gr w w' := by
  go_enter Tryz.func29, Tryz.ntmps29
  go_wp2
  all_goals (go_ret; exact ⟨ret_bool (by grind [rightLen]), (by repeat (first | (with_reducible exact Gr.refl _) | (with_reducible assumption) | (with_reducible refine Gr.alloc ?_ _) | (with_reducible refine Gr.drew ?_) | (with_reducible refine Gr.drewN ?_ _) | (with_reducible refine Gr.setCell ?_ (by simp <;> omega) _) | (with_reducible refine Gr.trans ?_ (by with_reducible assumption)) | exact Gr.refl _ | assumption | refine Gr.alloc ?_ _ | refine Gr.drew ?_ | refine Gr.drewN ?_ _ | refine Gr.setCell ?_ (by simp <;> omega) _ | refine Gr.trans ?_ (by assumption)))⟩)

def mostScale (k l : Int) : Int := if isNum k then l else 0
theorem greatestScale_any (k l s : Int) (w : World) :
    Calls Tryz.prog 30 #[.agg #[.int .i64 k, .int .i64 l, .int .i64 s]] w fun e w' => e = .returned (.int .i64 (mostScale k l)) ∧ Gr w w' := by
  go_enter Tryz.func30, Tryz.ntmps30
  go_wp2_with (go_at_call 59; refine (isNumeric_any _ _ _ _).mono ?_; rintro e w1 ⟨rfl, hb⟩; obtain ⟨hc, hf⟩ := hb.cells; have hz : w.heap.size < w1.heap.size := by have h := hb.size; (try simp at h); omega)
  all_goals (go_ret; exact ⟨ret_int (by grind [mostScale]), (by repeat (first | (with_reducible exact Gr.refl _) | (with_reducible assumption) | (with_reducible refine Gr.alloc ?_ _) | (with_reducible refine Gr.drew ?_) | (with_reducible refine Gr.drewN ?_ _) | (with_reducible refine Gr.setCell ?_ (by simp <;> omega) _) | (with_reducible refine Gr.trans ?_ (by with_reducible assumption)) | exact Gr.refl _ | assumption | refine Gr.alloc ?_ _ | refine Gr.drew ?_ | refine Gr.drewN ?_ _ | refine Gr.setCell ?_ (by simp <;> omega) _ | refine Gr.trans ?_ (by assumption)))⟩)

def typeErr (k l s : Int) : Int := if k < 0 ∨ 5 ≤ k then 4 else if rightLen k l = false then 18 else if s < 0 ∨ mostScale k l < s then 3 else 0

theorem CheckType_any (k l s : Int) (w : World) :
    Calls Tryz.prog 11 #[.agg #[.int .i64 k, .int .i64 l, .int .i64 s]] w fun e w' => e = .returned (.int .i64 (typeErr k l s)) ∧ Gr w w' := by
  by_cases hs : s < 0
  · go_enter Tryz.func11, Tryz.ntmps11
    go_wp2_with (go_at_call 29; refine (rightLength_any _ _ _ _).mono ?_; rintro e w1 ⟨rfl, hb⟩; obtain ⟨hc, hf⟩ := hb.cells; have hz : w.heap.size < w1.heap.size := by have h := hb.size; (try simp at h); omega)
    all_goals (try (go_ret; exact ⟨ret_int (by grind [typeErr]), (by repeat (first | (with_reducible exact Gr.refl _) | (with_reducible assumption) | (with_reducible refine Gr.alloc ?_ _) | (with_reducible refine Gr.drew ?_) | (with_reducible refine Gr.drewN ?_ _) | (with_reducible refine Gr.setCell ?_ (by simp <;> omega) _) | (with_reducible refine Gr.trans ?_ (by with_reducible assumption)) | exact Gr.refl _ | assumption | refine Gr.alloc ?_ _ | refine Gr.drew ?_ | refine Gr.drewN ?_ _ | refine Gr.setCell ?_ (by simp <;> omega) _ | refine Gr.trans ?_ (by assumption)))⟩))
    go_quiet (fail)
    go_wp2
    all_goals (go_ret; exact ⟨ret_int (by grind [typeErr]), (by repeat (first | (with_reducible exact Gr.refl _) | (with_reducible assumption) | (with_reducible refine Gr.alloc ?_ _) | (with_reducible refine Gr.drew ?_) | (with_reducible refine Gr.drewN ?_ _) | (with_reducible refine Gr.setCell ?_ (by simp <;> omega) _) | (with_reducible refine Gr.trans ?_ (by with_reducible assumption)) | exact Gr.refl _ | assumption | refine Gr.alloc ?_ _ | refine Gr.drew ?_ | refine Gr.drewN ?_ _ | refine Gr.setCell ?_ (by simp <;> omega) _ | refine Gr.trans ?_ (by assumption)))⟩)
  · have hs' : decide (s < 0) = false := by simpa using hs
    go_enter Tryz.func11, Tryz.ntmps11
    go_wp2_with (go_at_call 29; refine (rightLength_any _ _ _ _).mono ?_; rintro e w1 ⟨rfl, hb⟩; obtain ⟨hc, hf⟩ := hb.cells; have hz : w.heap.size < w1.heap.size := by have h := hb.size; (try simp at h); omega)
    all_goals (try (go_ret; exact ⟨ret_int (by grind [typeErr]), (by repeat (first | (with_reducible exact Gr.refl _) | (with_reducible assumption) | (with_reducible refine Gr.alloc ?_ _) | (with_reducible refine Gr.drew ?_) | (with_reducible refine Gr.drewN ?_ _) | (with_reducible refine Gr.setCell ?_ (by simp <;> omega) _) | (with_reducible refine Gr.trans ?_ (by with_reducible assumption)) | exact Gr.refl _ | assumption | refine Gr.alloc ?_ _ | refine Gr.drew ?_ | refine Gr.drewN ?_ _ | refine Gr.setCell ?_ (by simp <;> omega) _ | refine Gr.trans ?_ (by assumption)))⟩))
    go_region_held3 (fun w' => w'.cell? ⟨w.heap.size, 0, none⟩ = some (.int .i64 k) ∧ w'.cell? ⟨w.heap.size, 1, none⟩ = some (.int .i64 l) ∧ w'.cell? ⟨w.heap.size, 2, none⟩ = some (.int .i64 s)) (first | (go_keep; done) | ((try go_split_ands); (repeat' apply And.intro) <;> ((try simp only [World.cell?_drew]); first | (with_reducible assumption) | (refine hb.keep ?_; (try simp only [World.cell?_drew]); first | (with_reducible assumption) | (simp [*, go_sem]; done)) | (simp [*, go_sem]; done)))) ((go_at_call 30; refine (greatestScale_any _ _ _ _).mono ?_; rintro e w1 ⟨rfl, hb⟩; obtain ⟨hc, hf⟩ := hb.cells; have hz : w.heap.size < w1.heap.size := by have h := hb.size; (try simp at h); omega))
    go_wp2
    all_goals (go_ret; exact ⟨ret_int (by grind [typeErr]), (by repeat (first | (with_reducible exact Gr.refl _) | (with_reducible assumption) | (with_reducible refine Gr.alloc ?_ _) | (with_reducible refine Gr.drew ?_) | (with_reducible refine Gr.drewN ?_ _) | (with_reducible refine Gr.setCell ?_ (by simp <;> omega) _) | (with_reducible refine Gr.trans ?_ (by with_reducible assumption)) | exact Gr.refl _ | assumption | refine Gr.alloc ?_ _ | refine Gr.drew ?_ | refine Gr.drewN ?_ _ | refine Gr.setCell ?_ (by simp <;> omega) _ | refine Gr.trans ?_ (by assumption)))⟩)

def pick (b : Bool) (x : Int) : Int := if b then x else 0
theorem errorIf_any (b : Bool) (x : Int) (w : World) :
    Calls Tryz.prog 57 #[.bool b, .int .i64 x] w fun e w' => e = .returned (.int .i64 (pick b x)) ∧ w = w' := by
  go_enter Tryz.func57, Tryz.ntmps57
  go_wp2
  all_goals (go_ret; exact ⟨ret_int (by simp [pick, *]), rfl⟩)

/-- The first number that is not 0. -/
def first0 : List Int → Int
  | [] => 0
  | x :: l => if x = 0 then first0 l else x

theorem first0_drop (xs : List Int) (k : Nat) (h : k < xs.length) : first0 (xs.drop k) = if xs.getD k 0 = 0 then first0 (xs.drop (k + 1)) else xs.getD k 0 := by
  rw [List.drop_eq_getElem_cons h]; simp [first0, h]

theorem firstError_any (b n cap : Nat) (xs : List Int) (hn : xs.length = n) (hm : n ≤ 1000) (w : World)
    (hcell : ∀ i, i < n → w.cell? ⟨b, i, none⟩ = some (.int .i64 (xs.getD i 0))) :
    Calls Tryz.prog 10 #[.slice (some ⟨b, 0, none⟩) n cap] w fun e w' => e = .returned (.int .i64 (first0 xs)) ∧ w = w' := by
  have H := Lib.hid hn
  have HC := Lib.hid hcell
  clear hn hcell
  go_enter Tryz.func10, Tryz.ntmps10
  go_wp2
  go_loop [7] (fun i => ∃ k : Nat, k ≤ n ∧ i = .int .i64 k ∧ Hid (first0 (xs.drop k) = first0 xs)) (fun i => n - (intOf i).toNat)
  case atStart => exact ⟨0, Nat.zero_le _, rfl, rfl⟩
  case round =>
    obtain ⟨k, hk, rfl, hr⟩ := hrel
    by_cases hlt : k < n
    · have hc := HC.out k hlt
      have hd := Lib.hid (first0_drop xs k (by rw [H.out]; exact hlt))
      by_cases hz : xs.getD k 0 = 0
      · have hz' := Lib.hid hz
        rw [hz] at hc
        clear hz
        go_wp2
        go_round
        case rel => exact ⟨k + 1, by omega, by go_num, by have := hd.out; rw [if_pos hz'.out, hr.out] at this; exact this.symm⟩
        case measure => simp [intOf]; omega
      · obtain ⟨x, hx⟩ : ∃ x, xs.getD k 0 = x := ⟨_, rfl⟩
        rw [hx] at hc hz
        have hx' := Lib.hid hx
        clear hx
        go_wp2
        go_ret
        exact ⟨ret_int (by have := hd.out; rw [hx'.out, if_neg hz, hr.out] at this; exact this.symm), rfl⟩
    · have hkn := Lib.hid (show k = n by omega)
      go_wp2
      go_ret
      exact ⟨ret_int (by have := hr.out; rw [hkn.out, ← H.out, List.drop_length] at this; exact this), rfl⟩

theorem firstError2 (x0 x1 : Int) (b cap : Nat) (W : World) (h0 : W.cell? ⟨b, 0, none⟩ = some (.int .i64 x0)) (h1 : W.cell? ⟨b, 1, none⟩ = some (.int .i64 x1)) :
    Calls Tryz.prog 10 #[.slice (some ⟨b, 0, none⟩) 2 cap] W fun e w' => e = .returned (.int .i64 (first0 [x0, x1])) ∧ W = w' :=
  firstError_any b 2 cap [x0, x1] rfl (by decide) W (fun i hi => match i, hi with | 0, _ => h0 | 1, _ => h1 | i + 2, h => absurd h (by omega))

theorem firstError3 (x0 x1 x2 : Int) (b cap : Nat) (W : World) (h0 : W.cell? ⟨b, 0, none⟩ = some (.int .i64 x0)) (h1 : W.cell? ⟨b, 1, none⟩ = some (.int .i64 x1)) (h2 : W.cell? ⟨b, 2, none⟩ = some (.int .i64 x2)) :
    Calls Tryz.prog 10 #[.slice (some ⟨b, 0, none⟩) 3 cap] W fun e w' => e = .returned (.int .i64 (first0 [x0, x1, x2])) ∧ W = w' :=
  firstError_any b 3 cap [x0, x1, x2] rfl (by decide) W (fun i hi => match i, hi with | 0, _ => h0 | 1, _ => h1 | 2, _ => h2 | i + 3, h => absurd h (by omega))

theorem firstError4 (x0 x1 x2 x3 : Int) (b cap : Nat) (W : World) (h0 : W.cell? ⟨b, 0, none⟩ = some (.int .i64 x0)) (h1 : W.cell? ⟨b, 1, none⟩ = some (.int .i64 x1)) (h2 : W.cell? ⟨b, 2, none⟩ = some (.int .i64 x2)) (h3 : W.cell? ⟨b, 3, none⟩ = some (.int .i64 x3)) :
    Calls Tryz.prog 10 #[.slice (some ⟨b, 0, none⟩) 4 cap] W fun e w' => e = .returned (.int .i64 (first0 [x0, x1, x2, x3])) ∧ W = w' :=
  firstError_any b 4 cap [x0, x1, x2, x3] rfl (by decide) W (fun i hi => match i, hi with | 0, _ => h0 | 1, _ => h1 | 2, _ => h2 | 3, _ => h3 | i + 4, h => absurd h (by omega))

theorem firstError5 (x0 x1 x2 x3 x4 : Int) (b cap : Nat) (W : World) (h0 : W.cell? ⟨b, 0, none⟩ = some (.int .i64 x0)) (h1 : W.cell? ⟨b, 1, none⟩ = some (.int .i64 x1)) (h2 : W.cell? ⟨b, 2, none⟩ = some (.int .i64 x2)) (h3 : W.cell? ⟨b, 3, none⟩ = some (.int .i64 x3)) (h4 : W.cell? ⟨b, 4, none⟩ = some (.int .i64 x4)) :
    Calls Tryz.prog 10 #[.slice (some ⟨b, 0, none⟩) 5 cap] W fun e w' => e = .returned (.int .i64 (first0 [x0, x1, x2, x3, x4])) ∧ W = w' :=
  firstError_any b 5 cap [x0, x1, x2, x3, x4] rfl (by decide) W (fun i hi => match i, hi with | 0, _ => h0 | 1, _ => h1 | 2, _ => h2 | 3, _ => h3 | 4, _ => h4 | i + 5, h => absurd h (by omega))

theorem firstError6 (x0 x1 x2 x3 x4 x5 : Int) (b cap : Nat) (W : World) (h0 : W.cell? ⟨b, 0, none⟩ = some (.int .i64 x0)) (h1 : W.cell? ⟨b, 1, none⟩ = some (.int .i64 x1)) (h2 : W.cell? ⟨b, 2, none⟩ = some (.int .i64 x2)) (h3 : W.cell? ⟨b, 3, none⟩ = some (.int .i64 x3)) (h4 : W.cell? ⟨b, 4, none⟩ = some (.int .i64 x4)) (h5 : W.cell? ⟨b, 5, none⟩ = some (.int .i64 x5)) :
    Calls Tryz.prog 10 #[.slice (some ⟨b, 0, none⟩) 6 cap] W fun e w' => e = .returned (.int .i64 (first0 [x0, x1, x2, x3, x4, x5])) ∧ W = w' :=
  firstError_any b 6 cap [x0, x1, x2, x3, x4, x5] rfl (by decide) W (fun i hi => match i, hi with | 0, _ => h0 | 1, _ => h1 | 2, _ => h2 | 3, _ => h3 | 4, _ => h4 | 5, _ => h5 | i + 6, h => absurd h (by omega))

theorem checkValued_any (k l s : Int) (w : World) :
    Calls Tryz.prog 23 #[.agg #[.int .i64 k, .int .i64 l, .int .i64 s]] w fun e w' => e = .returned (.int .i64 (first0 [typeErr k l s, pick (k == 4) 17])) ∧ Gr w w' := by
  go_enter Tryz.func23, Tryz.ntmps23
  go_wp2
  go_region_held3 (fun w' => w'.cell? ⟨w.heap.size, 0, none⟩ = some (.int .i64 k) ∧ w'.cell? ⟨w.heap.size, 1, none⟩ = some (.int .i64 l) ∧ w'.cell? ⟨w.heap.size, 2, none⟩ = some (.int .i64 s)) (first | (go_keep; done) | ((try go_split_ands); (repeat' apply And.intro) <;> ((try simp only [World.cell?_drew]); first | (with_reducible assumption) | (refine hb.keep ?_; (try simp only [World.cell?_drew]); first | (with_reducible assumption) | (simp [*, go_sem]; done)) | (simp [*, go_sem]; done)))) (first | (go_at_call 11; refine (CheckType_any _ _ _ _).mono ?_; rintro e w1 ⟨rfl, hb⟩; obtain ⟨hc, hf⟩ := hb.cells; have hz : w.heap.size < w1.heap.size := by have h := hb.size; (try simp at h); omega) | (go_at_call 57; refine (errorIf_any _ _ _).mono ?_; rintro e w1 ⟨rfl, rfl⟩) | (go_at_call 10; refine (firstError2 (typeErr k l s) (pick (k == 4) 17) _ _ _ (by first | (simp; done) | (simp [go_sem]; done)) (by first | (simp; done) | (simp [go_sem]; done))).mono ?_; rintro e w1 ⟨rfl, rfl⟩))
  go_wp2
  go_ret
  exact ⟨rfl, (by repeat (first | (with_reducible exact Gr.refl _) | (with_reducible assumption) | (with_reducible refine Gr.alloc ?_ _) | (with_reducible refine Gr.drew ?_) | (with_reducible refine Gr.drewN ?_ _) | (with_reducible refine Gr.setCell ?_ (by simp <;> omega) _) | (with_reducible refine Gr.trans ?_ (by with_reducible assumption)) | exact Gr.refl _ | assumption | refine Gr.alloc ?_ _ | refine Gr.drew ?_ | refine Gr.drewN ?_ _ | refine Gr.setCell ?_ (by simp <;> omega) _ | refine Gr.trans ?_ (by assumption)))⟩

end Go.Proofs.YtnaflaokhldfnaaGreat
