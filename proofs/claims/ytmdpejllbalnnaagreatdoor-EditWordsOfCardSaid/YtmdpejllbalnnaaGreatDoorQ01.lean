/- Texts of the walks, merged. -/
import Derived.Test.YtmdpejllbalnnaaGreatDoorRows
import Derived.WalkKit
import Derived.ProofKit
import Derived.Lib.Hide
import Derived.Deep.Draws
import Derived.Deep.QuietTactic
import Derived.BigQuiet
import Derived.Deep.RegionHeld3
import Derived.Deep.DeepCutAuto
namespace Go.Proofs.YtmdpejllbalnnaaGreatDoor
set_option linter.unusedSimpArgs false
set_option linter.unusedVariables false
open Go.RowKit

def Gr (a b : World) : Prop := Below a.heap.size a b
theorem Gr.refl (a : World) : Gr a a := Below.refl _ _
theorem Gr.size {a b : World} (h : Gr a b) : a.heap.size ≤ b.heap.size := Below.size h
theorem Gr.trans {a b c : World} (h : Gr a b) (k : Gr b c) : Gr a c := Below.trans h (Below.mono k (Below.size h))
theorem Gr.alloc {a b : World} (h : Gr a b) (o : Obj) : Gr a (b.alloc o) := Below.alloc h (Below.size h) o
theorem Gr.drew {a b : World} (h : Gr a b) : Gr a b.drew := Below.drew h
theorem Gr.drewN {a b : World} (h : Gr a b) (n : Nat) : Gr a (b.drewN n) := Below.trans h ⟨rfl, rfl, rfl, Nat.le_refl _, fun _ _ => rfl⟩
theorem Gr.setCell {a b : World} (h : Gr a b) {p : Addr} (hp : a.heap.size ≤ p.block) (u : Value) : Gr a (b.setCell p u) := Below.setCell h hp u
theorem Gr.cells {a b : World} (h : Gr a b) : (∀ k o, k < a.heap.size → b.cell? ⟨k, o, none⟩ = a.cell? ⟨k, o, none⟩) ∧ (∀ k o, k < a.heap.size → b.frozen? ⟨k, o, none⟩ = a.frozen? ⟨k, o, none⟩) :=
  ⟨fun k o hk => Below.cell h (p := ⟨k, o, none⟩) hk, fun k o hk => Below.frozen h (p := ⟨k, o, none⟩) hk⟩
theorem Gr.keep {a b : World} (h : Gr a b) {p : Addr} {v : Value} (hv : a.cell? p = some v) : b.cell? p = some v := by
  rw [Below.cell h (World.block_lt_of_cell? a _ hv)]; exact hv
theorem Gr.below {a b : World} (h : Gr a b) : Below a.heap.size a b := h
/-- Block b holds the numbers xs (of kind k, element type t), and may be written. -/
def Arr (w : World) (b : Nat) (k : IntKind) (t : TypeId) (xs : List Int) : Prop := ∃ c : Array Value, c.toList = xs.map (Value.int k) ∧ w.heap[b]? = some (.cells c t (0, 0))
theorem Arr.lt {w : World} {b k t xs} (h : Arr w b k t xs) : b < w.heap.size := by
  obtain ⟨c, _, h⟩ := h
  rcases Nat.lt_or_ge b w.heap.size with g | g
  · exact g
  · rw [Array.getElem?_eq_none (by omega)] at h; simp at h
theorem Arr.cell {w : World} {b k t xs} (h : Arr w b k t xs) (i : Nat) (hi : i < xs.length) : w.cell? ⟨b, i, none⟩ = some (.int k (xs.getD i 0)) := by
  obtain ⟨c, hc, h⟩ := h
  rw [cell_of_row w b i c t (0, 0) h, ← Array.getElem?_toList, hc]
  simp [hi]
theorem Arr.frozen {w : World} {b k t xs} (h : Arr w b k t xs) (i : Nat) : w.frozen? ⟨b, i, none⟩ = false := by
  obtain ⟨c, _, h⟩ := h
  exact frozen_of_row w b i c t h
theorem Arr.set {w : World} {b k t xs} (h : Arr w b k t xs) (i : Nat) (x : Int) : Arr (w.setCell ⟨b, i, none⟩ (.int k x)) b k t (xs.set i x) := by
  obtain ⟨c, hc, h⟩ := h
  exact ⟨c.setIfInBounds i (.int k x), by rw [Array.toList_setIfInBounds, hc, List.map_set], heap_setCell_same w b i c t _ h⟩
theorem Arr.below {a w : World} {b k t xs} {B : Nat} (h : Arr a b k t xs) (g : Below B a w) (hb : b < B) : Arr w b k t xs := by
  obtain ⟨c, hc, h⟩ := h
  exact ⟨c, hc, by rw [g.block b hb]; exact h⟩
theorem Arr.gr {a w : World} {b k t xs} (h : Arr a b k t xs) (g : Gr a w) : Arr w b k t xs := h.below g h.lt
theorem Arr.alloc {w : World} {b k t xs} (h : Arr w b k t xs) (o : Obj) : Arr (w.alloc o) b k t xs := h.gr ((Gr.refl w).alloc o)
theorem Arr.drew {w : World} {b k t xs} (h : Arr w b k t xs) : Arr w.drew b k t xs := h
theorem Arr.drewN {w : World} {b k t xs} (h : Arr w b k t xs) (n : Nat) : Arr (w.drewN n) b k t xs := h
theorem Arr.set_other {w : World} {b k t xs} (h : Arr w b k t xs) (p : Addr) (u : Value) (hp : b ≠ p.block) : Arr (w.setCell p u) b k t xs := by
  obtain ⟨c, hc, h⟩ := h
  exact ⟨c, hc, by rw [Below.heap_setCell _ _ _ _ hp]; exact h⟩

/-- n zero cells of a kind: a name for what 'make' lays. -/
def mkz (k : IntKind) (n : Nat) : Array Value := madeCells #[.int k 0] n
theorem mkz_list (k : IntKind) (n : Nat) : (mkz k n).toList = (List.replicate n (0 : Int)).map (Value.int k) := by
  unfold mkz; rw [toList_madeCells_one]; simp
theorem Arr.made (w : World) (k : IntKind) (t : TypeId) (n : Nat) : Arr (w.alloc (.cells (mkz k n) t)) w.heap.size k t (List.replicate n 0) :=
  ⟨_, mkz_list k n, by show (w.heap.push _)[w.heap.size]? = _; simp⟩
theorem Arr.new (w : World) (k : IntKind) (t : TypeId) {c : Array Value} {xs : List Int} (h : c.toList = xs.map (Value.int k)) : Arr (w.alloc (.cells c t)) w.heap.size k t xs :=
  ⟨c, h, by show (w.heap.push _)[w.heap.size]? = _; simp⟩
theorem mkz_get (k : IntKind) (n i : Nat) (h : i < n) : (mkz k n)[i]? = some (.int k 0) := by
  rw [← Array.getElem?_toList, mkz_list]; simp [h]
theorem mkz_set (k : IntKind) (n i : Nat) (x : Int) : ((mkz k n).setIfInBounds i (.int k x)).toList = ((List.replicate n (0 : Int)).set i x).map (Value.int k) := by
  rw [Array.toList_setIfInBounds, mkz_list, List.map_set]
theorem run_mkz {P : Program} {t e : TypeId} {i : TypeInfo} {k : IntKind} {by_ : Nat} (ht : P.underlying t = some (.slice e)) (hi : P.info? e = some i) (hz : i.zero = some (.int k 0)) (h1 : i.size = 1) (h2 : i.bytes = by_)
    (N : Int) (n : Nat) (hN : N = n) (hb : by_ * n ≤ 281474976710656) (hm : n ≤ maxLen) (w : World) :
    (Instr.makeSlice t (.int .i64 N) (.int .i64 N)).run P w = .ok (.slice (some ⟨w.heap.size, 0, none⟩) n n) (w.alloc (.cells (mkz k n) e)) := by
  have h63 : (n : Int) ≤ 9223372036854775807 := by unfold maxLen at hm; omega
  have h := run_make (P := P) w t e i (.int k 0) ht hi hz .i64 .i64 N N (by omega) (Int.le_refl _) (by rw [h2]; subst hN; rw [← Int.natCast_mul]; exact Int.ofNat_le.2 hb) (by omega)
  rw [h, h1, Nat.mul_one]
  subst hN
  simp [mkz, Value.cells]

/-- A list by its length and its elements. -/
def fl (n : Nat) (f : Nat → Int) : List Int := (List.range n).map f
theorem fl_length (n : Nat) (f : Nat → Int) : (fl n f).length = n := by simp [fl]
theorem fl_getD {n : Nat} {f : Nat → Int} {i : Nat} (h : i < n) : (fl n f).getD i 0 = f i := by simp [fl, h]
theorem fl_congr {n : Nat} {f g : Nat → Int} (h : ∀ i, i < n → f i = g i) : fl n f = fl n g := by
  unfold fl; apply List.map_congr_left; intro i hi; exact h i (by simpa using hi)
theorem fl_set (n : Nat) (f : Nat → Int) (i : Nat) (x : Int) : (fl n f).set i x = fl n (fun j => if j = i then x else f j) := by
  apply List.ext_getElem
  · simp [fl]
  · intro j h1 h2; simp [fl, List.getElem_set]; by_cases h : i = j <;> simp [h, eq_comm]
theorem fl_zero (n : Nat) : List.replicate n (0 : Int) = fl n (fun _ => 0) := by
  apply List.ext_getElem <;> simp [fl]
theorem Arr.made_fl (w : World) (k : IntKind) (t : TypeId) (n : Nat) (f : Nat → Int) (h : ∀ i, i < n → f i = 0) : Arr (w.alloc (.cells (mkz k n) t)) w.heap.size k t (fl n f) := by
  have := Arr.made w k t n
  rw [fl_zero] at this
  rw [fl_congr (g := fun _ => 0) h]; exact this
theorem Arr.made_set_fl (w : World) (k : IntKind) (t : TypeId) (n j : Nat) (x : Int) (f : Nat → Int) (h : ∀ i, i < n → f i = if i = j then x else 0) : Arr (w.alloc (.cells ((mkz k n).setIfInBounds j (.int k x)) t)) w.heap.size k t (fl n f) := by
  have := Arr.new w k t (mkz_set k n j x)
  rw [fl_zero, fl_set] at this
  rw [fl_congr h]; exact this
theorem Arr.set_fl {w : World} {b k t n} {f g : Nat → Int} (h : Arr w b k t (fl n f)) (j : Nat) (x : Int) (hg : ∀ i, i < n → g i = if i = j then x else f i) : Arr (w.setCell ⟨b, j, none⟩ (.int k x)) b k t (fl n g) := by
  have := h.set j x
  rw [fl_set] at this
  rw [fl_congr hg]; exact this
theorem Arr.cell_fl {w : World} {b k t n} {f : Nat → Int} (h : Arr w b k t (fl n f)) (i : Nat) (hi : i < n) : w.cell? ⟨b, i, none⟩ = some (.int k (f i)) := by
  rw [h.cell i (by rw [fl_length]; exact hi), fl_getD hi]
theorem Arr.has {w : World} {b k t n} {f : Nat → Int} (h : Arr w b k t (fl n f)) (i : Nat) (hi : i < n) : ∃ v, w.cell? ⟨b, i, none⟩ = some v := ⟨_, h.cell_fl i hi⟩
theorem fl_eq {n : Nat} {xs : List Int} (h : xs.length = n) : xs = fl n (fun i => xs.getD i 0) := by
  apply List.ext_getElem
  · simp [fl, h]
  · intro j h1 h2; simp [fl, h1]

theorem ret_str {a b : ByteArray} (h : a = b) : Ending.returned (.string a) = .returned (.string b) := by rw [h]
theorem ret_int {k : IntKind} {a b : Int} (h : a = b) : Ending.returned (.int k a) = .returned (.int k b) := by rw [h]
theorem ret_bool {a b : Bool} (h : a = b) : Ending.returned (.bool a) = .returned (.bool b) := by rw [h]
end Go.Proofs.YtmdpejllbalnnaaGreatDoor
namespace Go.Proofs.YtmdpejllbalnnaaGreatDoor
set_option linter.unusedSimpArgs false
set_option linter.unusedVariables false
open Go.RowKit

def isNum (k : Int) : Bool := decide (k = 1) || decide (k = 2) || decide (k = 3)

theorem isNumeric_any (k l s : Int) (w : World) :
    Calls Tryz.prog 119 #[.agg #[.int .i64 k, .int .i64 l, .int .i64 s]] w fun e w' => e = .returned (.bool (isNum k)) ∧ Gr w w' := by
  go_enter Tryz.func119, Tryz.ntmps119
  go_wp2
  all_goals (go_ret; exact ⟨ret_bool (by grind [isNum]), (by repeat (first | (with_reducible exact Gr.refl _) | (with_reducible assumption) | (with_reducible refine Gr.alloc ?_ _) | (with_reducible refine Gr.drew ?_) | (with_reducible refine Gr.drewN ?_ _) | (with_reducible refine Gr.setCell ?_ (by simp <;> omega) _) | (with_reducible refine Gr.trans ?_ (by with_reducible assumption)) | exact Gr.refl _ | assumption | refine Gr.alloc ?_ _ | refine Gr.drew ?_ | refine Gr.drewN ?_ _ | refine Gr.setCell ?_ (by simp <;> omega) _ | refine Gr.trans ?_ (by assumption)))⟩)

def rightLen (k l : Int) : Bool :=
  if k = 0 then decide (1 ≤ l ∧ l ≤ 256) else if k = 3 then decide (l = 4 ∨ l = 9) else if k = 4 then decide (l = 0) else decide (1 ≤ l ∧ l ≤ 15)

theorem rightLength_any (k l s : Int) (w : World) :
    Calls Tryz.prog 100 #[.agg #[.int .i64 k, .int .i64 l, .int .i64 s]] w fun e w' => e = .returned (.bool (rightLen k l)) ∧ Gr w w' := by
  go_enter Tryz.func100, Tryz.ntmps100
  go_wp2
  all_goals (go_ret; exact ⟨ret_bool (by grind [rightLen]), (by repeat (first | (with_reducible exact Gr.refl _) | (with_reducible assumption) | (with_reducible refine Gr.alloc ?_ _) | (with_reducible refine Gr.drew ?_) | (with_reducible refine Gr.drewN ?_ _) | (with_reducible refine Gr.setCell ?_ (by simp <;> omega) _) | (with_reducible refine Gr.trans ?_ (by with_reducible assumption)) | exact Gr.refl _ | assumption | refine Gr.alloc ?_ _ | refine Gr.drew ?_ | refine Gr.drewN ?_ _ | refine Gr.setCell ?_ (by simp <;> omega) _ | refine Gr.trans ?_ (by assumption)))⟩)

def mostScale (k l : Int) : Int := if isNum k then l else 0
theorem greatestScale_any (k l s : Int) (w : World) :
    Calls Tryz.prog 101 #[.agg #[.int .i64 k, .int .i64 l, .int .i64 s]] w fun e w' => e = .returned (.int .i64 (mostScale k l)) ∧ Gr w w' := by
  go_enter Tryz.func101, Tryz.ntmps101
  go_wp2_with (go_at_call 119; refine (isNumeric_any _ _ _ _).mono ?_; rintro e w1 ⟨rfl, hb⟩; obtain ⟨hc, hf⟩ := hb.cells; have hz : w.heap.size < w1.heap.size := by have h := hb.size; (try simp at h); omega)
  all_goals (go_ret; exact ⟨ret_int (by grind [mostScale]), (by repeat (first | (with_reducible exact Gr.refl _) | (with_reducible assumption) | (with_reducible refine Gr.alloc ?_ _) | (with_reducible refine Gr.drew ?_) | (with_reducible refine Gr.drewN ?_ _) | (with_reducible refine Gr.setCell ?_ (by simp <;> omega) _) | (with_reducible refine Gr.trans ?_ (by with_reducible assumption)) | exact Gr.refl _ | assumption | refine Gr.alloc ?_ _ | refine Gr.drew ?_ | refine Gr.drewN ?_ _ | refine Gr.setCell ?_ (by simp <;> omega) _ | refine Gr.trans ?_ (by assumption)))⟩)

def typeErr (k l s : Int) : Int := if k < 0 ∨ 5 ≤ k then 4 else if rightLen k l = false then 18 else if s < 0 ∨ mostScale k l < s then 3 else 0

theorem CheckType_any (k l s : Int) (w : World) :
    Calls Tryz.prog 80 #[.agg #[.int .i64 k, .int .i64 l, .int .i64 s]] w fun e w' => e = .returned (.int .i64 (typeErr k l s)) ∧ Gr w w' := by
  by_cases hs : s < 0
  · go_enter Tryz.func80, Tryz.ntmps80
    go_wp2_with (go_at_call 100; refine (rightLength_any _ _ _ _).mono ?_; rintro e w1 ⟨rfl, hb⟩; obtain ⟨hc, hf⟩ := hb.cells; have hz : w.heap.size < w1.heap.size := by have h := hb.size; (try simp at h); omega)
    all_goals (try (go_ret; exact ⟨ret_int (by grind [typeErr]), (by repeat (first | (with_reducible exact Gr.refl _) | (with_reducible assumption) | (with_reducible refine Gr.alloc ?_ _) | (with_reducible refine Gr.drew ?_) | (with_reducible refine Gr.drewN ?_ _) | (with_reducible refine Gr.setCell ?_ (by simp <;> omega) _) | (with_reducible refine Gr.trans ?_ (by with_reducible assumption)) | exact Gr.refl _ | assumption | refine Gr.alloc ?_ _ | refine Gr.drew ?_ | refine Gr.drewN ?_ _ | refine Gr.setCell ?_ (by simp <;> omega) _ | refine Gr.trans ?_ (by assumption)))⟩))
    go_quiet (fail)
    go_wp2
    all_goals (go_ret; exact ⟨ret_int (by grind [typeErr]), (by repeat (first | (with_reducible exact Gr.refl _) | (with_reducible assumption) | (with_reducible refine Gr.alloc ?_ _) | (with_reducible refine Gr.drew ?_) | (with_reducible refine Gr.drewN ?_ _) | (with_reducible refine Gr.setCell ?_ (by simp <;> omega) _) | (with_reducible refine Gr.trans ?_ (by with_reducible assumption)) | exact Gr.refl _ | assumption | refine Gr.alloc ?_ _ | refine Gr.drew ?_ | refine Gr.drewN ?_ _ | refine Gr.setCell ?_ (by simp <;> omega) _ | refine Gr.trans ?_ (by assumption)))⟩)
  · have hs' : decide (s < 0) = false := by simpa using hs
    go_enter Tryz.func80, Tryz.ntmps80
    go_wp2_with (go_at_call 100; refine (rightLength_any _ _ _ _).mono ?_; rintro e w1 ⟨rfl, hb⟩; obtain ⟨hc, hf⟩ := hb.cells; have hz : w.heap.size < w1.heap.size := by have h := hb.size; (try simp at h); omega)
    all_goals (try (go_ret; exact ⟨ret_int (by grind [typeErr]), (by repeat (first | (with_reducible exact Gr.refl _) | (with_reducible assumption) | (with_reducible refine Gr.alloc ?_ _) | (with_reducible refine Gr.drew ?_) | (with_reducible refine Gr.drewN ?_ _) | (with_reducible refine Gr.setCell ?_ (by simp <;> omega) _) | (with_reducible refine Gr.trans ?_ (by with_reducible assumption)) | exact Gr.refl _ | assumption | refine Gr.alloc ?_ _ | refine Gr.drew ?_ | refine Gr.drewN ?_ _ | refine Gr.setCell ?_ (by simp <;> omega) _ | refine Gr.trans ?_ (by assumption)))⟩))
    go_region_held3 (fun w' => w'.cell? ⟨w.heap.size, 0, none⟩ = some (.int .i64 k) ∧ w'.cell? ⟨w.heap.size, 1, none⟩ = some (.int .i64 l) ∧ w'.cell? ⟨w.heap.size, 2, none⟩ = some (.int .i64 s)) (first | (go_keep; done) | ((try go_split_ands); (repeat' apply And.intro) <;> ((try simp only [World.cell?_drew]); first | (with_reducible assumption) | (refine hb.keep ?_; (try simp only [World.cell?_drew]); first | (with_reducible assumption) | (simp [*, go_sem]; done)) | (simp [*, go_sem]; done)))) ((go_at_call 101; refine (greatestScale_any _ _ _ _).mono ?_; rintro e w1 ⟨rfl, hb⟩; obtain ⟨hc, hf⟩ := hb.cells; have hz : w.heap.size < w1.heap.size := by have h := hb.size; (try simp at h); omega))
    go_wp2
    all_goals (go_ret; exact ⟨ret_int (by grind [typeErr]), (by repeat (first | (with_reducible exact Gr.refl _) | (with_reducible assumption) | (with_reducible refine Gr.alloc ?_ _) | (with_reducible refine Gr.drew ?_) | (with_reducible refine Gr.drewN ?_ _) | (with_reducible refine Gr.setCell ?_ (by simp <;> omega) _) | (with_reducible refine Gr.trans ?_ (by with_reducible assumption)) | exact Gr.refl _ | assumption | refine Gr.alloc ?_ _ | refine Gr.drew ?_ | refine Gr.drewN ?_ _ | refine Gr.setCell ?_ (by simp <;> omega) _ | refine Gr.trans ?_ (by assumption)))⟩)

def pick (b : Bool) (x : Int) : Int := if b then x else 0
theorem errorIf_any (b : Bool) (x : Int) (w : World) :
    Calls Tryz.prog 89 #[.bool b, .int .i64 x] w fun e w' => e = .returned (.int .i64 (pick b x)) ∧ w = w' := by
  go_enter Tryz.func89, Tryz.ntmps89
  go_wp2
  all_goals (go_ret; exact ⟨ret_int (by simp [pick, *]), rfl⟩)

/-- The first number that is not 0. -/
def first0 : List Int → Int
  | [] => 0
  | x :: l => if x = 0 then first0 l else x

theorem first0_drop (xs : List Int) (k : Nat) (h : k < xs.length) : first0 (xs.drop k) = if xs.getD k 0 = 0 then first0 (xs.drop (k + 1)) else xs.getD k 0 := by
  rw [List.drop_eq_getElem_cons h]; simp [first0, h]

theorem firstError_any (b n cap : Nat) (xs : List Int) (hn : xs.length = n) (hm : n ≤ 1000) (w : World)
    (hcell : ∀ i, i < n → w.cell? ⟨b, i, none⟩ = some (.int .i64 (xs.getD i 0))) :
    Calls Tryz.prog 88 #[.slice (some ⟨b, 0, none⟩) n cap] w fun e w' => e = .returned (.int .i64 (first0 xs)) ∧ w = w' := by
  have H := Lib.hid hn
  have HC := Lib.hid hcell
  clear hn hcell
  go_enter Tryz.func88, Tryz.ntmps88
  go_wp2
  go_loop [7] (fun i => ∃ k : Nat, k ≤ n ∧ i = .int .i64 k ∧ Hid (first0 (xs.drop k) = first0 xs)) (fun i => n - (intOf i).toNat)
  case atStart => exact ⟨0, Nat.zero_le _, rfl, rfl⟩
  case round =>
    obtain ⟨k, hk, rfl, hr⟩ := hrel
    by_cases hlt : k < n
    · have hc := HC.out k hlt
      have hd := Lib.hid (first0_drop xs k (by rw [H.out]; exact hlt))
      by_cases hz : xs.getD k 0 = 0
      · have hz' := Lib.hid hz
        rw [hz] at hc
        clear hz
        go_wp2
        go_round
        case rel => exact ⟨k + 1, by omega, by go_num, by have := hd.out; rw [if_pos hz'.out, hr.out] at this; exact this.symm⟩
        case measure => simp [intOf]; omega
      · obtain ⟨x, hx⟩ : ∃ x, xs.getD k 0 = x := ⟨_, rfl⟩
        rw [hx] at hc hz
        have hx' := Lib.hid hx
        clear hx
        go_wp2
        go_ret
        exact ⟨ret_int (by have := hd.out; rw [hx'.out, if_neg hz, hr.out] at this; exact this.symm), rfl⟩
    · have hkn := Lib.hid (show k = n by omega)
      go_wp2
      go_ret
      exact ⟨ret_int (by have := hr.out; rw [hkn.out, ← H.out, List.drop_length] at this; exact this), rfl⟩

theorem firstError2 (x0 x1 : Int) (b cap : Nat) (W : World) (h0 : W.cell? ⟨b, 0, none⟩ = some (.int .i64 x0)) (h1 : W.cell? ⟨b, 1, none⟩ = some (.int .i64 x1)) :
    Calls Tryz.prog 88 #[.slice (some ⟨b, 0, none⟩) 2 cap] W fun e w' => e = .returned (.int .i64 (first0 [x0, x1])) ∧ W = w' :=
  firstError_any b 2 cap [x0, x1] rfl (by decide) W (fun i hi => match i, hi with | 0, _ => h0 | 1, _ => h1 | i + 2, h => absurd h (by omega))

theorem firstError3 (x0 x1 x2 : Int) (b cap : Nat) (W : World) (h0 : W.cell? ⟨b, 0, none⟩ = some (.int .i64 x0)) (h1 : W.cell? ⟨b, 1, none⟩ = some (.int .i64 x1)) (h2 : W.cell? ⟨b, 2, none⟩ = some (.int .i64 x2)) :
    Calls Tryz.prog 88 #[.slice (some ⟨b, 0, none⟩) 3 cap] W fun e w' => e = .returned (.int .i64 (first0 [x0, x1, x2])) ∧ W = w' :=
  firstError_any b 3 cap [x0, x1, x2] rfl (by decide) W (fun i hi => match i, hi with | 0, _ => h0 | 1, _ => h1 | 2, _ => h2 | i + 3, h => absurd h (by omega))

theorem firstError4 (x0 x1 x2 x3 : Int) (b cap : Nat) (W : World) (h0 : W.cell? ⟨b, 0, none⟩ = some (.int .i64 x0)) (h1 : W.cell? ⟨b, 1, none⟩ = some (.int .i64 x1)) (h2 : W.cell? ⟨b, 2, none⟩ = some (.int .i64 x2)) (h3 : W.cell? ⟨b, 3, none⟩ = some (.int .i64 x3)) :
    Calls Tryz.prog 88 #[.slice (some ⟨b, 0, none⟩) 4 cap] W fun e w' => e = .returned (.int .i64 (first0 [x0, x1, x2, x3])) ∧ W = w' :=
  firstError_any b 4 cap [x0, x1, x2, x3] rfl (by decide) W (fun i hi => match i, hi with | 0, _ => h0 | 1, _ => h1 | 2, _ => h2 | 3, _ => h3 | i + 4, h => absurd h (by omega))

theorem firstError5 (x0 x1 x2 x3 x4 : Int) (b cap : Nat) (W : World) (h0 : W.cell? ⟨b, 0, none⟩ = some (.int .i64 x0)) (h1 : W.cell? ⟨b, 1, none⟩ = some (.int .i64 x1)) (h2 : W.cell? ⟨b, 2, none⟩ = some (.int .i64 x2)) (h3 : W.cell? ⟨b, 3, none⟩ = some (.int .i64 x3)) (h4 : W.cell? ⟨b, 4, none⟩ = some (.int .i64 x4)) :
    Calls Tryz.prog 88 #[.slice (some ⟨b, 0, none⟩) 5 cap] W fun e w' => e = .returned (.int .i64 (first0 [x0, x1, x2, x3, x4])) ∧ W = w' :=
  firstError_any b 5 cap [x0, x1, x2, x3, x4] rfl (by decide) W (fun i hi => match i, hi with | 0, _ => h0 | 1, _ => h1 | 2, _ => h2 | 3, _ => h3 | 4, _ => h4 | i + 5, h => absurd h (by omega))

theorem firstError6 (x0 x1 x2 x3 x4 x5 : Int) (b cap : Nat) (W : World) (h0 : W.cell? ⟨b, 0, none⟩ = some (.int .i64 x0)) (h1 : W.cell? ⟨b, 1, none⟩ = some (.int .i64 x1)) (h2 : W.cell? ⟨b, 2, none⟩ = some (.int .i64 x2)) (h3 : W.cell? ⟨b, 3, none⟩ = some (.int .i64 x3)) (h4 : W.cell? ⟨b, 4, none⟩ = some (.int .i64 x4)) (h5 : W.cell? ⟨b, 5, none⟩ = some (.int .i64 x5)) :
    Calls Tryz.prog 88 #[.slice (some ⟨b, 0, none⟩) 6 cap] W fun e w' => e = .returned (.int .i64 (first0 [x0, x1, x2, x3, x4, x5])) ∧ W = w' :=
  firstError_any b 6 cap [x0, x1, x2, x3, x4, x5] rfl (by decide) W (fun i hi => match i, hi with | 0, _ => h0 | 1, _ => h1 | 2, _ => h2 | 3, _ => h3 | 4, _ => h4 | 5, _ => h5 | i + 6, h => absurd h (by omega))

theorem checkValued_any (k l s : Int) (w : World) :
    Calls Tryz.prog 70 #[.agg #[.int .i64 k, .int .i64 l, .int .i64 s]] w fun e w' => e = .returned (.int .i64 (first0 [typeErr k l s, pick (k == 4) 17])) ∧ Gr w w' := by
  go_enter Tryz.func70, Tryz.ntmps70
  go_wp2
  go_region_held3 (fun w' => w'.cell? ⟨w.heap.size, 0, none⟩ = some (.int .i64 k) ∧ w'.cell? ⟨w.heap.size, 1, none⟩ = some (.int .i64 l) ∧ w'.cell? ⟨w.heap.size, 2, none⟩ = some (.int .i64 s)) (first | (go_keep; done) | ((try go_split_ands); (repeat' apply And.intro) <;> ((try simp only [World.cell?_drew]); first | (with_reducible assumption) | (refine hb.keep ?_; (try simp only [World.cell?_drew]); first | (with_reducible assumption) | (simp [*, go_sem]; done)) | (simp [*, go_sem]; done)))) (first | (go_at_call 80; refine (CheckType_any _ _ _ _).mono ?_; rintro e w1 ⟨rfl, hb⟩; obtain ⟨hc, hf⟩ := hb.cells; have hz : w.heap.size < w1.heap.size := by have h := hb.size; (try simp at h); omega) | (go_at_call 89; refine (errorIf_any _ _ _).mono ?_; rintro e w1 ⟨rfl, rfl⟩) | (go_at_call 88; refine (firstError2 (typeErr k l s) (pick (k == 4) 17) _ _ _ (by first | (simp; done) | (simp [go_sem]; done)) (by first | (simp; done) | (simp [go_sem]; done))).mono ?_; rintro e w1 ⟨rfl, rfl⟩))
  go_wp2
  go_ret
  exact ⟨rfl, (by repeat (first | (with_reducible exact Gr.refl _) | (with_reducible assumption) | (with_reducible refine Gr.alloc ?_ _) | (with_reducible refine Gr.drew ?_) | (with_reducible refine Gr.drewN ?_ _) | (with_reducible refine Gr.setCell ?_ (by simp <;> omega) _) | (with_reducible refine Gr.trans ?_ (by with_reducible assumption)) | exact Gr.refl _ | assumption | refine Gr.alloc ?_ _ | refine Gr.drew ?_ | refine Gr.drewN ?_ _ | refine Gr.setCell ?_ (by simp <;> omega) _ | refine Gr.trans ?_ (by assumption)))⟩

end Go.Proofs.YtmdpejllbalnnaaGreatDoor
namespace Go.Proofs.YtmdpejllbalnnaaGreatDoor
set_option linter.unusedSimpArgs false
set_option linter.unusedVariables false
open Go.RowKit

theorem pow_bd (k : Nat) (h : k ≤ 18) : 1 ≤ (10 : Int) ^ k ∧ (10 : Int) ^ k ≤ 1000000000000000000 := by
  have h1 : (10 : Nat) ^ k ≤ 10 ^ 18 := Nat.pow_le_pow_right (by omega) h
  have h2 : 0 < (10 : Nat) ^ k := Nat.pow_pos (by omega)
  have e : ((10 ^ k : Nat) : Int) = (10 : Int) ^ k := by simp
  rw [← e]
  have e18 : (10 : Nat) ^ 18 = 1000000000000000000 := by decide
  rw [e18] at h1
  omega

def p10 (n : Int) : Int := 10 ^ n.toNat
theorem p10_bd (n : Int) (h : n ≤ 18) : 1 ≤ p10 n ∧ p10 n ≤ 1000000000000000000 := pow_bd _ (by omega)

theorem powerOfTen_any (n : Int) (h : n ≤ 18) (w : World) :
    Calls Tryz.prog 111 #[.int .i64 n] w fun e w' => e = .returned (.int .i64 (p10 n)) ∧ w = w' := by
  go_enter Tryz.func111, Tryz.ntmps111
  go_wp2
  go_loop [3, 5] (fun p i => ∃ k : Nat, (k : Int) ≤ max n 0 ∧ i = .int .i64 k ∧ p = .int .i64 (10 ^ k)) (fun _ i => n.toNat - (intOf i).toNat)
  case atStart => exact ⟨0, by omega, rfl, rfl⟩
  case round =>
    obtain ⟨k, hk, rfl, rfl⟩ := hrel
    have hb := pow_bd k (by omega)
    by_cases hlt : (k : Int) < n
    · have hb1 := pow_bd (k + 1) (by omega)
      rw [Int.pow_succ] at hb1
      go_wp2
      go_round
      case rel => exact ⟨k + 1, by omega, by go_num, by rw [Int.pow_succ]⟩
      case measure => simp [intOf]; omega
    · go_wp2
      go_ret
      exact ⟨ret_int (by unfold p10; congr 1; omega), rfl⟩

def most (l : Int) : Int := p10 l - 1
theorem greatest_any (k l s : Int) (h : l ≤ 18) (w : World) :
    Calls Tryz.prog 90 #[.agg #[.int .i64 k, .int .i64 l, .int .i64 s]] w fun e w' => e = .returned (.int .i64 (most l)) ∧ Gr w w' := by
  have hp := p10_bd l h
  go_enter Tryz.func90, Tryz.ntmps90
  go_wp2_with (go_at_call 111; refine (powerOfTen_any _ h _).mono ?_; rintro e w1 ⟨rfl, rfl⟩)
  go_ret
  exact ⟨rfl, (by repeat (first | (with_reducible exact Gr.refl _) | (with_reducible assumption) | (with_reducible refine Gr.alloc ?_ _) | (with_reducible refine Gr.drew ?_) | (with_reducible refine Gr.drewN ?_ _) | (with_reducible refine Gr.setCell ?_ (by simp <;> omega) _) | (with_reducible refine Gr.trans ?_ (by with_reducible assumption)) | exact Gr.refl _ | assumption | refine Gr.alloc ?_ _ | refine Gr.drew ?_ | refine Gr.drewN ?_ _ | refine Gr.setCell ?_ (by simp <;> omega) _ | refine Gr.trans ?_ (by assumption)))⟩

def fitsB (n l : Int) : Bool := decide (-(most l) ≤ n ∧ n ≤ most l)
theorem fits_any (n k l s : Int) (h : l ≤ 18) (w : World) :
    Calls Tryz.prog 72 #[.int .i64 n, .agg #[.int .i64 k, .int .i64 l, .int .i64 s]] w fun e w' => e = .returned (.bool (fitsB n l)) ∧ Gr w w' := by
  have hp : 0 ≤ most l ∧ most l ≤ 1000000000000000000 := by have := p10_bd l h; unfold most; omega
  go_enter Tryz.func72, Tryz.ntmps72
  go_wp2_with (go_at_call 90; refine (greatest_any _ _ _ h _).mono ?_; rintro e w1 ⟨rfl, hb⟩; obtain ⟨hc, hf⟩ := hb.cells; have hz : w.heap.size < w1.heap.size := by have h := hb.size; (try simp at h); omega)
  all_goals (go_ret; exact ⟨ret_bool (by grind [fitsB]), (by repeat (first | (with_reducible exact Gr.refl _) | (with_reducible assumption) | (with_reducible refine Gr.alloc ?_ _) | (with_reducible refine Gr.drew ?_) | (with_reducible refine Gr.drewN ?_ _) | (with_reducible refine Gr.setCell ?_ (by simp <;> omega) _) | (with_reducible refine Gr.trans ?_ (by with_reducible assumption)) | exact Gr.refl _ | assumption | refine Gr.alloc ?_ _ | refine Gr.drew ?_ | refine Gr.drewN ?_ _ | refine Gr.setCell ?_ (by simp <;> omega) _ | refine Gr.trans ?_ (by assumption)))⟩)

set_option maxRecDepth 100000 in
theorem checkString_any (k l s n : Int) (x : ByteArray) (w : World) :
    Calls Tryz.prog 71 #[.agg #[.int .i64 k, .int .i64 l, .int .i64 s], .agg #[.int .i64 n, .string x]] w fun e w' => e = .returned (.int .i64 (first0 [pick (n != 0) 5, pick ((x.size : Int) != l) 18])) ∧ Gr w w' := by
  go_enter Tryz.func71, Tryz.ntmps71
  go_wp2
  go_region_held3 (fun w' => w'.cell? ⟨w.heap.size, 0, none⟩ = some (.int .i64 k) ∧ w'.cell? ⟨w.heap.size, 1, none⟩ = some (.int .i64 l) ∧ w'.cell? ⟨w.heap.size, 2, none⟩ = some (.int .i64 s) ∧ w'.cell? ⟨w.heap.size + 1, 0, none⟩ = some (.int .i64 n) ∧ w'.cell? ⟨w.heap.size + 1, 1, none⟩ = some (.string x)) (first | (go_keep; done) | ((try go_split_ands); (repeat' apply And.intro) <;> ((try simp only [World.cell?_drew]); first | (with_reducible assumption) | (refine hb.keep ?_; (try simp only [World.cell?_drew]); first | (with_reducible assumption) | (simp [*, go_sem]; done)) | (simp [*, go_sem]; done)))) (first | (go_at_call 89; refine (errorIf_any _ _ _).mono ?_; rintro e w1 ⟨rfl, rfl⟩) | (go_at_call 88; refine (firstError2 (pick (n != 0) 5) (pick ((x.size : Int) != l) 18) _ _ _ (by first | (simp; done) | (simp [go_sem]; done)) (by first | (simp; done) | (simp [go_sem]; done))).mono ?_; rintro e w1 ⟨rfl, rfl⟩))
  go_wp2
  go_ret
  exact ⟨rfl, (by repeat (first | (with_reducible exact Gr.refl _) | (with_reducible assumption) | (with_reducible refine Gr.alloc ?_ _) | (with_reducible refine Gr.drew ?_) | (with_reducible refine Gr.drewN ?_ _) | (with_reducible refine Gr.setCell ?_ (by simp <;> omega) _) | (with_reducible refine Gr.trans ?_ (by with_reducible assumption)) | exact Gr.refl _ | assumption | refine Gr.alloc ?_ _ | refine Gr.drew ?_ | refine Gr.drewN ?_ _ | refine Gr.setCell ?_ (by simp <;> omega) _ | refine Gr.trans ?_ (by assumption)))⟩

end Go.Proofs.YtmdpejllbalnnaaGreatDoor
namespace Go.Proofs.YtmdpejllbalnnaaGreatDoor
set_option linter.unusedSimpArgs false
set_option linter.unusedVariables false
open Go.RowKit

theorem info5 : (Tryz.prog.info? 5).map (fun i => (i.zero, i.size, i.bytes)) = some (some (.int .u8 0), 1, 1) := by kernel_rfl
theorem info3 : (Tryz.prog.info? 3).map (fun i => (i.zero, i.size, i.bytes)) = some (some (.int .i64 0), 1, 8) := by kernel_rfl

/-- make([]byte, n), make([]int, n) -/
theorem mk_bytes (N : Int) (n : Nat) (hN : N = n) (hb : n ≤ 100000) (w : World) :
    (Instr.makeSlice 80 (.int .i64 N) (.int .i64 N)).run Tryz.prog w = .ok (.slice (some ⟨w.heap.size, 0, none⟩) n n) (w.alloc (.cells (mkz .u8 n) 5)) := by
  obtain ⟨i0, hi, hz0, hz1, hz2⟩ := info_parts info5
  exact run_mkz Tryz.underlying80 hi hz0 hz1 hz2 N n hN (by omega) (by unfold maxLen; omega) w
theorem mk_ints (N : Int) (n : Nat) (hN : N = n) (hb : n ≤ 100000) (w : World) :
    (Instr.makeSlice 74 (.int .i64 N) (.int .i64 N)).run Tryz.prog w = .ok (.slice (some ⟨w.heap.size, 0, none⟩) n n) (w.alloc (.cells (mkz .i64 n) 3)) := by
  obtain ⟨i0, hi, hz0, hz1, hz2⟩ := info_parts info3
  exact run_mkz Tryz.underlying74 hi hz0 hz1 hz2 N n hN (by omega) (by unfold maxLen; omega) w
/-- string(bytes) -/
theorem str_of {w : World} {b n cap : Nat} {t : TypeId} {xs : List Int} (h : Arr w b .u8 t xs) (hn : xs.length = n) :
    (convert 80 9 (.slice (some ⟨b, 0, none⟩) n cap)).run Tryz.prog w = .ok (.string (strOfNums xs)) w :=
  run_convert_bytes_arg w 80 5 Tryz.underlying80 Tryz.underlying5 b 0 n cap xs hn (fun i hi => by rw [Nat.zero_add]; exact h.cell i (by omega)) 9 Tryz.underlying9

theorem u8_or4 (x y : Int) (h0 : 0 ≤ x) (h1 : x % 16 = 0) (h2 : x < 256) (h3 : 0 ≤ y) (h4 : y < 16) : bits .or .u8 x y = x + y :=
  bits_join .u8 8 (by decide) wraps_u8 4 x y h0 h1 h2 h3 h4 (by omega)

/-- Digit number i of an amount, from the lowest one on. -/
def dig (a : Int) (i : Nat) : Int := a / 10 ^ i % 10
theorem dig_bd (a : Int) (i : Nat) : 0 ≤ dig a i ∧ dig a i ≤ 9 := by unfold dig; omega
theorem div_step (a : Int) (k : Nat) : a / 10 ^ k / 10 = a / 10 ^ (k + 1) := by
  rw [Int.pow_succ, Int.ediv_ediv_of_nonneg (Int.le_of_lt (Int.pow_pos (by omega)))]
theorem div_bd (a : Int) (k : Nat) (h : 0 ≤ a) : 0 ≤ a / 10 ^ k ∧ a / 10 ^ k ≤ a := by
  have hp : (0 : Int) < 10 ^ k := Int.pow_pos (by omega)
  exact ⟨Int.ediv_nonneg h (by omega), Int.ediv_le_self _ h⟩

def sizeI (k l : Int) : Int := if k = 1 then l / 2 + 1 else if k = 3 then (if l = 4 then 2 else 4) else if k = 4 then 16 else l
def absI (n : Int) : Int := if n < 0 then -n else n
def signI (n : Int) : Int := if n < 0 then 13 else 15
/-- The bytes of a zoned number. -/
def znB (n : Int) (L : Nat) : List Int := fl L (fun j => if j = L - 1 then 16 * signI n + dig (absI n) 0 else 240 + dig (absI n) (L - 1 - j))

end Go.Proofs.YtmdpejllbalnnaaGreatDoor
namespace Go.Proofs.YtmdpejllbalnnaaGreatDoor
set_option linter.unusedSimpArgs false
set_option linter.unusedVariables false
open Go.RowKit

/-- The bytes of a number in the two's complement, the highest one first. -/
def bnB (n : Int) (L : Nat) : List Int := fl L (fun j => n / 2 ^ (8 * (L - 1 - j)) % 256)

/-- The half bytes of a packed number. -/
def pkH (n : Int) (S : Nat) : List Int := fl (2 * S) (fun j => if j = 2 * S - 1 then signI n else dig (absI n) (2 * S - 2 - j))
def pkB (n : Int) (S : Nat) : List Int := fl S (fun i => 16 * (pkH n S).getD (2 * i) 0 + (pkH n S).getD (2 * i + 1) 0)

theorem signI_bd (n : Int) : signI n = 13 ∨ signI n = 15 := by unfold signI; split <;> simp
theorem pkH_bd (n : Int) (S i : Nat) : 0 ≤ (pkH n S).getD i 0 ∧ (pkH n S).getD i 0 ≤ 15 := by
  by_cases h : i < 2 * S
  · unfold pkH
    rw [fl_getD h]
    have h1 := signI_bd n
    have h2 := dig_bd (absI n) (2 * S - 2 - i)
    split <;> omega
  · have : (pkH n S).getD i 0 = 0 := by rw [List.getD_eq_getElem?_getD, List.getElem?_eq_none (by unfold pkH; rw [fl_length]; omega)]; rfl
    omega

def strB (k l n : Int) (x : ByteArray) : ByteArray :=
  if k = 1 then strOfNums (pkB n (sizeI 1 l).toNat) else if k = 2 then strOfNums (znB n l.toNat) else if k = 3 then strOfNums (bnB n (sizeI 3 l).toNat) else x

/-- CheckValue's error. -/
def valErr (k l s n : Int) (x : ByteArray) : Int :=
  if typeErr k l s ≠ 0 then typeErr k l s else if k = 4 then 17 else if k = 0 then first0 [pick (n != 0) 5, pick ((x.size : Int) != l) 18]
  else if x.size ≠ 0 then 5 else if fitsB n l then 0 else 19

theorem typeErr_len {k l s : Int} (h : typeErr k l s = 0) (hk : k ≠ 4) : 1 ≤ l ∧ l ≤ 256 ∧ (k ≠ 0 → l ≤ 15) ∧ 0 ≤ k ∧ k < 5 := by
  have h' : rightLen k l = true := by unfold typeErr at h; by_cases e : rightLen k l <;> simp_all; split at h <;> omega
  have h2 : 0 ≤ k ∧ k < 5 := by unfold typeErr at h; split at h <;> omega
  unfold rightLen at h'
  by_cases a : k = 0
  · simp [a] at h'; omega
  · by_cases b : k = 3
    · simp [b] at h'; omega
    · simp [a, b, hk] at h'; omega

theorem isEmpty_size (x : ByteArray) : x.toList.isEmpty = decide (x.size = 0) := by
  rw [ByteArray.toList_eq]
  show x.data.toList.isEmpty = decide (x.data.size = 0)
  rw [← Array.length_toList]
  cases x.data.toList <;> simp

set_option maxHeartbeats 1000000 in
set_option maxRecDepth 100000 in
theorem CheckValue_any (k l s n : Int) (x : ByteArray) (w : World) :
    Calls Tryz.prog 33 #[.agg #[.int .i64 k, .int .i64 l, .int .i64 s], .agg #[.int .i64 n, .string x]] w fun e w' => e = .returned (.int .i64 (valErr k l s n x)) ∧ Gr w w' := by
  by_cases he : first0 [typeErr k l s, pick (k == 4) 17] = 0
  · have hb0 : (first0 [typeErr k l s, pick (k == 4) 17] != 0) = false := by simp [he]
    have h1 : typeErr k l s = 0 := by by_cases h : typeErr k l s = 0; exact h; simp [first0, h] at he
    have h2 : k ≠ 4 := by intro h; subst h; simp [first0, pick, h1] at he
    obtain ⟨l0, l1, l2, _, _⟩ := typeErr_len h1 h2
    have H1 := Lib.hid h1
    have hx := isEmpty_size x
    have HX := Lib.hid hx
    clear he h1 hx
    by_cases k0 : k = 0
    · subst k0
      have hb1 : (first0 [typeErr 0 l s, pick false 17] != 0) = false := hb0
      clear l2 h2 hb0
      go_enter Tryz.func33, Tryz.ntmps33
      go_wp2_with (first | (go_at_call 70; refine (checkValued_any _ _ _ _).mono ?_; rintro e w1 ⟨rfl, hb⟩; obtain ⟨hc, hf⟩ := hb.cells; have hz : w.heap.size + 1 < w1.heap.size := (by have h := hb.size; (try simp at h); omega); have hz0 : w.heap.size < w1.heap.size := by omega) | (go_at_call 71; refine (checkString_any _ _ _ _ _ _).mono ?_; rintro e w1 ⟨rfl, hb⟩; obtain ⟨hc, hf⟩ := hb.cells; have hz : w.heap.size + 1 < w1.heap.size := (by have h := hb.size; (try simp at h); omega); have hz0 : w.heap.size < w1.heap.size := by omega))
      go_ret
      exact ⟨ret_int (by have e1 := H1.out; simp [valErr, e1]), (by repeat (first | (with_reducible exact Gr.refl _) | (with_reducible assumption) | (with_reducible refine Gr.alloc ?_ _) | (with_reducible refine Gr.drew ?_) | (with_reducible refine Gr.drewN ?_ _) | (with_reducible refine Gr.setCell ?_ (by simp <;> omega) _) | (with_reducible refine Gr.trans ?_ (by with_reducible assumption)) | exact Gr.refl _ | assumption | refine Gr.alloc ?_ _ | refine Gr.drew ?_ | refine Gr.drewN ?_ _ | refine Gr.setCell ?_ (by simp <;> omega) _ | refine Gr.trans ?_ (by assumption)))⟩
    · have hk : (k == 0) = false := by simp [k0]
      have H0 := Lib.hid k0
      have H2 := Lib.hid h2
      have L2 := l2 k0
      clear k0 h2 l2
      go_enter Tryz.func33, Tryz.ntmps33
      go_wp2_with (first | (go_at_call 70; refine (checkValued_any _ _ _ _).mono ?_; rintro e w1 ⟨rfl, hb⟩; obtain ⟨hc, hf⟩ := hb.cells; have hz : w.heap.size + 1 < w1.heap.size := (by have h := hb.size; (try simp at h); omega); have hz0 : w.heap.size < w1.heap.size := by omega) | (go_at_call 72; refine (fits_any _ _ _ _ (by omega) _).mono ?_; rintro e w1 ⟨rfl, hb⟩; obtain ⟨hc, hf⟩ := hb.cells; have hz : w.heap.size + 1 < w1.heap.size := (by have h := hb.size; (try simp at h); omega); have hz0 : w.heap.size < w1.heap.size := by omega))
      all_goals (go_ret; exact ⟨ret_int (by have e1 := H1.out; have e2 := HX.out; have e3 := H2.out; have e4 := H0.out; grind [valErr]), (by repeat (first | (with_reducible exact Gr.refl _) | (with_reducible assumption) | (with_reducible refine Gr.alloc ?_ _) | (with_reducible refine Gr.drew ?_) | (with_reducible refine Gr.drewN ?_ _) | (with_reducible refine Gr.setCell ?_ (by simp <;> omega) _) | (with_reducible refine Gr.trans ?_ (by with_reducible assumption)) | exact Gr.refl _ | assumption | refine Gr.alloc ?_ _ | refine Gr.drew ?_ | refine Gr.drewN ?_ _ | refine Gr.setCell ?_ (by simp <;> omega) _ | refine Gr.trans ?_ (by assumption)))⟩)
  · have hb0 : (first0 [typeErr k l s, pick (k == 4) 17] != 0) = true := by simp [he]
    have HE := Lib.hid he
    clear he
    go_enter Tryz.func33, Tryz.ntmps33
    go_wp2_with (go_at_call 70; refine (checkValued_any _ _ _ _).mono ?_; rintro e w1 ⟨rfl, hb⟩; obtain ⟨hc, hf⟩ := hb.cells; have hz : w.heap.size + 1 < w1.heap.size := (by have h := hb.size; (try simp at h); omega); have hz0 : w.heap.size < w1.heap.size := by omega)
    go_ret
    exact ⟨ret_int (by have e1 := HE.out; grind [valErr, first0, pick]), (by repeat (first | (with_reducible exact Gr.refl _) | (with_reducible assumption) | (with_reducible refine Gr.alloc ?_ _) | (with_reducible refine Gr.drew ?_) | (with_reducible refine Gr.drewN ?_ _) | (with_reducible refine Gr.setCell ?_ (by simp <;> omega) _) | (with_reducible refine Gr.trans ?_ (by with_reducible assumption)) | exact Gr.refl _ | assumption | refine Gr.alloc ?_ _ | refine Gr.drew ?_ | refine Gr.drewN ?_ _ | refine Gr.setCell ?_ (by simp <;> omega) _ | refine Gr.trans ?_ (by assumption)))⟩

theorem valErr_ok {k l s n : Int} {x : ByteArray} (h : valErr k l s n x = 0) : typeErr k l s = 0 ∧ k ≠ 4 ∧ 1 ≤ l ∧ l ≤ 256 ∧ -1000000000000000000 ≤ n ∧ n ≤ 1000000000000000000 := by
  have h1 : typeErr k l s = 0 := by unfold valErr at h; split at h <;> omega
  have h2 : k ≠ 4 := by intro e; subst e; simp [valErr, h1] at h
  obtain ⟨l0, l1, l2, _, _⟩ := typeErr_len h1 h2
  refine ⟨h1, h2, l0, l1, ?_⟩
  by_cases k0 : k = 0
  · subst k0
    have : n = 0 := by
      by_cases hn : n = 0
      · exact hn
      · simp [valErr, h1, first0, pick, hn] at h
    omega
  · have h3 : fitsB n l = true := by
      by_cases hf : fitsB n l = true
      · exact hf
      · by_cases hx : x.size = 0 <;> simp [valErr, h1, h2, k0, hf, hx] at h
    have := p10_bd l (by omega)
    simp only [fitsB, decide_eq_true_eq] at h3
    unfold most at h3
    omega

end Go.Proofs.YtmdpejllbalnnaaGreatDoor
namespace Go.Proofs.YtmdpejllbalnnaaGreatDoor
set_option linter.unusedSimpArgs false
set_option linter.unusedVariables false
open Go.RowKit

def withinB (a b c : Int) : Bool := decide (b ≤ a) && decide (a ≤ c)
theorem Within_any (a b c : Int) (w : World) :
    Calls Tryz.prog 26 #[.int .i64 a, .int .i64 b, .int .i64 c] w fun e w' => e = .returned (.bool (withinB a b c)) ∧ w = w' := by
  go_enter Tryz.func26, Tryz.ntmps26
  go_wp2
  all_goals (go_ret; exact ⟨ret_bool (by grind [withinB]), rfl⟩)

def countI (b : Bool) : Int := if b then 1 else 0
theorem countI_bd (b : Bool) : 0 ≤ countI b ∧ countI b ≤ 1 := by unfold countI; split <;> omega
theorem Count_any (b : Bool) (w : World) :
    Calls Tryz.prog 53 #[.bool b] w fun e w' => e = .returned (.int .i64 (countI b)) ∧ w = w' ∧ 0 ≤ countI b ∧ countI b ≤ 1 := by
  go_enter Tryz.func53, Tryz.ntmps53
  go_wp2
  all_goals (go_ret; exact ⟨ret_int (by simp [countI, *]), rfl, countI_bd _⟩)

theorem IsNumeric_any (k : Int) (w : World) :
    Calls Tryz.prog 30 #[.int .i64 k] w fun e w' => e = .returned (.bool (withinB k 1 3)) ∧ w = w' := by
  go_enter Tryz.func30, Tryz.ntmps30
  go_wp2_with (go_at_call 26; refine (Within_any _ _ _ _).mono ?_; rintro e w1 ⟨rfl, rfl⟩)
  go_ret
  exact ⟨rfl, rfl⟩

set_option maxHeartbeats 1000000 in
theorem TypeErr_any (k l s : Int) (w : World) :
    Calls Tryz.prog 29 #[.agg #[.int .i64 k, .int .i64 l, .int .i64 s]] w fun e w' => e = .returned (.int .i64 (typeErr k l s)) ∧ Gr w w' := by
  go_enter Tryz.func29, Tryz.ntmps29
  go_wp2_with (first | (go_at_call 26; refine (Within_any _ _ _ _).mono ?_; rintro e w1 ⟨rfl, rfl⟩) | (go_at_call 30; refine (IsNumeric_any _ _).mono ?_; rintro e w1 ⟨rfl, rfl⟩) | (go_at_call 53; refine (Count_any _ _).mono ?_; rintro e w1 ⟨rfl, rfl, hc0, hc1⟩))
  all_goals (go_ret; exact ⟨ret_int (by grind [typeErr, withinB, countI, rightLen, mostScale, isNum]), (by repeat (first | (with_reducible exact Gr.refl _) | (with_reducible assumption) | (with_reducible refine Gr.alloc ?_ _) | (with_reducible refine Gr.drew ?_) | (with_reducible refine Gr.drewN ?_ _) | (with_reducible refine Gr.setCell ?_ (by simp <;> omega) _) | (with_reducible refine Gr.trans ?_ (by with_reducible assumption)) | exact Gr.refl _ | assumption | refine Gr.alloc ?_ _ | refine Gr.drew ?_ | refine Gr.drewN ?_ _ | refine Gr.setCell ?_ (by simp <;> omega) _ | refine Gr.trans ?_ (by assumption)))⟩)

theorem Power_any (n : Int) (h : n ≤ 18) (w : World) :
    Calls Tryz.prog 79 #[.int .i64 n] w fun e w' => e = .returned (.int .i64 (p10 n)) ∧ w = w' := by
  go_enter Tryz.func79, Tryz.ntmps79
  go_wp2
  go_loop [3, 4] (fun p i => ∃ k : Nat, (k : Int) ≤ max n 0 ∧ i = .int .i64 k ∧ p = .int .i64 (10 ^ k)) (fun _ i => n.toNat - (intOf i).toNat)
  case atStart => exact ⟨0, by omega, rfl, rfl⟩
  case round =>
    obtain ⟨k, hk, rfl, rfl⟩ := hrel
    have hb := pow_bd k (by omega)
    by_cases hlt : (k : Int) < n
    · have hb1 := pow_bd (k + 1) (by omega)
      rw [Int.pow_succ] at hb1
      go_wp2
      go_round
      case rel => exact ⟨k + 1, by omega, by go_num, by rw [Int.pow_succ]⟩
      case measure => simp [intOf]; omega
    · go_wp2
      go_ret
      exact ⟨ret_int (by unfold p10; congr 1; omega), rfl⟩

theorem Most_any (k l s : Int) (h : l ≤ 18) (w : World) :
    Calls Tryz.prog 55 #[.agg #[.int .i64 k, .int .i64 l, .int .i64 s]] w fun e w' => e = .returned (.int .i64 (most l)) ∧ Gr w w' := by
  have hp := p10_bd l h
  go_enter Tryz.func55, Tryz.ntmps55
  go_wp2_with (go_at_call 79; refine (Power_any _ h _).mono ?_; rintro e w1 ⟨rfl, rfl⟩)
  go_ret
  exact ⟨rfl, (by repeat (first | (with_reducible exact Gr.refl _) | (with_reducible assumption) | (with_reducible refine Gr.alloc ?_ _) | (with_reducible refine Gr.drew ?_) | (with_reducible refine Gr.drewN ?_ _) | (with_reducible refine Gr.setCell ?_ (by simp <;> omega) _) | (with_reducible refine Gr.trans ?_ (by with_reducible assumption)) | exact Gr.refl _ | assumption | refine Gr.alloc ?_ _ | refine Gr.drew ?_ | refine Gr.drewN ?_ _ | refine Gr.setCell ?_ (by simp <;> omega) _ | refine Gr.trans ?_ (by assumption)))⟩

theorem Amount_any (n : Int) (h : -1000000000000000000 ≤ n) (h' : n ≤ 1000000000000000000) (w : World) :
    Calls Tryz.prog 87 #[.int .i64 n] w fun e w' => e = .returned (.int .i64 (absI n)) ∧ w = w' := by
  go_enter Tryz.func87, Tryz.ntmps87
  go_wp2
  all_goals (go_ret; exact ⟨ret_int (by grind [absI]), rfl⟩)

end Go.Proofs.YtmdpejllbalnnaaGreatDoor
