/- Texts of the walks, merged. -/
import Derived.Test.YtmdpejllbalnnaaGreatDoorQ04
import Derived.Lib.IndexAny
namespace Go.Proofs.YtmdpejllbalnnaaGreatDoor
set_option linter.unusedSimpArgs false
set_option linter.unusedVariables false
open Go.RowKit

/-- Bytes as a string. -/
def BL (l : List UInt8) : ByteArray := ⟨l.toArray⟩
theorem BL_list (l : List UInt8) : (BL l).data.toList = l := by simp [BL]
theorem BL_of (x : ByteArray) : BL x.data.toList = x := by
  obtain ⟨⟨l⟩⟩ := x
  rfl
theorem BL_ext {x y : ByteArray} (h : x.data.toList = y.data.toList) : x = y := by rw [← BL_of x, ← BL_of y, h]
theorem BL_append (a b : List UInt8) : BL a ++ BL b = BL (a ++ b) := BL_ext (by rw [ByteArray.data_append, Array.toList_append, BL_list, BL_list, BL_list])
theorem BL_size (l : List UInt8) : (BL l).size = l.length := by show l.toArray.size = _; simp
theorem BL_cut (l : List UInt8) (i j : Nat) : (BL l).extract i j = BL ((l.drop i).take (j - i)) := BL_ext (by rw [ByteArray.data_extract, Array.toList_extract, BL_list, BL_list])

/-- Zeros and commas in front. -/
def zc (b : UInt8) : Bool := b == 48 || b == 44
def fz (l : List UInt8) : Nat := (l.takeWhile zc).length
/-- Blanks in the place of the first m bytes. -/
def sup (l : List UInt8) (m : Nat) : List UInt8 := List.replicate m 32 ++ l.drop m
theorem fz_le (l : List UInt8) : fz l ≤ l.length := by
  unfold fz
  induction l with
  | nil => simp
  | cons a l ih => rw [List.takeWhile_cons]; split <;> simp <;> omega
theorem fz_snoc (l : List UInt8) (x : UInt8) : fz (l ++ [x]) = if fz l < l.length then fz l else if zc x then l.length + 1 else l.length := by
  unfold fz
  induction l with
  | nil => simp [List.takeWhile_cons]; split <;> simp_all
  | cons a l ih =>
    rw [List.cons_append, List.takeWhile_cons, List.takeWhile_cons]
    by_cases h : zc a = true
    · rw [if_pos h, if_pos h]
      simp only [List.length_cons]
      rw [ih]
      repeat' split
      all_goals omega
    · rw [if_neg h, if_neg h]; simp
theorem sup_snoc (l : List UInt8) (x : UInt8) (m : Nat) (h : m ≤ l.length) : sup (l ++ [x]) m = sup l m ++ [x] := by
  unfold sup
  rw [List.drop_append_of_le_length h, List.append_assoc]
theorem sup_all (l : List UInt8) : sup l l.length = List.replicate l.length 32 := by unfold sup; simp
theorem sup_len (l : List UInt8) (m : Nat) (h : m ≤ l.length) : (sup l m).length = l.length := by unfold sup; simp; omega
/-- Does a digit count in it? -/
def cB (l : List UInt8) : Bool := decide (fz l < l.length)
/-- A byte behind: kept, or a blank. -/
theorem sup_step (l : List UInt8) (x : UInt8) : sup (l ++ [x]) (fz (l ++ [x])) = sup l (fz l) ++ [if cB l || !zc x then x else 32] ∧ cB (l ++ [x]) = (cB l || !zc x) := by
  have hl := fz_le l
  unfold cB
  rw [fz_snoc]
  by_cases h : fz l < l.length
  · rw [if_pos h, decide_eq_true h, sup_snoc _ _ _ hl]
    refine ⟨rfl, by simp; omega⟩
  · rw [if_neg h, decide_eq_false h]
    have e : fz l = l.length := by omega
    cases hz : zc x
    · rw [if_neg (by simp), sup_snoc _ _ _ (Nat.le_refl _), e]
      exact ⟨rfl, by simp⟩
    · rw [if_pos rfl]
      refine ⟨?_, by simp⟩
      rw [show l.length + 1 = (l ++ [x]).length by simp, sup_all, e, sup_all]
      simp [List.replicate_succ']
/-- A comma before digit i of W. -/
def cm (commas : Bool) (W i : Nat) : Bool := commas && decide (0 < i) && decide ((W - i) % 3 = 0)
def dAt (D : List UInt8) (i : Nat) : UInt8 := D.getD i 0
/-- The program's text of the first i digits. -/
def spT (D : List UInt8) (commas : Bool) (W : Nat) : Nat → List UInt8
  | 0 => []
  | i + 1 => spT D commas W i ++ (if i = W then [46] else []) ++ (if cm commas W i && decide (i < W) then [44] else []) ++ [dAt D i]
/-- The reference's: what it has written, and whether digits count. -/
def whO (D : List UInt8) (commas last : Bool) (W : Nat) : Nat → List UInt8 × Bool
  | 0 => ([], false)
  | i + 1 =>
    let p := whO D commas last W i
    let o1 := if cm commas W i then p.1 ++ [if p.2 then 44 else 32] else p.1
    let c1 := p.2 || !(dAt D i == 48) || (last && decide (i + 1 = W))
    (o1 ++ [if c1 then dAt D i else 32], c1)
def isDg (b : UInt8) : Bool := decide (48 ≤ b.toNat) && decide (b.toNat ≤ 57)
theorem zc_dg {b : UInt8} (h : isDg b = true) : zc b = (b == 48) := by
  unfold isDg at h
  simp only [Bool.and_eq_true, decide_eq_true_eq] at h
  unfold zc
  have : (b == 44) = false := by
    rw [beq_eq_false_iff_ne]; intro e; subst e; simp at h
  rw [this, Bool.or_false]
theorem wh_plain (D : List UInt8) (commas last : Bool) (W : Nat) (hd : ∀ i, i < W → isDg (dAt D i) = true) : ∀ i, i ≤ W → (i < W ∨ last = false) →
    (whO D commas last W i).1 = sup (spT D commas W i) (fz (spT D commas W i)) ∧ (whO D commas last W i).2 = cB (spT D commas W i)
  | 0, _, _ => by simp [whO, spT, sup, fz, cB]
  | i + 1, h, hl => by
    obtain ⟨h1, h2⟩ := wh_plain D commas last W hd i (by omega) (by omega)
    have hz := zc_dg (hd i (by omega))
    have e0 : (last && decide (i + 1 = W)) = false := by
      rcases hl with hl | hl
      · rw [decide_eq_false (by omega), Bool.and_false]
      · rw [hl]; rfl
    have e1 : spT D commas W (i + 1) = (if cm commas W i then spT D commas W i ++ [44] else spT D commas W i) ++ [dAt D i] := by
      rw [spT, if_neg (by omega), decide_eq_true (by omega), Bool.and_true]
      cases cm commas W i <;> simp
    simp only [whO]
    rw [e0, Bool.or_false, e1, h1, h2]
    have z44 : zc 44 = true := by decide
    cases hc : cm commas W i
    · simp only [Bool.false_eq_true, if_false]
      obtain ⟨s1, s2⟩ := sup_step (spT D commas W i) (dAt D i)
      rw [s1, s2, hz]
      exact ⟨rfl, rfl⟩
    · simp only [if_true]
      obtain ⟨s1, s2⟩ := sup_step (spT D commas W i) 44
      obtain ⟨t1, t2⟩ := sup_step (spT D commas W i ++ [44]) (dAt D i)
      rw [t1, t2, s1, s2, hz, z44, Bool.not_true, Bool.or_false]
      exact ⟨rfl, rfl⟩
/-- The text of a value's digits: zeros and commas in front are blanks, but for the last byte. -/
def txL (D : List UInt8) (commas : Bool) (W : Nat) : List UInt8 := sup (spT D commas W D.length) (min (fz (spT D commas W D.length)) ((spT D commas W D.length).length - 1))
theorem spT_behind (D : List UInt8) (commas : Bool) (W : Nat) : ∀ k, spT D commas W (W + k + 1) = spT D commas W W ++ 46 :: (List.range (k + 1)).map (fun j => dAt D (W + j))
  | 0 => by
    rw [Nat.add_zero, spT, if_pos rfl, decide_eq_false (Nat.lt_irrefl W), Bool.and_false]
    simp
  | k + 1 => by
    rw [show W + (k + 1) + 1 = (W + k + 1) + 1 by omega, spT, spT_behind D commas W k, if_neg (by omega), decide_eq_false (by omega), Bool.and_false, List.range_succ (n := k + 1)]
    simp [show W + k + 1 = W + (k + 1) by omega]
theorem dAt_drop (D : List UInt8) (W : Nat) : (List.range (D.length - W)).map (fun j => dAt D (W + j)) = D.drop W := by
  apply List.ext_getElem
  · simp
  · intro i h1 h2
    simp at h1 h2
    simp [dAt, List.getD_eq_getElem?_getD, List.getElem?_eq_getElem (show W + i < D.length by omega)]
theorem spT_all (D : List UInt8) (commas : Bool) (W : Nat) (h : W < D.length) : spT D commas W D.length = spT D commas W W ++ 46 :: D.drop W := by
  obtain ⟨k, hk⟩ : ∃ k, D.length = W + k + 1 := ⟨D.length - W - 1, by omega⟩
  rw [← dAt_drop D W, hk, spT_behind, show W + k + 1 - W = k + 1 by omega]
theorem fz_stop (a b : List UInt8) : fz (a ++ 46 :: b) = fz a := by
  unfold fz
  induction a with
  | nil => simp [List.takeWhile_cons, zc]
  | cons x a ih =>
    rw [List.cons_append, List.takeWhile_cons, List.takeWhile_cons]
    split
    · simp only [List.length_cons]; rw [ih]
    · rfl
theorem sup_more (a b : List UInt8) (m : Nat) (h : m ≤ a.length) : sup (a ++ b) m = sup a m ++ b := by
  unfold sup; rw [List.drop_append_of_le_length h, List.append_assoc]
/-- With decimals: the reference's whole digits, the point, and the decimals. -/
theorem tx_dec (D : List UInt8) (commas : Bool) (W : Nat) (hd : ∀ i, i < W → isDg (dAt D i) = true) (h : W < D.length) : (whO D commas false W W).1 ++ 46 :: D.drop W = txL D commas W := by
  unfold txL
  rw [spT_all D commas W h, fz_stop, (wh_plain D commas false W hd W (Nat.le_refl _) (.inr rfl)).1]
  have := fz_le (spT D commas W W)
  rw [Nat.min_eq_left (by simp; omega), sup_more _ _ _ this]
/-- Without decimals: the last digit stays. -/
theorem tx_whole (D : List UInt8) (commas : Bool) (hd : ∀ i, i < D.length → isDg (dAt D i) = true) (h : 0 < D.length) : (whO D commas true D.length D.length).1 = txL D commas D.length := by
  obtain ⟨k, hk⟩ : ∃ k, D.length = k + 1 := ⟨D.length - 1, by omega⟩
  unfold txL
  rw [hk] at hd ⊢
  obtain ⟨h1, h2⟩ := wh_plain D commas true (k + 1) hd k (by omega) (.inl (by omega))
  have e1 : spT D commas (k + 1) (k + 1) = (if cm commas (k + 1) k then spT D commas (k + 1) k ++ [44] else spT D commas (k + 1) k) ++ [dAt D k] := by
    rw [spT, if_neg (by omega), decide_eq_true (by omega), Bool.and_true]
    cases cm commas (k + 1) k <;> simp
  simp only [whO]
  rw [h1, h2, e1, decide_true]
  simp only [Bool.and_self, Bool.or_true, if_true, decide_true]
  have key : ∀ l : List UInt8, ∀ x, sup (l ++ [x]) (min (fz (l ++ [x])) ((l ++ [x]).length - 1)) = sup l (fz l) ++ [x] := by
    intro l x
    have hl := fz_le l
    rw [fz_snoc]
    have e : min (if fz l < l.length then fz l else if zc x = true then l.length + 1 else l.length) ((l ++ [x]).length - 1) = fz l := by
      rw [List.length_append, List.length_singleton]
      repeat' split
      all_goals omega
    rw [e, sup_snoc _ _ _ hl]
  have z44 : zc 44 = true := by decide
  cases hc : cm commas (k + 1) k
  · simp only [Bool.false_eq_true, if_false]
    rw [key]
  · simp only [if_true]
    rw [key]
    obtain ⟨s1, s2⟩ := sup_step (spT D commas (k + 1) k) 44
    rw [s1, z44, Bool.not_true, Bool.or_false]
theorem fz_cons (b : UInt8) (l : List UInt8) : fz (b :: l) = if zc b then fz l + 1 else 0 := by
  unfold fz; rw [List.takeWhile_cons]; split <;> simp
/-- (as the library's) the first byte that is one of some. -/
theorem ia_fz (C : List UInt8) : ∀ T : List UInt8, (∀ b ∈ T, C.contains b = !zc b) → Lib.indexAny T C = if fz T < T.length then (fz T : Int) else -1
  | [], _ => rfl
  | b :: l, h => by
    have ih := ia_fz C l (fun x hx => h x (List.mem_cons_of_mem _ hx))
    have hb := h b List.mem_cons_self
    rw [Lib.indexAny, hb, ih, fz_cons]
    cases zc b
    · simp
    · simp only [Bool.not_true, Bool.false_eq_true, if_false, if_true, List.length_cons]
      by_cases g : fz l < l.length
      · have h2 : ((fz l : Int) == -1) = false := by simp
        simp [g, h2]
      · simp [g]
/-- How much is suppressed: up to the first, at most so much. -/
def spM (F : Int) (most : Nat) : Nat := if F < 0 ∨ (most : Int) < F then most else F.toNat
theorem spM_le (F : Int) (most : Nat) : spM F most ≤ most := by unfold spM; split <;> omega
theorem spM_fz (C T : List UInt8) (most : Nat) (hm : most ≤ T.length) (h : ∀ b ∈ T, C.contains b = !zc b) : spM (Lib.indexAny T C) most = min (fz T) most := by
  rw [ia_fz C T h]
  have := fz_le T
  unfold spM
  by_cases g : fz T < T.length
  · rw [if_pos g]
    split <;> omega
  · rw [if_neg g, if_pos (Or.inl (by omega))]; omega
/-- Leading blanks. -/
def lb (l : List UInt8) : Nat := (l.takeWhile (· == 32)).length
theorem lb_le (l : List UInt8) : lb l ≤ l.length := by
  unfold lb
  induction l with
  | nil => simp
  | cons a l ih => rw [List.takeWhile_cons]; split <;> simp <;> omega
theorem lb_trim (l : List UInt8) : (l.dropWhile (· == 32)).length = l.length - lb l ∧ l.dropWhile (· == 32) = l.drop (lb l) := by
  unfold lb
  induction l with
  | nil => simp
  | cons a l ih =>
    rw [List.dropWhile_cons, List.takeWhile_cons]
    split
    · simp [ih.1, ih.2]
    · simp
theorem lb_at {l : List UInt8} {i : Nat} (h : i < lb l) : l.getD i 0 = 32 := by
  unfold lb at h
  induction l generalizing i with
  | nil => simp at h
  | cons a l ih =>
    rw [List.takeWhile_cons] at h
    split at h
    · rename_i g
      cases i with
      | zero => simpa using g
      | succ i => simp at h; simpa using ih (by omega)
    · simp at h
theorem lb_end {l : List UInt8} (h : lb l < l.length) : l.getD (lb l) 0 ≠ 32 := by
  unfold lb at h ⊢
  induction l with
  | nil => simp at h
  | cons a l ih =>
    rw [List.takeWhile_cons] at h ⊢
    split at h
    · rename_i g
      rw [if_pos g]
      simp at h
      simpa using ih (by omega)
    · rename_i g
      rw [if_neg g]
      simpa using g
/-- A byte right before the first one that is no blank, in a place in front. -/
def flL (l : List UInt8) (c : UInt8) : List UInt8 := if lb l < l.length then List.replicate (lb l) 32 ++ [c] ++ l.drop (lb l) else 32 :: l
def stL (l : List UInt8) : List UInt8 := if lb l < l.length then List.replicate (lb l) 42 ++ l.drop (lb l) else l
theorem tx_lb (D : List UInt8) (commas : Bool) (W : Nat) (hW : W ≤ D.length) (h0 : 0 < D.length) (hd : ∀ b ∈ spT D commas W D.length, b ≠ 32) : lb (txL D commas W) < (txL D commas W).length := by
  have hn : 0 < (spT D commas W D.length).length := by
    obtain ⟨k, hk⟩ : ∃ k, D.length = k + 1 := ⟨D.length - 1, by omega⟩
    rw [hk, spT]; simp; omega
  unfold txL
  have hm : min (fz (spT D commas W D.length)) ((spT D commas W D.length).length - 1) < (spT D commas W D.length).length := by omega
  generalize min (fz (spT D commas W D.length)) ((spT D commas W D.length).length - 1) = m at *
  generalize spT D commas W D.length = T at *
  have hl : (sup T m).length = T.length := sup_len T m (by omega)
  rcases Nat.lt_or_ge (lb (sup T m)) (sup T m).length with g | g
  · exact g
  · exfalso
    have h1 := lb_at (l := sup T m) (i := m) (by omega)
    have h2 : (sup T m).getD m 0 = T[m]'hm := by
      unfold sup
      rw [List.getD_eq_getElem?_getD, List.getElem?_append_right (by simp)]
      simp [List.getElem?_drop, List.getElem?_eq_getElem hm]
    exact hd (T[m]'hm) (List.getElem_mem hm) (by rw [← h2, h1])
/-- A date's digits with slashes. -/
def dtT (D : List UInt8) : List UInt8 := D.take 2 ++ [47] ++ (D.drop 2).take 2 ++ (if 4 < D.length then 47 :: D.drop 4 else [])
def dtL (D : List UInt8) : List UInt8 := if dAt D 0 = 48 then 32 :: (dtT D).drop 1 else dtT D
/-- The reference's, digit by digit. -/
def dtO (D : List UInt8) : Nat → List UInt8
  | 0 => []
  | i + 1 => dtO D i ++ (if i = 2 ∨ (i = 4 ∧ 4 < D.length) then [47] else []) ++ [if i = 0 ∧ dAt D 0 = 48 then 32 else dAt D i]
theorem dt_same (D : List UInt8) (h : D.length = 4 ∨ D.length = 6 ∨ D.length = 8) : dtO D D.length = dtL D := by
  rcases h with h | h | h
  · match D, h with
    | [a, b, c, d], _ => by_cases e : a = 48 <;> simp [dtO, dtL, dtT, dAt, e]
  · match D, h with
    | [a, b, c, d, x, y], _ => by_cases e : a = 48 <;> simp [dtO, dtL, dtT, dAt, e]
  · match D, h with
    | [a, b, c, d, x, y, z, w], _ => by_cases e : a = 48 <;> simp [dtO, dtL, dtT, dAt, e]
end Go.Proofs.YtmdpejllbalnnaaGreatDoor
