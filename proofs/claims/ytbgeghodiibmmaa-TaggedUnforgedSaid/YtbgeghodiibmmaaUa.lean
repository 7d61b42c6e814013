/- Bytes make no pointers: the plain facts. -/
import Derived.Test.YtbgeghodiibmmaaTw
import Derived.Test.YtbgeghodiibmmaaBA
namespace Go.Proofs.Ytbgeghodiibmmaa
set_option linter.unusedSimpArgs false
set_option linter.unusedVariables false
open Go.RowKit

/-- Each quadword with a tag had it before, with the same bytes. -/
def Kp (y x : ByteArray) (ys bs : List Bool) (n : Nat) : Prop :=
  ∀ i, i < n → ys.getD i false = true → bs.getD i false = true ∧ y.extract (16 * i) (16 * i + 16) = x.extract (16 * i) (16 * i + 16)
theorem getD_set (l : List Bool) (i j : Nat) (b : Bool) : (l.set i b).getD j false = if i = j ∧ j < l.length then b else l.getD j false := by
  rw [List.getD_eq_getElem?_getD, List.getD_eq_getElem?_getD, List.getElem?_set]
  by_cases h : i = j
  · subst h
    by_cases h2 : i < l.length
    · simp [h2]
    · simp [h2]
  · simp [h]
theorem wT_true (bs : List Bool) (a i : Nat) : ∀ m, (wT bs a m).getD i false = true → bs.getD i false = true ∧ ∀ j, j < m → (a + j) / 16 ≠ i
  | 0, h => ⟨h, fun j hj => absurd hj (by omega)⟩
  | m + 1, h => by
    rw [wT, getD_set] at h
    by_cases e : (a + m) / 16 = i ∧ i < (wT bs a m).length
    · rw [if_pos e] at h; cases h
    · rw [if_neg e] at h
      obtain ⟨h1, h2⟩ := wT_true bs a i m h
      refine ⟨h1, fun j hj => ?_⟩
      rcases Nat.lt_or_ge j m with h3 | h3
      · exact h2 j h3
      · obtain rfl : j = m := by omega
        intro e1
        apply e
        refine ⟨e1, ?_⟩
        rcases Nat.lt_or_ge i (wT bs a j).length with h4 | h4
        · exact h4
        · rw [List.getD_eq_getElem?_getD, List.getElem?_eq_none h4] at h; cases h
theorem far_of (a m i : Nat) (h : ∀ j, j < m → (a + j) / 16 ≠ i) : m = 0 ∨ 16 * i + 16 ≤ a ∨ a + m ≤ 16 * i := by
  rcases Nat.eq_zero_or_pos m with h0 | h0
  · exact .inl h0
  · refine .inr ?_
    by_cases h1 : 16 * i + 16 ≤ a
    · exact .inl h1
    · by_cases h2 : a + m ≤ 16 * i
      · exact .inr h2
      · exfalso
        refine h (max a (16 * i) - a) (by omega) ?_
        omega
theorem quad_same {x d : ByteArray} {a i n : Nat} (hn : 16 * n = x.size) (hi : i < n) (h : a + d.size ≤ x.size) (hf : d.size = 0 ∨ 16 * i + 16 ≤ a ∨ a + d.size ≤ 16 * i) : (pS x a d).extract (16 * i) (16 * i + 16) = x.extract (16 * i) (16 * i + 16) := by
  refine cut_same (by rw [pS_size h]; omega) (by omega) fun j hj => ?_
  rw [pS_at h _ (by omega)]
  by_cases h1 : 16 * i + j < a
  · rw [if_pos h1]
  · rw [if_neg h1]
    by_cases h2 : 16 * i + j < a + d.size
    · omega
    · rw [if_neg h2]
theorem Kp_write {x d : ByteArray} {bs : List Bool} {a n : Nat} (hn : 16 * n = x.size) (h : a + d.size ≤ x.size) : Kp (pS x a d) x (wT bs a d.size) bs n := by
  intro i hi ht
  obtain ⟨h1, h2⟩ := wT_true bs a i d.size ht
  exact ⟨h1, quad_same hn hi h (far_of a d.size i h2)⟩

theorem pT_true (U bs : List Bool) (F : Nat) (bk : Int) (i : Nat) : ∀ q, (pT U bs F bk q).getD i false = true → (F ≤ i ∧ i < F + q ∧ bs.getD (((i : Nat) : Int) + bk).toNat false = true) ∨ U.getD i false = true
  | 0, h => .inr h
  | q + 1, h => by
    rw [pT, getD_set] at h
    by_cases e : F + q = i ∧ i < (pT U bs F bk q).length
    · rw [if_pos e] at h
      obtain ⟨rfl, -⟩ := e
      exact .inl ⟨by omega, by omega, h⟩
    · rw [if_neg e] at h
      rcases pT_true U bs F bk i q h with ⟨h1, h2, h3⟩ | h1
      · exact .inl ⟨h1, by omega, h3⟩
      · exact .inr h1
/-- Each quadword with a tag is one that had a tag before. -/
def Fd (y x : ByteArray) (ys bs : List Bool) (n : Nat) : Prop :=
  ∀ i, i < n → ys.getD i false = true → ∃ k, k < n ∧ bs.getD k false = true ∧ y.extract (16 * i) (16 * i + 16) = x.extract (16 * k) (16 * k + 16)
theorem Fd_copy {x : ByteArray} {bs : List Bool} {f t l n F E : Nat} {bk : Int} (hF : F = (t + 15) / 16) (hE : E = (t + l) / 16) (hbk : 16 * bk = (f : Int) - t) (hn : 16 * n = x.size) (hf : f + l ≤ x.size) (ht : t + l ≤ x.size) :
    Fd (pS x t (x.extract f (f + l))) x (pT (wT bs t l) bs F bk (E - F)) bs n := by
  have hd : (x.extract f (f + l)).size = l := by rw [ByteArray.size_extract]; omega
  have hp : t + (x.extract f (f + l)).size ≤ x.size := by omega
  intro i hi h
  rcases pT_true _ bs F bk i _ h with ⟨h1, h2, h3⟩ | h1
  · refine ⟨((i : Int) + bk).toNat, by omega, h3, ?_⟩
    refine cut_same (by rw [pS_size hp]; omega) (by omega) fun j hj => ?_
    rw [pS_at hp _ (by omega), if_neg (by omega), hd, if_pos (by omega), bAt_extract x f (f + l) _ (by omega) hf]
    congr 1
    omega
  · have := Kp_write (x := x) (d := x.extract f (f + l)) (bs := bs) (a := t) hn hp i hi (by rw [hd]; exact h1)
    exact ⟨i, hi, this.1, this.2⟩
end Go.Proofs.Ytbgeghodiibmmaa
