/- Byte arrays by their bytes. -/
import Derived.Test.YtljminmfldejnaaG3
namespace Go.Proofs.Ytljminmfldejnaa
set_option linter.unusedSimpArgs false
set_option linter.unusedVariables false
open Go.RowKit
theorem ba_ext {a b : ByteArray} (hs : a.size = b.size) (h : ∀ i, i < a.size → bAt a i = bAt b i) : a = b := by
  apply ByteArray.ext
  apply Array.ext
  · exact hs
  · intro i h1 h2
    have := h i h1
    unfold bAt at this
    have e1 : a.data.toList.getD i 0 = a.data[i] := by rw [List.getD_eq_getElem?_getD, Array.getElem?_toList, Array.getElem?_eq_getElem h1]; rfl
    have e2 : b.data.toList.getD i 0 = b.data[i] := by rw [List.getD_eq_getElem?_getD, Array.getElem?_toList, Array.getElem?_eq_getElem h2]; rfl
    rw [e1, e2] at this
    exact UInt8.toNat_inj.1 (by omega)
theorem bAt_append (a b : ByteArray) (i : Nat) : bAt (a ++ b) i = if i < a.size then bAt a i else bAt b (i - a.size) := by
  unfold bAt
  have e : (a ++ b).data.toList = a.data.toList ++ b.data.toList := by rw [ByteArray.data_append, Array.toList_append]
  have hl : a.data.toList.length = a.size := Array.length_toList
  rw [e, List.getD_eq_getElem?_getD, List.getElem?_append, hl]
  split <;> rw [List.getD_eq_getElem?_getD]
theorem pS_at {x : ByteArray} {a : Nat} {d : ByteArray} (h : a + d.size ≤ x.size) (i : Nat) (hi : i < x.size) : bAt (pS x a d) i = if i < a then bAt x i else if i < a + d.size then bAt d (i - a) else bAt x i := by
  unfold pS
  have s1 : (x.extract 0 a).size = a := by rw [ByteArray.size_extract]; omega
  have s2 : (x.extract 0 a ++ d).size = a + d.size := by rw [ByteArray.size_append, s1]
  rw [bAt_append, s2, bAt_append, s1]
  by_cases h1 : i < a
  · rw [if_pos (by omega), if_pos h1, if_pos h1, bAt_extract x 0 a i (by omega) (by omega), Nat.zero_add]
  · by_cases h2 : i < a + d.size
    · rw [if_pos h2, if_neg h1, if_neg h1, if_pos h2]
    · rw [if_neg h2, if_neg h1, if_neg h2, bAt_extract x (a + d.size) x.size _ (by omega) (by omega)]
      congr 1
      omega
/-- Two pieces are the same if their bytes are. -/
theorem cut_same {x y : ByteArray} {a b n : Nat} (hx : a + n ≤ x.size) (hy : b + n ≤ y.size) (h : ∀ i, i < n → bAt x (a + i) = bAt y (b + i)) : x.extract a (a + n) = y.extract b (b + n) := by
  refine ba_ext (by simp only [ByteArray.size_extract]; omega) fun i hi => ?_
  have hi' : i < n := by simp only [ByteArray.size_extract] at hi; omega
  rw [bAt_extract x a (a + n) i (by omega) (by omega), bAt_extract y b (b + n) i (by omega) (by omega), h i hi']
end Go.Proofs.Ytljminmfldejnaa
