/- Texts of the walks, merged. -/
import Derived.Test.YtmdpejllbalnnaaGreatDoorQ18
namespace Go.Proofs.YtmdpejllbalnnaaGreatDoor
set_option linter.unusedSimpArgs false
set_option linter.unusedVariables false
open Go.RowKit

/-- A character behind the body. -/
def exC (T : List UInt8) (st : Int) (sl : Nat) (neg : Bool) (q : Nat) : UInt8 :=
  if dAt T q = 38 then 32 else if st ≠ -1 ∧ (st ≤ (q : Int) ∧ (q : Int) ≤ st + sl - 1) ∧ neg = false then 32 else dAt T q
def exS (T : List UInt8) (b : Nat) (st : Int) (sl : Nat) (neg : Bool) : Nat → List UInt8
  | 0 => []
  | j + 1 => exS T b st sl neg j ++ [exC T st sl neg (b + j)]
theorem exS_len (T : List UInt8) (b : Nat) (st : Int) (sl : Nat) (neg : Bool) : ∀ j, (exS T b st sl neg j).length = j
  | 0 => rfl
  | j + 1 => by rw [exS]; simp [exS_len T b st sl neg j]
theorem dAt_l {a b : List UInt8} {i : Nat} (h : i < a.length) : dAt (a ++ b) i = dAt a i := by
  unfold dAt; rw [List.getD_eq_getElem?_getD, List.getD_eq_getElem?_getD, List.getElem?_append_left h]
theorem dAt_r {a b : List UInt8} {i : Nat} (h : a.length ≤ i) : dAt (a ++ b) i = dAt b (i - a.length) := by
  unfold dAt; rw [List.getD_eq_getElem?_getD, List.getD_eq_getElem?_getD, List.getElem?_append_right h]
theorem dAt_drop1 (l : List UInt8) (n i : Nat) : dAt (l.drop n) i = dAt l (n + i) := by
  unfold dAt; rw [List.getD_eq_getElem?_getD, List.getD_eq_getElem?_getD, List.getElem?_drop]
theorem dAt_rep {n i : Nat} (c : UInt8) (h : i < n) : dAt (List.replicate n c) i = c := by
  unfold dAt; rw [List.getD_eq_getElem?_getD, List.getElem?_replicate, if_pos h]; rfl
theorem dAt_amp (l : List UInt8) (i : Nat) (h : i < l.length) : dAt (amp l) i = if dAt l i = 38 then 32 else dAt l i := by
  unfold dAt amp
  rw [List.getD_eq_getElem?_getD, List.getD_eq_getElem?_getD, List.getElem?_map, List.getElem?_eq_getElem h]; rfl
theorem exS_at (T : List UInt8) (b : Nat) (st : Int) (sl : Nat) (neg : Bool) : ∀ n i, i < n → dAt (exS T b st sl neg n) i = exC T st sl neg (b + i)
  | 0, i, h => absurd h (Nat.not_lt_zero _)
  | n + 1, i, h => by
    have hl := exS_len T b st sl neg n
    rw [exS]
    by_cases g : i < n
    · rw [dAt_l (by omega), exS_at T b st sl neg n i g]
    · obtain rfl : i = n := by omega
      rw [dAt_r (by omega), hl, Nat.sub_self]; rfl
theorem list_dAt {a b : List UInt8} (h : a.length = b.length) (k : ∀ i, i < a.length → dAt a i = dAt b i) : a = b := by
  apply List.ext_getElem h
  intro i h1 h2
  have := k i h1
  unfold dAt at this
  rw [List.getD_eq_getElem?_getD, List.getD_eq_getElem?_getD, List.getElem?_eq_getElem h1, List.getElem?_eq_getElem h2] at this
  exact this
/-- What both write behind the body. -/
theorem ex_same (T : List UInt8) (b : Nat) (st : Int) (neg : Bool) (hb : b ≤ T.length) (hs : st = -1 ∨ ∃ s : Nat, st = s ∧ b ≤ s ∧ s + (sbL (T.drop s)).length ≤ T.length) (sl : Nat) (hsl : st ≠ -1 → sl = (sbL (T.drop st.toNat)).length) :
    expL T b st neg = exS T b st sl neg (T.length - b) := by
  unfold expL
  rw [Int.toNat_natCast]
  by_cases h : st ≠ -1 ∧ neg = false
  · rw [if_pos h]
    rcases hs with h2 | ⟨s, rfl, hbs, hsT⟩
    · exact absurd h2 h.1
    have hsl2 := hsl h.1
    rw [Int.toNat_natCast] at hsl2 ⊢
    rw [← hsl2] at hsT ⊢
    rw [show ((s : Int) - (b : Int)).toNat = s - b by omega]
    have h1 : ((T.drop b).take (s - b)).length = s - b := by rw [List.length_take, List.length_drop]; omega
    have hlen : ((T.drop b).take (s - b) ++ List.replicate sl 32 ++ T.drop (s + sl)).length = T.length - b := by
      rw [List.length_append, List.length_append, h1, List.length_replicate, List.length_drop]; omega
    refine list_dAt (by rw [amp_len, hlen, exS_len]) (fun i hi => ?_)
    rw [amp_len, hlen] at hi
    rw [exS_at _ _ _ _ _ _ i hi, dAt_amp _ _ (by rw [hlen]; exact hi)]
    unfold exC
    by_cases c1 : i < s - b
    · have e : dAt ((T.drop b).take (s - b) ++ List.replicate sl 32 ++ T.drop (s + sl)) i = dAt T (b + i) := by
        rw [dAt_l (by rw [List.length_append, h1]; omega), dAt_l (by omega), dAt_take _ _ _ c1, dAt_drop1]
      rw [e, if_neg (show ¬ ((s : Int) ≠ -1 ∧ ((s : Int) ≤ ((b + i : Nat) : Int) ∧ ((b + i : Nat) : Int) ≤ (s : Int) + sl - 1) ∧ neg = false) by omega)]
    · by_cases c2 : i < s - b + sl
      · have e : dAt ((T.drop b).take (s - b) ++ List.replicate sl 32 ++ T.drop (s + sl)) i = 32 := by
          rw [dAt_l (by rw [List.length_append, h1, List.length_replicate]; omega), dAt_r (by omega), h1, dAt_rep _ (by omega)]
        rw [e, if_neg (by decide), if_pos (show ((s : Int) ≠ -1 ∧ ((s : Int) ≤ ((b + i : Nat) : Int) ∧ ((b + i : Nat) : Int) ≤ (s : Int) + sl - 1) ∧ neg = false) from ⟨h.1, ⟨by omega, by omega⟩, h.2⟩)]
        split <;> rfl
      · have e : dAt ((T.drop b).take (s - b) ++ List.replicate sl 32 ++ T.drop (s + sl)) i = dAt T (b + i) := by
          rw [dAt_r (by rw [List.length_append, h1, List.length_replicate]; omega), List.length_append, h1, List.length_replicate, dAt_drop1]
          congr 1; omega
        rw [e, if_neg (show ¬ ((s : Int) ≠ -1 ∧ ((s : Int) ≤ ((b + i : Nat) : Int) ∧ ((b + i : Nat) : Int) ≤ (s : Int) + sl - 1) ∧ neg = false) by omega)]
  · rw [if_neg h]
    refine list_dAt (by rw [amp_len, List.length_drop, exS_len]) (fun i hi => ?_)
    rw [amp_len, List.length_drop] at hi
    rw [exS_at _ _ _ _ _ _ i hi, dAt_amp _ _ (by rw [List.length_drop]; exact hi), dAt_drop1]
    unfold exC
    rw [if_neg (show ¬ (st ≠ -1 ∧ (st ≤ ((b + i : Nat) : Int) ∧ ((b + i : Nat) : Int) ≤ st + sl - 1) ∧ neg = false) from fun k => h ⟨k.1, k.2.2⟩)]
theorem bI_snoc (l : List UInt8) (c : UInt8) : bI (l ++ [c]) = bI l ++ [(c.toNat : Int)] := by unfold bI; rw [List.map_append]; rfl
/-- The parts' cells in block g, and what has been written. -/
def WtW (w : World) (g : Nat) (bo st sp : Int) (ast : Bool) (v : Value) (zs : List UInt8) (wr : World) : Prop :=
  Own wr (g + 1) .u8 5 v (bI zs) ∧ Gr w wr ∧ (wr.cell? ⟨g, 0, none⟩ = some (.int .i64 bo) ∧ wr.cell? ⟨g, 1, none⟩ = some (.int .i64 st) ∧ wr.cell? ⟨g, 2, none⟩ = some (.int .i64 sp) ∧ wr.cell? ⟨g, 3, none⟩ = some (.bool ast)) ∧ g < wr.heap.size ∧ w.heap.size ≤ g
theorem WtW.app {w : World} {g : Nat} {bo st sp : Int} {ast : Bool} {v v1 : Value} {zs : List UInt8} {c : UInt8} {y : Int} {wr w1 : World} (h : WtW w g bo st sp ast v zs wr) (o : Obj) (hy : (c.toNat : Int) = y) (hO : Own w1 (g + 1) .u8 5 v1 (bI zs ++ [y])) (hB : Below (g + 1) (wr.alloc o) w1) : WtW w g bo st sp ast v1 (zs ++ [c]) w1 := by
  obtain ⟨-, hG, ⟨c0, c1, c2, c3⟩, hz, hw⟩ := h
  have hz2 := hB.size
  rw [World.size_alloc] at hz2
  have K := fun (j : Nat) (u : Value) (hc : wr.cell? ⟨g, j, none⟩ = some u) => keepc hB (p := ⟨g, j, none⟩) (show g < g + 1 by omega) (((Gr.refl wr).alloc o).keep hc)
  refine ⟨by rw [bI_snoc, hy]; exact hO, Below.trans (hG.alloc o) (hB.mono (by omega)), ⟨K 0 _ c0, K 1 _ c1, K 2 _ c2, K 3 _ c3⟩, by omega, hw⟩
end Go.Proofs.YtmdpejllbalnnaaGreatDoor
