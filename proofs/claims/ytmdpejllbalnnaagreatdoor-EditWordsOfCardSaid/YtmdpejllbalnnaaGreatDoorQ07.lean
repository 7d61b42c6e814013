/- Texts of the walks, merged. -/
import Derived.Test.YtmdpejllbalnnaaGreatDoorQ05
import Derived.Test.YtmdpejllbalnnaaGreatDoorQ01
import Derived.Test.YtmdpejllbalnnaaGreatDoorQ06
namespace Go.Proofs.YtmdpejllbalnnaaGreatDoor
set_option linter.unusedSimpArgs false
set_option linter.unusedVariables false
open Go.RowKit

def amL : List UInt8 := [49, 50, 51, 52, 65, 66, 67, 68, 74, 75, 76, 77, 78, 79, 80, 81]
def allL : List UInt8 := amL ++ [88, 89, 90]
/-- The place of a code among those of amounts, or -1. -/
def ixA (c : UInt8) : Int := Lib.indexByte amL c
def gwB (c : UInt8) : Bool := decide (0 ≤ ixA c) && !decide (12 ≤ ixA c)
def cmB (c : UInt8) : Bool := decide (ixA c % 4 < 2)
def zpB (c : UInt8) : Bool := decide (ixA c % 2 = 0)
def ldB (c : UInt8) : Bool := decide (12 ≤ ixA c)
def bhL (c : UInt8) : List UInt8 := if 4 ≤ ixA c ∧ ixA c < 8 then [67, 82] else if 8 ≤ ixA c ∧ ixA c < 12 then [45] else []
theorem u8_all {P : UInt8 → Prop} (h : ∀ n, n < 256 → P (UInt8.ofNat n)) (c : UInt8) : P c := by
  have := h c.toNat c.toNat_lt
  rwa [UInt8.ofNat_toNat] at this
/-- The facts of the lists of codes, one byte after the other. -/
def codeB (c : UInt8) : Bool :=
  (allL.contains c == decide (0 ≤ Lib.indexByte allL c)) &&
  (decide (0 ≤ Lib.indexByte allL c) == (decide (0 ≤ ixA c) || c == 88 || c == 89 || c == 90)) &&
  ([49, 50, 51, 52, 65, 66, 67, 68, 74, 75, 76, 77].contains c == gwB c) &&
  (decide (ixA c < 0) || !(c == 88 || c == 89 || c == 90)) &&
  (decide (ixA c < 0) || ([49, 50, 65, 66, 74, 75, 78, 79].contains c == cmB c)) &&
  (decide (ixA c < 0) || ([50, 52, 66, 68, 75, 77, 79, 81].contains c == !zpB c)) &&
  ([65, 66, 67, 68].contains c == decide (4 ≤ ixA c ∧ ixA c < 8)) &&
  ([74, 75, 76, 77].contains c == decide (8 ≤ ixA c ∧ ixA c < 12)) &&
  ([78, 79, 80, 81].contains c == ldB c) &&
  decide (-1 ≤ ixA c ∧ ixA c < 16)
theorem codeB_all (c : UInt8) : codeB c = true := u8_all (P := fun c => codeB c = true) (by decide +kernel) c
def ntE (k l s : Int) : Int := first0 [typeErr k l s, pick (!isNum k) 17]
def dtE (l s : Int) : Int := if l ≠ 4 ∧ l ≠ 6 ∧ l ≠ 8 then 18 else if 0 < s then 5 else 0
/-- The error of a type, a code and a fill. -/
def ckC (k l s : Int) (c : UInt8) (f : Int) : Int :=
  if ntE k l s ≠ 0 then ntE k l s else if Lib.indexByte allL c < 0 then 4 else if f < 0 ∨ 3 ≤ f then 3 else if f ≠ 0 ∧ gwB c = false then 15 else if c = 89 then dtE l s else 0
/-- The digits of a value, with zeros in front. -/
def dsL (l u : Nat) : List UInt8 := List.replicate (l - (dcS u).size) 48 ++ (dcS u).data.toList
theorem dsL_len (l u : Nat) (h : (dcS u).size ≤ l) : (dsL l u).length = l := by
  have : (dcS u).data.toList.length = (dcS u).size := Array.length_toList
  unfold dsL; rw [List.length_append, List.length_replicate, this]; omega
theorem dsL_dg (l u i : Nat) (h : i < (dsL l u).length) : isDg (dAt (dsL l u) i) = true := by
  obtain ⟨d1, -⟩ := dcS_right u u (Nat.le_refl _)
  have hl : (dcS u).data.toList.length = (dcS u).size := Array.length_toList
  unfold dAt dsL at *
  rw [List.length_append, List.length_replicate, hl] at h
  rw [List.getD_eq_getElem?_getD]
  by_cases g : i < l - (dcS u).size
  · rw [List.getElem?_append_left (by simpa using g), List.getElem?_replicate, if_pos g]; decide
  · rw [List.getElem?_append_right (by simp; omega), List.length_replicate]
    have := d1 (i - (l - (dcS u).size)) (by omega)
    unfold tAt at this
    rw [List.getD_eq_getElem?_getD] at this
    simp only [dgt, Bool.and_eq_true, decide_eq_true_eq] at this
    unfold isDg
    simp only [Bool.and_eq_true, decide_eq_true_eq]
    omega
/-- What stands before and behind. -/
def bodyL (D : List UInt8) (W : Nat) (c : UInt8) (neg zero : Bool) : List UInt8 :=
  if zero && !zpB c then List.replicate ((spT D (cmB c) W D.length).length + (bhL c).length) 32
  else txL D (cmB c) W ++ (if neg then bhL c else List.replicate (bhL c).length 32)
def frL (c : UInt8) (neg : Bool) (f : Int) (t : List UInt8) : List UInt8 :=
  if ldB c then (if neg then flL t 45 else 32 :: t) else if f = 2 then flL t 36 else if f = 1 then stL t else t
def edL (D : List UInt8) (W : Nat) (c : UInt8) (neg zero : Bool) (f : Int) : List UInt8 :=
  if c = 88 then D else if c = 89 then dtL D else if c = 90 then sup D (fz D) else frL c neg f (bodyL D W c neg zero)
end Go.Proofs.YtmdpejllbalnnaaGreatDoor
