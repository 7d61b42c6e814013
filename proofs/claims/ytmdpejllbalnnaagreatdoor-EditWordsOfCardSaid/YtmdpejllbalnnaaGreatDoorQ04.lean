/- Texts of the walks, merged. -/
import Derived.Test.YtmdpejllbalnnaaGreatDoorQ03
import Derived.Test.YtmdpejllbalnnaaGreatDoorShelf
import Derived.Lib.IndexLaws
namespace Go.Proofs.YtmdpejllbalnnaaGreatDoor
set_option linter.unusedSimpArgs false
set_option linter.unusedVariables false
open Go.RowKit

/-- A right text: its sign, its whole digits up to q, its decimals behind the point at q. -/
structure RtP (f : Nat → Int) (L q : Nat) : Prop where
  lt : sgnT f < q
  le : q ≤ L
  dig : ∀ j, sgnT f ≤ j → j < q → dgt (f j) = true
  zero : f (sgnT f) = 48 → q = sgnT f + 1
  tail : q < L → f q = 46 ∧ q + 1 < L ∧ ∀ j, q < j → j < L → dgt (f j) = true
theorem stp_ne (L a : Nat) : stp L a ≠ 0 := by unfold stp; split <;> decide
theorem rt_parts {f : Nat → Int} {L : Nat} (hL : 0 < L) (h : (ckT f L).2 = 0) : RtP f L (wE f L) := by
  have hs : sgnT f ≤ L := by unfold sgnT; split <;> omega
  have hE := dE_le f hs
  unfold ckT at h
  by_cases h1 : dE f L (sgnT f) = sgnT f
  · rw [if_pos h1] at h; exact absurd h (stp_ne _ _)
  rw [if_neg h1] at h
  have hd0 : dgt (f (sgnT f)) = true := dE_all f (Nat.le_refl _) (by omega) hs
  have hw : sgnT f < wE f L ∧ wE f L ≤ L ∧ (∀ j, sgnT f ≤ j → j < wE f L → dgt (f j) = true) ∧ (f (sgnT f) = 48 → wE f L = sgnT f + 1) := by
    unfold wE
    by_cases e : f (sgnT f) = 48
    · rw [if_pos e]
      exact ⟨by omega, by omega, fun j a b => by rw [show j = sgnT f by omega]; exact hd0, fun _ => rfl⟩
    · rw [if_neg e]
      exact ⟨by omega, by omega, fun j a b => dE_all f a b hs, fun g => absurd g e⟩
  obtain ⟨w1, w2, w3, w4⟩ := hw
  refine ⟨w1, w2, w3, w4, fun hq => ?_⟩
  rw [if_neg (by omega)] at h
  by_cases h46 : f (wE f L) = 46
  · rw [if_pos h46] at h
    by_cases h2 : dE f L (wE f L + 1) = wE f L + 1 ∨ dE f L (wE f L + 1) < L
    · rw [if_pos h2] at h; exact absurd h (stp_ne _ _)
    · have := dE_le f (L := L) (a := wE f L + 1) (by omega)
      exact ⟨h46, by omega, fun j a b => dE_all f (L := L) (a := wE f L + 1) (by omega) (by omega) (by omega)⟩
  · rw [if_neg h46] at h; simp at h

theorem tl_cutT (x : ByteArray) (a b : Nat) : (x.extract a b).data.toList = (x.data.toList.drop a).take (b - a) := by
  rw [ByteArray.data_extract, Array.toList_extract]
theorem ba_listT {x y : ByteArray} (h : x.data.toList = y.data.toList) : x = y := by
  obtain ⟨⟨l⟩⟩ := x
  obtain ⟨⟨m⟩⟩ := y
  simp at h
  rw [h]
theorem tAt_get {s : ByteArray} {i : Nat} {c : UInt8} (h : s.data.toList[i]? = some c) : tAt s i = c.toNat := by
  unfold tAt; rw [List.getD_eq_getElem?_getD, h]; rfl
theorem get_tAt {s : ByteArray} {i : Nat} {c : UInt8} (hi : i < s.size) (h : tAt s i = c.toNat) : s.data.toList[i]? = some c := by
  have hl : s.data.toList.length = s.size := Array.length_toList
  have h' : i < s.data.toList.length := by omega
  unfold tAt at h
  rw [List.getD_eq_getElem?_getD, List.getElem?_eq_getElem h'] at h
  rw [List.getElem?_eq_getElem h']
  simp only [Option.getD_some] at h
  rw [UInt8.toNat_inj.1 (by omega : (s.data.toList[i]'h').toNat = c.toNat)]
/-- One byte cut off in front, if it is there. -/
theorem trim_one (s : ByteArray) (c : UInt8) (hs : 0 < s.size) :
    (tAt s 0 = c.toNat → Lib.hasPrefix s.data.toList [c] = true ∧ (⟨(Lib.trimPrefix s.data.toList [c]).toArray⟩ : ByteArray) = s.extract 1 s.size) ∧
    (tAt s 0 ≠ c.toNat → Lib.hasPrefix s.data.toList [c] = false ∧ (⟨(Lib.trimPrefix s.data.toList [c]).toArray⟩ : ByteArray) = s) := by
  have hl : s.data.toList.length = s.size := Array.length_toList
  obtain ⟨b, r, hb⟩ : ∃ b r, s.data.toList = b :: r := by
    match h : s.data.toList with
    | [] => rw [h] at hl; simp at hl; omega
    | b :: r => exact ⟨b, r, rfl⟩
  have h0 : tAt s 0 = b.toNat := by unfold tAt; rw [hb]; rfl
  have hp : Lib.hasPrefix s.data.toList [c] = (c == b) := by rw [hb]; unfold Lib.hasPrefix; simp [List.isPrefixOf]
  constructor
  · intro h
    have e : c = b := UInt8.toNat_inj.1 (by omega)
    refine ⟨by rw [hp, e]; simp, ba_listT ?_⟩
    unfold Lib.trimPrefix
    rw [hp, e, if_pos (by simp), tl_cutT, hb]
    simp only [List.length_singleton, List.drop_succ_cons, List.drop_zero]
    rw [List.take_of_length_le (by rw [hb] at hl; simp at hl; omega)]
  · intro h
    have e : (c == b) = false := by
      rw [beq_eq_false_iff_ne]; intro e; rw [e] at h; exact h h0
    refine ⟨by rw [hp, e], ba_listT ?_⟩
    unfold Lib.trimPrefix
    rw [hp, e, if_neg (by simp)]
theorem idx_point {s : ByteArray} {c : UInt8} {o : Nat} (ho : o < s.size) (h : tAt s o = c.toNat) (hb : ∀ k, k < o → tAt s k ≠ c.toNat) : Lib.indexByte s.data.toList c = o := by
  have hg := Lib.indexByte_ge s.data.toList c
  rcases Int.lt_or_eq_of_le hg with h1 | h1
  · obtain ⟨k, hk⟩ : ∃ k : Nat, Lib.indexByte s.data.toList c = k := ⟨(Lib.indexByte s.data.toList c).toNat, by omega⟩
    obtain ⟨a, b⟩ := Lib.indexByte_some hk
    rw [hk]
    rcases Nat.lt_trichotomy k o with g | g | g
    · exact absurd (tAt_get a) (hb k g)
    · rw [g]
    · exact absurd (get_tAt ho h) (b o g)
  · exact absurd (get_tAt ho h) (Lib.indexByte_none h1.symm o)
theorem idx_none {s : ByteArray} {c : UInt8} (hb : ∀ k, k < s.size → tAt s k ≠ c.toNat) : Lib.indexByte s.data.toList c = -1 := by
  have hg := Lib.indexByte_ge s.data.toList c
  have hl : s.data.toList.length = s.size := Array.length_toList
  rcases Int.lt_or_eq_of_le hg with h1 | h1
  · obtain ⟨k, hk⟩ : ∃ k : Nat, Lib.indexByte s.data.toList c = k := ⟨(Lib.indexByte s.data.toList c).toNat, by omega⟩
    obtain ⟨a, b⟩ := Lib.indexByte_some hk
    have : k < s.data.toList.length := by
      rcases Nat.lt_or_ge k s.data.toList.length with g | g
      · exact g
      · rw [List.getElem?_eq_none g] at a; simp at a
    exact absurd (tAt_get a) (hb k (by omega))
  · exact h1.symm

set_option maxRecDepth 100000 in
theorem cutT_j (s : ByteArray) (j : Int) (b : Nat) (hb : j = b) (h2 : b ≤ s.size) (w : World) :
    (Instr.slice 9 (.string s) none (some (.int .i64 j)) none).run Tryz.prog w = .ok (.string (s.extract 0 b)) w := by
  rw [run_slice_string_h (P := Tryz.prog) w 9 s Tryz.underlying9 .i64 j (by omega) (by omega), show j.toNat = b by omega]
set_option maxRecDepth 100000 in
theorem cutT_i (s : ByteArray) (i : Int) (a : Nat) (ha : i = a) (h2 : a ≤ s.size) (w : World) :
    (Instr.slice 9 (.string s) (some (.int .i64 i)) none none).run Tryz.prog w = .ok (.string (s.extract a s.size)) w := by
  rw [run_slice_string_l (P := Tryz.prog) w 9 s Tryz.underlying9 .i64 i (by omega) (by omega), show i.toNat = a by omega]

theorem add_ssT (s t : ByteArray) (h : s.size + t.size ≤ 9223372036854775807) (w : World) : (Op.stringOp .add s t).run Tryz.prog w = .ok (.string (s ++ t)) w := run_string_add_sum w s t h
def CutR (B1 B2 : ByteArray) (b : Bool) (w : World) (e : Ending) (w' : World) : Prop := e = .returned (.tuple #[.string B1, .string B2, .bool b]) ∧ Gr w w'
end Go.Proofs.YtmdpejllbalnnaaGreatDoor
namespace Go.Proofs.YtmdpejllbalnnaaGreatDoor
set_option linter.unusedSimpArgs false
set_option linter.unusedVariables false
open Go.RowKit

def negB (b : Bool) (v : Int) : Int := if b then -v else v
def NiR (n s e : Int) (w : World) (en : Ending) (w' : World) : Prop := en = .returned (.tuple #[.agg #[.int .i64 n, .int .i64 s], .int .i64 e]) ∧ Gr w w'
section
end
end Go.Proofs.YtmdpejllbalnnaaGreatDoor
namespace Go.Proofs.YtmdpejllbalnnaaGreatDoor
set_option linter.unusedSimpArgs false
set_option linter.unusedVariables false
open Go.RowKit

/-- The point's place, or -1. -/
def pT (f : Nat → Int) (L : Nat) : Int := if wE f L = L then -1 else wE f L
def cnT (x : ByteArray) : Nat := cntN (tAt x) (sgnT (tAt x)) (pT (tAt x) x.size) (x.size - sgnT (tAt x))
def scT (x : ByteArray) : Nat := scN (sgnT (tAt x)) (pT (tAt x) x.size) (x.size - sgnT (tAt x))
def nvT (x : ByteArray) : Int := nvN (tAt x) (sgnT (tAt x)) (pT (tAt x) x.size) (x.size - sgnT (tAt x))
/-- The number in a text, or what is wrong with it. -/
def TxR (x : ByteArray) (N Sc At E : Int) : Prop :=
  (40 < x.size ∧ N = 0 ∧ Sc = 0 ∧ At = 0 ∧ E = 2) ∨
  (x.size = 0 ∧ N = 0 ∧ Sc = 0 ∧ At = 0 ∧ E = 1) ∨
  (0 < x.size ∧ x.size ≤ 40 ∧ (ckT (tAt x) x.size).2 ≠ 0 ∧ N = 0 ∧ Sc = 0 ∧ At = ((ckT (tAt x) x.size).1 : Nat) ∧ E = (ckT (tAt x) x.size).2) ∨
  (0 < x.size ∧ x.size ≤ 40 ∧ (ckT (tAt x) x.size).2 = 0 ∧ 15 < cnT x ∧ N = 0 ∧ Sc = 0 ∧ At = 0 ∧ E = 19) ∨
  (0 < x.size ∧ x.size ≤ 40 ∧ (ckT (tAt x) x.size).2 = 0 ∧ cnT x ≤ 15 ∧ N = negB (decide (tAt x 0 = 45)) (nvT x) ∧ Sc = (scT x : Nat) ∧ At = x.size ∧ E = 0)
theorem tx_ex (x : ByteArray) : ∃ N Sc At E, TxR x N Sc At E := by
  by_cases h1 : 40 < x.size
  · exact ⟨_, _, _, _, .inl ⟨h1, rfl, rfl, rfl, rfl⟩⟩
  by_cases h2 : x.size = 0
  · exact ⟨_, _, _, _, .inr (.inl ⟨h2, rfl, rfl, rfl, rfl⟩)⟩
  by_cases h3 : (ckT (tAt x) x.size).2 = 0
  · by_cases h4 : 15 < cnT x
    · exact ⟨_, _, _, _, .inr (.inr (.inr (.inl ⟨by omega, by omega, h3, h4, rfl, rfl, rfl, rfl⟩)))⟩
    · exact ⟨_, _, _, _, .inr (.inr (.inr (.inr ⟨by omega, by omega, h3, by omega, rfl, rfl, rfl, rfl⟩)))⟩
  · exact ⟨_, _, _, _, .inr (.inr (.inl ⟨by omega, by omega, h3, rfl, rfl, rfl, rfl⟩))⟩

theorem dgt_ne46 {c : Int} (h : dgt c = true) : c ≠ 46 := by
  simp only [dgt, Bool.and_eq_true, decide_eq_true_eq] at h; omega
theorem ex_ex (x : ByteArray) (a i j : Nat) (h : a + j ≤ x.size) (hij : i ≤ j) : (x.extract a x.size).extract i j = x.extract (a + i) (a + j) := by
  refine ba_listT ?_
  rw [tl_cutT, tl_cutT, tl_cutT, List.drop_take, List.take_take, List.drop_drop]
  congr 1
  omega
theorem ex_all (x : ByteArray) : x.extract 0 x.size = x := by
  refine ba_listT ?_
  rw [tl_cutT, List.drop_zero]
  have hl : x.data.toList.length = x.size := Array.length_toList
  rw [List.take_of_length_le (by omega)]
def PnR (n s a e : Int) (w : World) (en : Ending) (w' : World) : Prop := en = .returned (.tuple #[.agg #[.int .i64 n, .int .i64 s], .int .i64 a, .int .i64 e]) ∧ Gr w w'
theorem empty_no {x : ByteArray} (h : 0 < x.size) : x.toList.isEmpty = false := by
  have hl : x.data.toList.length = x.size := Array.length_toList
  rw [ByteArray.toList_eq]
  match e : x.data.toList with
  | [] => rw [e] at hl; simp at hl; omega
  | b :: r => rfl
theorem empty_yes {x : ByteArray} (h : x.size = 0) : x.toList.isEmpty = true := by
  have hl : x.data.toList.length = x.size := Array.length_toList
  rw [ByteArray.toList_eq]
  match e : x.data.toList with
  | [] => rfl
  | b :: r => rw [e] at hl; simp at hl; omega
end Go.Proofs.YtmdpejllbalnnaaGreatDoor
