/- Texts of the walks, merged. -/
import Derived.Test.YtnaflaokhldfnaaQ10
import Derived.Test.YtnaflaokhldfnaaQ20
import Derived.Test.YtnaflaokhldfnaaQ21
import Derived.Test.YtnaflaokhldfnaaQ23
namespace Go.Proofs.Ytnaflaokhldfnaa
set_option linter.unusedSimpArgs false
set_option linter.unusedVariables false
open Go.RowKit

/-- The exact result of an operation: below zero, over, under, scale. -/
def frB (op n s m t : Int) : Bool :=
  if op = 2 ∨ op = 3 then decide (n < 0) != decide (m < 0) else if op = 4 then decide (n < 0) else sB (decide (n < 0)) (if op = 1 then !decide (m < 0) else decide (m < 0)) (n.natAbs * 10 ^ (max s t - s).toNat) (m.natAbs * 10 ^ (max s t - t).toNat)
def frO (op n s m t : Int) : Nat :=
  if op = 2 then n.natAbs * m.natAbs else if op = 3 then n.natAbs else if op = 4 then (n.natAbs * 10 ^ (max s t - s).toNat) % (m.natAbs * 10 ^ (max s t - t).toNat) else sO (decide (n < 0)) (if op = 1 then !decide (m < 0) else decide (m < 0)) (n.natAbs * 10 ^ (max s t - s).toNat) (m.natAbs * 10 ^ (max s t - t).toNat)
def frU (op m : Int) : Nat := if op = 3 then m.natAbs else 1
def frS (op s t : Int) : Int := if op = 2 then s + t else if op = 3 then s - t else max s t

theorem pow10_30 (n : Nat) (h : n ≤ 30) : 1 ≤ 10 ^ n ∧ 10 ^ n ≤ 1000000000000000000000000000000 := by
  have h1 : 10 ^ n ≤ 10 ^ 30 := Nat.pow_le_pow_right (by omega) h
  exact ⟨Nat.pow_pos (by omega), h1⟩
theorem dv_pos {op m : Int} (h : dvB op m = false) (ho : op = 3 ∨ op = 4) : 0 < m.natAbs := by
  rcases Nat.eq_zero_or_pos m.natAbs with e | e
  · have : m = 0 := by omega
    subst this
    rcases ho with rfl | rfl <;> simp [dvB] at h
  · exact e
theorem up_bd {n s t : Int} (h : numErr n s = 0) (h2 : numErr t t = numErr t t) (ht : 0 ≤ t ∧ t ≤ 15) : n.natAbs * 10 ^ (max s t - s).toNat ≤ 999999999999999 * 1000000000000000 := by
  obtain ⟨n0, n1, s0, s1⟩ := numErr_ok h
  exact Nat.mul_le_mul (by omega) (pow10_le _ (by omega)).2
theorem fr_bd {op n s m t k l sc : Int} (h : caErr op n s m t k l sc = 0) :
    frO op n s m t * 10 ^ (sc - frS op s t).toNat + 1 ≤ 10 ^ 46 ∧ 0 < frU op m * 10 ^ (frS op s t - sc).toNat ∧ frU op m * 10 ^ (frS op s t - sc).toNat ≤ 10 ^ 45 ∧ -50 ≤ frS op s t ∧ frS op s t ≤ 50 := by
  obtain ⟨⟨o0, o1⟩, hcv, hm, hdv⟩ := caErr_ok h
  obtain ⟨n0, n1, s0, s1, l0, l1, c0, c1, k0, k1⟩ := cvErr_ok hcv
  obtain ⟨m0, m1, t0, t1⟩ := numErr_ok hm
  have e46 : (10 : Nat) ^ 46 = 10000000000000000000000000000000000000000000000 := by decide
  have e45 : (10 : Nat) ^ 45 = 1000000000000000000000000000000000000000000000 := by decide
  have bn : n.natAbs ≤ 999999999999999 := by omega
  have bm : m.natAbs ≤ 999999999999999 := by omega
  have hA : n.natAbs * 10 ^ (max s t - s).toNat ≤ 999999999999999 * 1000000000000000 := Nat.mul_le_mul bn (pow10_le _ (by omega)).2
  have hB : m.natAbs * 10 ^ (max s t - t).toNat ≤ 999999999999999 * 1000000000000000 := Nat.mul_le_mul bm (pow10_le _ (by omega)).2
  rcases (show op = 0 ∨ op = 1 ∨ op = 2 ∨ op = 3 ∨ op = 4 by omega) with rfl | rfl | rfl | rfl | rfl
  · have hO : frO 0 n s m t ≤ 2 * (999999999999999 * 1000000000000000) := by
      unfold frO; rw [if_neg (by decide), if_neg (by decide), if_neg (by decide)]; unfold sO; (repeat' split) <;> omega
    have hS : frS 0 s t = max s t := rfl
    have hU : frU 0 m = 1 := rfl
    rw [hS, hU]
    have p1 := pow10_le (sc - max s t).toNat (by omega)
    have p2 := pow10_le (max s t - sc).toNat (by omega)
    have := Nat.mul_le_mul hO p1.2
    exact ⟨by omega, by omega, by omega, by omega, by omega⟩
  · have hO : frO 1 n s m t ≤ 2 * (999999999999999 * 1000000000000000) := by
      unfold frO; rw [if_neg (by decide), if_neg (by decide), if_neg (by decide)]; unfold sO; (repeat' split) <;> omega
    have hS : frS 1 s t = max s t := rfl
    have hU : frU 1 m = 1 := rfl
    rw [hS, hU]
    have p1 := pow10_le (sc - max s t).toNat (by omega)
    have p2 := pow10_le (max s t - sc).toNat (by omega)
    have := Nat.mul_le_mul hO p1.2
    exact ⟨by omega, by omega, by omega, by omega, by omega⟩
  · have hO : frO 2 n s m t = n.natAbs * m.natAbs := rfl
    have hS : frS 2 s t = s + t := rfl
    have hU : frU 2 m = 1 := rfl
    rw [hS, hU, hO]
    have p1 := pow10_le (sc - (s + t)).toNat (by omega)
    have p2 := pow10_30 (s + t - sc).toNat (by omega)
    have := Nat.mul_le_mul (Nat.mul_le_mul bn bm) p1.2
    exact ⟨by omega, by omega, by omega, by omega, by omega⟩
  · have hO : frO 3 n s m t = n.natAbs := rfl
    have hS : frS 3 s t = s - t := rfl
    have hU : frU 3 m = m.natAbs := rfl
    rw [hS, hU, hO]
    have hp := dv_pos hdv (.inl rfl)
    have p1 := pow10_30 (sc - (s - t)).toNat (by omega)
    have p2 := pow10_30 (s - t - sc).toNat (by omega)
    have h1 := Nat.mul_le_mul bn p1.2
    have h2 := Nat.mul_le_mul bm p2.2
    have h3 := Nat.mul_pos hp (show 0 < 10 ^ (s - t - sc).toNat by omega)
    exact ⟨by omega, h3, by omega, by omega, by omega⟩
  · have hp := dv_pos hdv (.inr rfl)
    have hpos : 0 < m.natAbs * 10 ^ (max s t - t).toNat := Nat.mul_pos hp (Nat.pow_pos (by omega))
    have hO : frO 4 n s m t ≤ 999999999999999 * 1000000000000000 := by
      have h1 : frO 4 n s m t = (n.natAbs * 10 ^ (max s t - s).toNat) % (m.natAbs * 10 ^ (max s t - t).toNat) := rfl
      rw [h1]
      exact Nat.le_trans (Nat.mod_le _ _) hA
    have hS : frS 4 s t = max s t := rfl
    have hU : frU 4 m = 1 := rfl
    rw [hS, hU]
    have p1 := pow10_le (sc - max s t).toNat (by omega)
    have p2 := pow10_le (max s t - sc).toNat (by omega)
    have := Nat.mul_le_mul hO p1.2
    exact ⟨by omega, by omega, by omega, by omega, by omega⟩

/-- What Calculated gives. -/
def caZ (op n s m t sc : Int) (half : Bool) : Nat := rq (frO op n s m t * 10 ^ (sc - frS op s t).toNat) (frU op m * 10 ^ (frS op s t - sc).toNat) half
def caN (op n s m t k l sc : Int) (half : Bool) : Int := if caErr op n s m t k l sc ≠ 0 then 0 else pN (frB op n s m t) (caZ op n s m t sc half) l
def caE (op n s m t k l sc : Int) (half : Bool) : Int := if caErr op n s m t k l sc ≠ 0 then caErr op n s m t k l sc else pE (caZ op n s m t sc half) l

/-- What is wanted of remainderOf. -/
def RemOk : Prop := ∀ (n s m t : Int), numErr n s = 0 → numErr m t = 0 → m ≠ 0 → ∀ w, Calls Try.prog 58 #[.agg #[.int .i64 n, .int .i64 s], .agg #[.int .i64 m, .int .i64 t]] w fun e w' => e = .returned (.agg #[.bool (frB 4 n s m t), .int .u64 ((wd ((frO 4 n s m t)) 0 : Nat) : Int), .int .u64 ((wd ((frO 4 n s m t)) 1 : Nat) : Int), .int .u64 ((wd ((frO 4 n s m t)) 2 : Nat) : Int), .int .u64 ((wd ((frU 4 m)) 0 : Nat) : Int), .int .u64 ((wd ((frU 4 m)) 1 : Nat) : Int), .int .u64 ((wd ((frU 4 m)) 2 : Nat) : Int), .int .i64 ((frS 4 s t))]) ∧ Gr w w'

theorem resultOf_any (hRm : RemOk) (op n s m t : Int) (ho : 0 ≤ op ∧ op ≤ 4) (hn : numErr n s = 0) (hm : numErr m t = 0) (hdv : dvB op m = false) (w : World) :
    Calls Try.prog 25 #[.int .i64 op, .agg #[.int .i64 n, .int .i64 s], .agg #[.int .i64 m, .int .i64 t]] w fun e w' => e = .returned (.agg #[.bool (frB op n s m t), .int .u64 ((wd ((frO op n s m t)) 0 : Nat) : Int), .int .u64 ((wd ((frO op n s m t)) 1 : Nat) : Int), .int .u64 ((wd ((frO op n s m t)) 2 : Nat) : Int), .int .u64 ((wd ((frU op m)) 0 : Nat) : Int), .int .u64 ((wd ((frU op m)) 1 : Nat) : Int), .int .u64 ((wd ((frU op m)) 2 : Nat) : Int), .int .i64 ((frS op s t))]) ∧ Gr w w' := by
  obtain ⟨n0, n1, s0, s1⟩ := numErr_ok hn
  obtain ⟨m0, m1, t0, t1⟩ := numErr_ok hm
  have pd := pow10_le (max s t - s).toNat (by omega)
  have pe := pow10_le (max s t - t).toNat (by omega)
  have bA : n.natAbs * 10 ^ (max s t - s).toNat ≤ 999999999999999 * 1000000000000000 := Nat.mul_le_mul (by omega) pd.2
  have bB : m.natAbs * 10 ^ (max s t - t).toNat ≤ 999999999999999 * 1000000000000000 := Nat.mul_le_mul (by omega) pe.2
  rcases (show op = 0 ∨ op = 1 ∨ op = 2 ∨ op = 3 ∨ op = 4 by omega) with rfl | rfl | rfl | rfl | rfl
  · exact resultOf_0 n s m t _ _ _ _ _ _ _ _ _ _ (exactOf_any n s (by omega) (by omega)) (exactOf_any m t (by omega) (by omega)) (sumOf_any (decide (n < 0)) (decide (m < 0)) n.natAbs m.natAbs s t (max s t) (max s t - s).toNat (max s t - t).toNat _ _ rfl (by omega) (by omega) rfl rfl (by omega) (by omega) (by omega) (by omega) (by unfold Sm; omega)) w
  · exact resultOf_1 n s m t _ _ _ _ _ _ _ _ _ _ _ (exactOf_any n s (by omega) (by omega)) (exactOf_any m t (by omega) (by omega)) (negated_any (decide (m < 0)) m.natAbs 1 t) (sumOf_any (decide (n < 0)) (!decide (m < 0)) n.natAbs m.natAbs s t (max s t) (max s t - s).toNat (max s t - t).toNat _ _ rfl (by omega) (by omega) rfl rfl (by omega) (by omega) (by omega) (by omega) (by unfold Sm; omega)) w
  · exact resultOf_2 n s m t _ _ _ _ _ _ _ _ (productOf_any n s m t (by omega) (by omega) (by omega) (by omega) (by omega) (by omega)) w
  · exact resultOf_3 n s m t _ _ _ _ _ _ _ _ (quotientOf_any n s m t (by omega) (by omega) (by omega) (by omega) (by omega) (by omega)) w
  · exact resultOf_4 n s m t _ _ _ _ _ _ _ _ (hRm n s m t hn hm (by have := dv_pos hdv (.inr rfl); omega)) w

theorem Calculated_any (hRm : RemOk) (op n s m t k l sc : Int) (half : Bool) (w : World) :
    Calls Try.prog 8 #[.int .i64 op, .agg #[.int .i64 n, .int .i64 s], .agg #[.int .i64 m, .int .i64 t], .agg #[.int .i64 k, .int .i64 l, .int .i64 sc], .bool half] w fun e w' => e = .returned (.tuple #[.agg #[.int .i64 (caN op n s m t k l sc half), .string ⟨#[]⟩], .int .i64 (caE op n s m t k l sc half)]) ∧ Gr w w' := by
  by_cases he : caErr op n s m t k l sc = 0
  · obtain ⟨ho, hcv, hm, hdv⟩ := caErr_ok he
    have hb := fr_bd he
    obtain ⟨n0, n1, s0, s1, l0, l1, c0, c1, k0, k1⟩ := cvErr_ok hcv
    have hn : numErr n s = 0 := by unfold cvErr at hcv; exact (first0_split hcv).1
    have e46 : (10 : Nat) ^ 46 = 10000000000000000000000000000000000000000000000 := by decide
    have e45 : (10 : Nat) ^ 45 = 1000000000000000000000000000000000000000000000 := by decide
    have e190 : (2 : Nat) ^ 190 = 1569275433846670190958947355801916604025588861116008628224 := by decide
    have hE : caE op n s m t k l sc half = pE (caZ op n s m t sc half) l := by unfold caE; rw [if_neg (by simp [he])]
    have hN : caN op n s m t k l sc half = pN (frB op n s m t) (caZ op n s m t sc half) l := by unfold caN; rw [if_neg (by simp [he])]
    rw [hE, hN]
    exact Calculated_core op n s m t k l sc _ _ half _ false 0 he rfl (fun h => by cases h) (fun _ => resultOf_any hRm op n s m t ho hn hm hdv)
      (fun _ => put_any (frB op n s m t) half (frO op n s m t) (frU op m) (frS op s t) k l sc (sc - frS op s t).toNat (frS op s t - sc).toNat _ _ (by omega) (by omega) rfl rfl hb.2.2.2.1 hb.2.2.2.2 (by omega) (by omega) (by omega) (by unfold Sm; omega) hb.2.1 (by unfold Sm; omega) (divided_any _ _ (by unfold Sm; omega) hb.2.1 (by omega))) w
  · have hE : caE op n s m t k l sc half = caErr op n s m t k l sc := by unfold caE; rw [if_pos he]
    have hN : caN op n s m t k l sc half = 0 := by unfold caN; rw [if_pos he]
    rw [hE, hN]
    exact Calculated_core op n s m t k l sc 0 _ half (.bool false) true _ rfl (by simp [he]) (fun _ => ⟨rfl, rfl⟩) (fun h => by cases h) (fun h => by cases h) w
end Go.Proofs.Ytnaflaokhldfnaa
