/- Texts of the walks, merged. -/
import Derived.Test.YtnaflaokhldfnaaQ38
import Derived.Test.YtnaflaokhldfnaaQ29
namespace Go.Proofs.Ytnaflaokhldfnaa
set_option linter.unusedSimpArgs false
set_option linter.unusedVariables false
open Go.RowKit

/-- A whole number put into 15 digits: N, the error. -/
def pI (z : Int) : Int := if 999999999999999 < z.natAbs then 0 else z
def pO (z : Int) : Int := if 999999999999999 < z.natAbs then 19 else 0
theorem most_15 : most 15 = 999999999999999 := by decide +kernel
theorem pN_pI (b : Bool) (Z : Nat) : pN b Z 15 = pI (if b then -(Z : Int) else Z) ∧ pE Z 15 = pO (if b then -(Z : Int) else Z) := by
  unfold pN pE pI pO
  rw [most_15]
  have h1 : (if b = true then -(Z : Int) else Z).natAbs = Z := by cases b <;> simp
  rw [h1]
  by_cases h : (999999999999999 : Int) < Z
  · have h' : 999999999999999 < Z := by omega
    rw [if_pos h, if_pos h, if_pos h', if_pos h']; exact ⟨rfl, rfl⟩
  · have h' : ¬ 999999999999999 < Z := by omega
    rw [if_neg h, if_neg h, if_neg h', if_neg h']; exact ⟨rfl, rfl⟩
theorem pO_zero {z : Int} (h : pO z = 0) : pI z = z ∧ z.natAbs ≤ 999999999999999 := by
  unfold pO at h
  unfold pI
  by_cases e : 999999999999999 < z.natAbs
  · rw [if_pos e] at h; exact absurd h (by decide)
  · rw [if_neg e]; exact ⟨rfl, by omega⟩
theorem pO_or (z : Int) : pO z = 0 ∨ pO z = 19 := by unfold pO; split; exact .inr rfl; exact .inl rfl
theorem type_wide {sc : Int} (h : 0 ≤ sc ∧ sc ≤ 15) : typeErr 1 15 sc = 0 := by
  have h1 : rightLen 1 15 = true := rfl
  have h2 : mostScale 1 15 = 15 := rfl
  unfold typeErr
  rw [if_neg (by omega), if_neg (by rw [h1]; decide), h2, if_neg (by omega)]
theorem caErr_wide {op n s m t sc : Int} (ho : 0 ≤ op ∧ op ≤ 4) (h1 : numErr n s = 0) (h2 : numErr m t = 0) (hsc : 0 ≤ sc ∧ sc ≤ 15) : caErr op n s m t 1 15 sc = pick (dvB op m) 20 :=
  caErr_z ho h1 h2 (by unfold nuErr; rw [if_neg (by simp [type_wide hsc])]; rfl)
theorem ca_val {op n s m t sc : Int} (he : caErr op n s m t 1 15 sc = 0) (z : Int) (hz : (if frB op n s m t then -(caZ op n s m t sc false : Int) else (caZ op n s m t sc false : Int)) = z) : caN op n s m t 1 15 sc false = pI z ∧ caE op n s m t 1 15 sc false = pO z := by
  unfold caN caE
  rw [if_neg (by simp [he]), if_neg (by simp [he]), ← hz]
  exact pN_pI _ _
theorem rq_one (X : Nat) : rq X 1 false = X := by unfold rq; simp
theorem rq_div (X Y : Nat) : rq X Y false = X / Y := by unfold rq; simp
theorem sgv_up (n : Int) (d : Nat) : sgv (decide (n < 0)) ((n.natAbs * 10 ^ d : Nat) : Int) = n * 10 ^ d := by
  have a := abs_up n d
  unfold sgv
  by_cases h : n < 0
  · rw [decide_eq_true h, if_pos rfl, a, if_pos h, Int.neg_neg]
  · rw [decide_eq_false h, if_neg (by decide), a, if_neg h]
theorem sgv_not (b : Bool) (x : Int) : sgv (!b) x = -sgv b x := by cases b <;> simp [sgv]
theorem sum_val (a b : Bool) (A B : Nat) : (if sB a b A B then -(sO a b A B : Int) else (sO a b A B : Int)) = sgv a A + sgv b B := by
  have f : ∀ x, sgv false x = x := fun _ => rfl
  have t : ∀ x, sgv true x = -x := fun _ => rfl
  unfold sO sB
  cases a <;> cases b <;> simp only [f, t, if_true, if_false, reduceCtorEq, Bool.false_eq_true] <;> (repeat' split) <;> simp_all <;> omega

theorem add_val {n s m t M : Int} (h1 : numErr n s = 0) (h2 : numErr m t = 0) (hM : max s t = M) : caN 0 n s m t 1 15 M false = pI (n * 10 ^ (M - s).toNat + m * 10 ^ (M - t).toNat) ∧ caE 0 n s m t 1 15 M false = pO (n * 10 ^ (M - s).toNat + m * 10 ^ (M - t).toNat) := by
  obtain ⟨-, -, s0, s1⟩ := numErr_ok h1
  obtain ⟨-, -, t0, t1⟩ := numErr_ok h2
  refine ca_val (caErr_wide (by omega) h1 h2 (by omega)) _ ?_
  have hO : frO 0 n s m t = sO (decide (n < 0)) (decide (m < 0)) (n.natAbs * 10 ^ (M - s).toNat) (m.natAbs * 10 ^ (M - t).toNat) := by
    unfold frO; rw [if_neg (by decide), if_neg (by decide), if_neg (by decide), if_neg (by decide), hM]
  have hB : frB 0 n s m t = sB (decide (n < 0)) (decide (m < 0)) (n.natAbs * 10 ^ (M - s).toNat) (m.natAbs * 10 ^ (M - t).toNat) := by
    unfold frB; rw [if_neg (by decide), if_neg (by decide), if_neg (by decide), hM]
  have hZ : caZ 0 n s m t M false = frO 0 n s m t := by
    unfold caZ
    rw [show frS 0 s t = M from hM, show frU 0 m = 1 from rfl, Int.sub_self]
    exact (by simpa using rq_one (frO 0 n s m t))
  rw [hZ, hO, hB, sum_val, sgv_up, sgv_up]
theorem sub_val {n s m t M : Int} (h1 : numErr n s = 0) (h2 : numErr m t = 0) (hM : max s t = M) : caN 1 n s m t 1 15 M false = pI (n * 10 ^ (M - s).toNat - m * 10 ^ (M - t).toNat) ∧ caE 1 n s m t 1 15 M false = pO (n * 10 ^ (M - s).toNat - m * 10 ^ (M - t).toNat) := by
  obtain ⟨-, -, s0, s1⟩ := numErr_ok h1
  obtain ⟨-, -, t0, t1⟩ := numErr_ok h2
  refine ca_val (caErr_wide (by omega) h1 h2 (by omega)) _ ?_
  have hO : frO 1 n s m t = sO (decide (n < 0)) (!decide (m < 0)) (n.natAbs * 10 ^ (M - s).toNat) (m.natAbs * 10 ^ (M - t).toNat) := by
    unfold frO; rw [if_neg (by decide), if_neg (by decide), if_neg (by decide), if_pos rfl, hM]
  have hB : frB 1 n s m t = sB (decide (n < 0)) (!decide (m < 0)) (n.natAbs * 10 ^ (M - s).toNat) (m.natAbs * 10 ^ (M - t).toNat) := by
    unfold frB; rw [if_neg (by decide), if_neg (by decide), if_pos rfl, hM]
  have hZ : caZ 1 n s m t M false = frO 1 n s m t := by
    unfold caZ
    rw [show frS 1 s t = M from hM, show frU 1 m = 1 from rfl, Int.sub_self]
    exact (by simpa using rq_one (frO 1 n s m t))
  rw [hZ, hO, hB, sum_val, sgv_not, sgv_up, sgv_up]
  exact Int.sub_eq_add_neg.symm
theorem cv_val {n s M : Int} (h1 : numErr n s = 0) (hs : s ≤ M) (hM : M ≤ 15) : cvN n s 1 15 M false = pI (n * 10 ^ (M - s).toNat) ∧ cvE n s 1 15 M false = pO (n * 10 ^ (M - s).toNat) := by
  obtain ⟨-, -, s0, s1⟩ := numErr_ok h1
  have he : cvErr n s 1 15 M = 0 := by
    unfold cvErr; simp only [first0]; rw [if_pos h1, if_pos (type_wide (by omega))]; rfl
  have hZ : cvZ n s M false = n.natAbs * 10 ^ (M - s).toNat := by
    unfold cvZ
    rw [show (s - M).toNat = 0 by omega]
    simpa using rq_one (n.natAbs * 10 ^ (M - s).toNat)
  unfold cvN cvE
  rw [if_neg (by simp [he]), if_neg (by simp [he]), hZ]
  have h := pN_pI (decide (n < 0)) (n.natAbs * 10 ^ (M - s).toNat)
  have hz : (if decide (n < 0) = true then -((n.natAbs * 10 ^ (M - s).toNat : Nat) : Int) else ((n.natAbs * 10 ^ (M - s).toNat : Nat) : Int)) = n * 10 ^ (M - s).toNat := sgv_up n _
  rw [hz] at h
  exact h
theorem mul_comm_ca {n s m t M : Int} (h1 : numErr n s = 0) (h2 : numErr m t = 0) (hM : 0 ≤ M ∧ M ≤ 15) : caN 2 n s m t 1 15 M false = caN 2 m t n s 1 15 M false ∧ caE 2 n s m t 1 15 M false = caE 2 m t n s 1 15 M false := by
  have e1 := caErr_wide (op := 2) (by omega) h1 h2 hM
  have e2 := caErr_wide (op := 2) (by omega) h2 h1 hM
  have hB : frB 2 n s m t = frB 2 m t n s := by unfold frB; rw [if_pos (.inl rfl), if_pos (.inl rfl)]; exact Bool.xor_comm _ _
  have hO : frO 2 n s m t = frO 2 m t n s := Nat.mul_comm _ _
  have hS : frS 2 s t = frS 2 t s := Int.add_comm _ _
  have hZ : caZ 2 n s m t M false = caZ 2 m t n s M false := by unfold caZ; rw [hO, hS]; rfl
  unfold caN caE
  rw [e1, e2, hB, hZ]
  exact ⟨rfl, rfl⟩
theorem mul_val {q m t M : Int} (h1 : numErr q 0 = 0) (h2 : numErr m t = 0) (ht : t ≤ M) (hM : M ≤ 15) : caN 2 q 0 m t 1 15 M false = pI (q * (m * 10 ^ (M - t).toNat)) ∧ caE 2 q 0 m t 1 15 M false = pO (q * (m * 10 ^ (M - t).toNat)) := by
  obtain ⟨-, -, t0, t1⟩ := numErr_ok h2
  refine ca_val (caErr_wide (by omega) h1 h2 (by omega)) _ ?_
  have hZ : caZ 2 q 0 m t M false = q.natAbs * (m.natAbs * 10 ^ (M - t).toNat) := by
    unfold caZ
    rw [show frS 2 0 t = t from Int.zero_add t, show frU 2 m = 1 from rfl, show (t - M).toNat = 0 by omega, show frO 2 q 0 m t = q.natAbs * m.natAbs from rfl, Nat.mul_assoc]
    simpa using rq_one (q.natAbs * (m.natAbs * 10 ^ (M - t).toNat))
  have hB : frB 2 q 0 m t = (decide (q < 0) != decide (m < 0)) := rfl
  have a := abs_up m (M - t).toNat
  rw [hZ, hB]
  have ha : ((q.natAbs * (m.natAbs * 10 ^ (M - t).toNat) : Nat) : Int) = (q.natAbs : Int) * ((m.natAbs * 10 ^ (M - t).toNat : Nat) : Int) := by push_cast; rfl
  rw [ha, a]
  by_cases hq : q < 0 <;> by_cases hm : m < 0 <;> simp only [hq, hm, decide_true, decide_false, bne_self_eq_false, Bool.false_eq_true, if_false, if_true, bne_iff_ne, ne_eq, reduceCtorEq, not_false_eq_true]
  · rw [show (q.natAbs : Int) = -q by omega, Int.neg_mul_neg]
  · rw [show (q.natAbs : Int) = -q by omega, Int.neg_mul, Int.neg_neg]
  · rw [show (q.natAbs : Int) = q by omega, Int.mul_neg, Int.neg_neg]
  · rw [show (q.natAbs : Int) = q by omega]
theorem div_val {n s m t M : Int} (h1 : numErr n s = 0) (h2 : numErr m t = 0) (hM : max s t = M) (hd : dvB 3 m = false) :
    ∃ z : Int, (z = ((n.natAbs * 10 ^ (M - s).toNat / (m.natAbs * 10 ^ (M - t).toNat) : Nat) : Int) ∧ ¬ ((n < 0) ↔ ¬ (m < 0)) ∨ z = -((n.natAbs * 10 ^ (M - s).toNat / (m.natAbs * 10 ^ (M - t).toNat) : Nat) : Int) ∧ ((n < 0) ↔ ¬ (m < 0))) ∧ caN 3 n s m t 1 15 0 false = pI z ∧ caE 3 n s m t 1 15 0 false = pO z := by
  obtain ⟨-, -, s0, s1⟩ := numErr_ok h1
  obtain ⟨-, -, t0, t1⟩ := numErr_ok h2
  have hZ : caZ 3 n s m t 0 false = n.natAbs * 10 ^ (M - s).toNat / (m.natAbs * 10 ^ (M - t).toNat) := by
    rw [← rq_div]
    exact (rq_fr n.natAbs m.natAbs (M - s).toNat (M - t).toNat (0 - (s - t)).toNat (s - t - 0).toNat false (by omega) (by omega)).symm
  have hB : frB 3 n s m t = (decide (n < 0) != decide (m < 0)) := rfl
  refine ⟨_, ?_, ca_val (by rw [caErr_wide (by omega) h1 h2 (by omega), hd]; rfl) _ rfl⟩
  rw [hZ, hB]
  by_cases hn : n < 0 <;> by_cases hm : m < 0 <;> simp [hn, hm]
theorem rem_val {n s m t M : Int} (h1 : numErr n s = 0) (h2 : numErr m t = 0) (hM : max s t = M) (hd : dvB 4 m = false) :
    ∃ z : Int, (z = ((n.natAbs * 10 ^ (M - s).toNat % (m.natAbs * 10 ^ (M - t).toNat) : Nat) : Int) ∧ ¬ n < 0 ∨ z = -((n.natAbs * 10 ^ (M - s).toNat % (m.natAbs * 10 ^ (M - t).toNat) : Nat) : Int) ∧ n < 0) ∧ caN 4 n s m t 1 15 M false = pI z ∧ caE 4 n s m t 1 15 M false = pO z := by
  obtain ⟨-, -, s0, s1⟩ := numErr_ok h1
  obtain ⟨-, -, t0, t1⟩ := numErr_ok h2
  have hO : frO 4 n s m t = n.natAbs * 10 ^ (M - s).toNat % (m.natAbs * 10 ^ (M - t).toNat) := by
    unfold frO; rw [if_neg (by decide), if_neg (by decide), if_pos rfl, hM]
  have hZ : caZ 4 n s m t M false = frO 4 n s m t := by
    unfold caZ
    rw [show frS 4 s t = M from hM, show frU 4 m = 1 from rfl, Int.sub_self]
    exact (by simpa using rq_one (frO 4 n s m t))
  have hB : frB 4 n s m t = decide (n < 0) := rfl
  refine ⟨_, ?_, ca_val (by rw [caErr_wide (by omega) h1 h2 (by omega), hd]; rfl) _ rfl⟩
  rw [hZ, hO, hB]
  by_cases hn : n < 0 <;> simp [hn]
end Go.Proofs.Ytnaflaokhldfnaa
