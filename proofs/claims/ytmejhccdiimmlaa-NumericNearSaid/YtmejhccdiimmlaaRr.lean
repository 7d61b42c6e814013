/- NEAR: the law's helper for what the program's Converted answers. -/
import Derived.Test.YtmejhccdiimmlaaRp
import Derived.Test.YtmejhccdiimmlaaRq
import Derived.Test.YtmejhccdiimmlaaSn
namespace Go.Proofs.Ytmejhccdiimmlaa
set_option linter.unusedSimpArgs false
set_option linter.unusedVariables false
open Go.RowKit

set_option maxHeartbeats 2000000 in
set_option maxRecDepth 100000 in
theorem near_le (n s m t : Int) (half : Bool) (hle : s ≤ t)
    (hO : ∀ w, Calls Try.prog 82 #[.agg #[.int .i64 n, .int .i64 s], .agg #[.int .i64 m, .int .i64 t]] w fun e w' => e = .returned (.int .i64 0) ∧ Gr w w') (w : World) :
    Calls Try.prog 38 #[.agg #[.int .i64 n, .int .i64 s], .agg #[.int .i64 m, .int .i64 t], .bool half] w fun e w' => e = .returned (.bool true) ∧ Gr w w' := by
  go_enter Try.func38, Try.ntmps38
  go_wp2_with (go_at_call 82; refine (hO _).mono ?_; rintro e w1 ⟨rfl, hb⟩; obtain ⟨hc, hf⟩ := hb.cells; have hz : w.heap.size + 1 < w1.heap.size := (by have h := hb.size; (try simp at h); omega); have hz0 : w.heap.size < w1.heap.size := by omega)
  exact bodyPost_ret (v := .bool true) (by simp [results, Try.results38, go_sem, *]) rfl ⟨rfl, (by repeat (first | exact Gr.refl _ | assumption | refine Gr.alloc ?_ _ | refine Gr.drew ?_ | refine Gr.drewN ?_ _ | refine Gr.setCell ?_ (by simp <;> omega) _ | refine Gr.trans ?_ (by assumption)))⟩

theorem sgv_abs (v : Int) (P : Int) : sgv (decide (v < 0)) (absI v * P) = v * P := by
  unfold sgv absI; by_cases g : v < 0 <;> simp [g, Int.neg_mul]
theorem sgv_abs1 (v : Int) : sgv (decide (v < 0)) (absI v) = v := by have := sgv_abs v 1; simpa using this
theorem near_dist {n : Int} {Z P : Nat} {half : Bool} (hP : 0 < P) (hZ : Z = rq n.natAbs P half) :
    if half then 2 * absI (n + -(if n < 0 then -(Z : Int) else Z) * P) ≤ P else absI (n + -(if n < 0 then -(Z : Int) else Z) * P) < P := by
  have e : absI (n + -(if n < 0 then -(Z : Int) else Z) * P) = absI ((n.natAbs : Int) - Z * P) := by
    by_cases g : n < 0
    · rw [if_pos g, Int.neg_neg]
      have : n = -(n.natAbs : Int) := by omega
      generalize (n.natAbs : Int) = X at *
      generalize (Z : Int) * P = Y at *
      unfold absI; split <;> split <;> omega
    · rw [if_neg g, Int.neg_mul]
      have : n = (n.natAbs : Int) := by omega
      generalize (n.natAbs : Int) = X at *
      generalize (Z : Int) * P = Y at *
      unfold absI; split <;> split <;> omega
  rw [e]
  have hdm := Nat.div_add_mod n.natAbs P
  have hlt := Nat.mod_lt n.natAbs hP
  generalize hX : n.natAbs = X at *
  generalize hq : X / P = q at *
  generalize hr : X % P = r at *
  unfold rq at hZ
  rw [hq, hr] at hZ
  cases half
  · simp at hZ
    rw [hZ]
    have : (X : Int) - q * P = r := by rw [← hdm, Nat.mul_comm P q]; push_cast; omega
    rw [if_neg (by simp), this]; unfold absI; split <;> omega
  · rw [if_pos rfl]
    by_cases g : P ≤ 2 * r
    · rw [if_pos ⟨rfl, g⟩] at hZ
      subst hZ
      have : (X : Int) - ((q + 1 : Nat) : Int) * P = (r : Int) - P := by rw [← hdm, Nat.mul_comm P q]; push_cast; rw [Int.add_mul]; omega
      rw [this]; unfold absI; split <;> omega
    · rw [if_neg (fun h => g h.2)] at hZ
      simp at hZ
      rw [hZ]
      have : (X : Int) - q * P = r := by rw [← hdm, Nat.mul_comm P q]; push_cast; omega
      rw [this]; unfold absI; split <;> omega
theorem cv_fits {n s k l sc : Int} {half : Bool} (h : cvE n s k l sc half = 0) : cvErr n s k l sc = 0 ∧ cvN n s k l sc half = (if n < 0 then -(cvZ n s sc half : Int) else cvZ n s sc half) ∧ (cvZ n s sc half : Int) ≤ most l := by
  have he : cvErr n s k l sc = 0 := by
    by_cases e : cvErr n s k l sc = 0
    · exact e
    · unfold cvE at h; rw [if_pos e] at h; exact h
  have hp : pE (cvZ n s sc half) l = 0 := by
    unfold cvE at h; rw [if_neg (by omega)] at h; exact h
  have hm : ¬ most l < cvZ n s sc half := by
    intro g; unfold pE at hp; rw [if_pos g] at hp; omega
  refine ⟨he, ?_, by omega⟩
  unfold cvN pN
  rw [if_neg (by omega), if_neg hm]
  by_cases g : n < 0 <;> simp [g]
theorem near_cv {n s k l sc : Int} {half : Bool} (h : cvE n s k l sc half = 0) (w : World) :
    Calls Try.prog 38 #[.agg #[.int .i64 n, .int .i64 s], .agg #[.int .i64 (cvN n s k l sc half), .int .i64 sc], .bool half] w fun e w' => e = .returned (.bool true) ∧ Gr w w' := by
  obtain ⟨he, hN, hZm⟩ := cv_fits h
  have hb := cvErr_ok he
  have hml : most l ≤ 999999999999999 := by
    have : (10 : Int) ^ l.toNat ≤ 10 ^ 15 := ten_mono (by omega)
    unfold most p10; omega
  have hNb : -1000000000000000 ≤ cvN n s k l sc half ∧ cvN n s k l sc half ≤ 1000000000000000 := by rw [hN]; split <;> omega
  by_cases hst : s ≤ sc
  · refine near_le _ _ _ _ half hst (fun w => Order_equal _ _ _ _ (by omega) (by omega) (by omega) (by omega) (by omega) (by omega) (by omega) ?_ w) w
    have hZ : cvZ n s sc half = n.natAbs * 10 ^ (sc - s).toNat := by
      unfold cvZ rq
      rw [show (s - sc).toNat = 0 by omega]
      simp [Nat.mod_one]
    have e1 : max s sc - s = sc - s := by omega
    have e2 : (max s sc - sc).toNat = 0 := by omega
    rw [e1, e2, hN, hZ]
    have e3 : ((n.natAbs * 10 ^ (sc - s).toNat : Nat) : Int) = (n.natAbs : Int) * 10 ^ (sc - s).toNat := by push_cast; rfl
    rw [e3]
    by_cases g : n < 0
    · rw [if_pos g]; have : (n.natAbs : Int) = -n := by omega
      rw [this]; simp only [Int.pow_zero, Int.mul_one, Int.neg_mul, Int.neg_neg]
    · rw [if_neg g]; have : (n.natAbs : Int) = n := by omega
      rw [this]; simp
  · have hZ : cvZ n s sc half = rq n.natAbs (10 ^ (s - sc).toNat) half := by
      unfold cvZ
      rw [show (sc - s).toNat = 0 by omega]
      simp
    have hd := near_dist (n := n) (half := half) (P := 10 ^ (s - sc).toNat) (Nat.pow_pos (by omega)) hZ
    rw [← hN] at hd
    have eP : ((10 ^ (s - sc).toNat : Nat) : Int) = (10 : Int) ^ (s - sc).toNat := by push_cast; rfl
    rw [eP] at hd
    have hP1 : (10 : Int) ^ (s - sc).toNat ≤ 10 ^ 15 := ten_mono (by omega)
    have hP0 := ten_pos (s - sc).toNat
    generalize cvN n s k l sc half = N at *
    have hL := LongOf_sl n 0 0 rfl (by omega) (by omega) (by omega)
    have hR := LongOf_sl (-N) (s - sc).toNat (s - sc) (by omega) (by omega) (by omega) (by omega)
    have hO := LongOf_sl (-1) (s - sc).toNat (s - sc) (by omega) (by omega) (by omega) (by omega)
    have eO : absI (-1) * (10 : Int) ^ (s - sc).toNat = 10 ^ (s - sc).toNat := by unfold absI; simp
    have eL : absI n * (10 : Int) ^ 0 = absI n := by simp
    rw [eO] at hO
    rw [eL] at hL
    have an : 0 ≤ absI n ∧ absI n ≤ 1000000000000000 := by unfold absI; split <;> omega
    have am : 0 ≤ absI (-N) ∧ absI (-N) ≤ 1000000000000000 := by unfold absI; split <;> omega
    have hy : absI (-N) * (10 : Int) ^ (s - sc).toNat ≤ 1000000000000000 * 10 ^ 15 := Int.mul_le_mul am.2 hP1 (by omega) (by omega)
    refine near_more n s N sc (s - sc) half _ _ _ _ _ (by omega) (by omega) (by omega) rfl hL hR hO (by omega) (by omega) (by omega) _ ?_ hd w
    rw [sgv_abs1, sgv_abs]
end Go.Proofs.Ytmejhccdiimmlaa
