/- Texts of the walks, merged. -/
import Derived.Test.YtnaflaokhldfnaaDoorQ24
import Derived.Test.YtnaflaokhldfnaaDoorQ25
import Derived.Test.YtnaflaokhldfnaaDoorQ17
namespace Go.Proofs.YtnaflaokhldfnaaDoor
set_option linter.unusedSimpArgs false
set_option linter.unusedVariables false
open Go.RowKit

theorem Order_any (n s m t : Int) (hn : numErr n s = 0) (hm : numErr m t = 0) (w : World) :
    Calls Tryd.prog 25 #[.agg #[.int .i64 n, .int .i64 s], .agg #[.int .i64 m, .int .i64 t]] w fun e w' => e = .returned (.int .i64 (sgI (upI n s (max s t) - upI m t (max s t)))) ∧ Gr w w' := by
  obtain ⟨h, h', hs, hs'⟩ := numErr_ok hn
  obtain ⟨k, k', ht, ht'⟩ := numErr_ok hm
  have ha := aligned_any n m s t (by omega) (by omega) (by omega) (by omega) (by omega) (by omega)
  have pn := ten_pos (max s t - s).toNat
  have pm := ten_pos (max s t - t).toNat
  have bn : (10 : Int) ^ (max s t - s).toNat ≤ 10 ^ 20 := ten_mono (by omega)
  have bm : (10 : Int) ^ (max s t - t).toNat ≤ 10 ^ 20 := ten_mono (by omega)
  have an : 0 ≤ absI n ∧ absI n ≤ 1000000000000000000 := by unfold absI; split <;> omega
  have am : 0 ≤ absI m ∧ absI m ≤ 1000000000000000000 := by unfold absI; split <;> omega
  have e1 : sgv (decide (n < 0)) (absI n * 10 ^ (max s t - s).toNat) = upI n s (max s t) := by
    unfold sgv absI upI; by_cases g : n < 0 <;> simp [g, Int.neg_mul]
  have e2 : sgv (!decide (m < 0)) (absI m * 10 ^ (max s t - t).toNat) = -(upI m t (max s t)) := by
    unfold sgv absI upI; by_cases g : m < 0 <;> simp [g, Int.neg_mul]
  have hx : absI n * 10 ^ (max s t - s).toNat < 10 ^ 60 := by
    have : absI n * 10 ^ (max s t - s).toNat ≤ 1000000000000000000 * 10 ^ 20 := Int.mul_le_mul an.2 bn (by omega) (by omega)
    exact Int.lt_of_le_of_lt this (by decide)
  have hy : absI m * 10 ^ (max s t - t).toNat < 10 ^ 60 := by
    have : absI m * 10 ^ (max s t - t).toNat ≤ 1000000000000000000 * 10 ^ 20 := Int.mul_le_mul am.2 bm (by omega) (by omega)
    exact Int.lt_of_le_of_lt this (by decide)
  have sx : (n < 0 → upI n s (max s t) < 0) ∧ (¬ n < 0 → 0 ≤ upI n s (max s t)) := by
    unfold upI
    exact ⟨fun g => Int.mul_neg_of_neg_of_pos g pn, fun g => Int.mul_nonneg (by omega) (by omega)⟩
  have sy : (m < 0 → upI m t (max s t) < 0) ∧ (¬ m < 0 → 0 ≤ upI m t (max s t)) := by
    unfold upI
    exact ⟨fun g => Int.mul_neg_of_neg_of_pos g pm, fun g => Int.mul_nonneg (by omega) (by omega)⟩
  have hcc : smB (decide (n < 0)) (absI n * 10 ^ (max s t - s).toNat) (!decide (m < 0)) (absI m * 10 ^ (max s t - t).toNat) = if (decide (n < 0)) = (!decide (m < 0)) then decide (n < 0) else decide (upI n s (max s t) + -(upI m t (max s t)) < 0) := by
    unfold smB; rw [e1, e2]
  refine Order_core n s m t _ _ _ _ _ _ (absI (upI n s (max s t) + -(upI m t (max s t)))) _ ha hcc (by rw [e1, e2]) hx hy ?_ w
  generalize upI n s (max s t) = X at *
  generalize upI m t (max s t) = Y at *
  clear hcc e1 e2 hx hy ha
  by_cases g0 : X = Y
  · exact .inl ⟨by unfold absI; split <;> omega, by unfold sgI; rw [if_neg (by omega), if_pos (by omega)]⟩
  right
  have hv : 0 < absI (X + -Y) := by unfold absI; split <;> omega
  by_cases gl : X < Y
  · left
    refine ⟨hv, ?_, by unfold sgI; rw [if_pos (by omega)]⟩
    by_cases g1 : n < 0
    · by_cases g2 : m < 0
      · rw [decide_eq_true g1, decide_eq_true g2, if_neg (by decide)]; simp; omega
      · rw [decide_eq_true g1, decide_eq_false g2, if_pos (by decide)]
    · by_cases g2 : m < 0
      · have := sx.2 g1; have := sy.1 g2; omega
      · rw [decide_eq_false g1, decide_eq_false g2, if_neg (by decide)]; simp; omega
  · right
    refine ⟨hv, ?_, by unfold sgI; rw [if_neg (by omega), if_neg (by omega)]⟩
    by_cases g1 : n < 0
    · by_cases g2 : m < 0
      · rw [decide_eq_true g1, decide_eq_true g2, if_neg (by decide)]; simp; omega
      · have := sx.1 g1; have := sy.2 g2; omega
    · by_cases g2 : m < 0
      · rw [decide_eq_false g1, decide_eq_true g2, if_pos (by decide)]
      · rw [decide_eq_false g1, decide_eq_false g2, if_neg (by decide)]; simp; omega

set_option maxHeartbeats 2000000 in
set_option maxRecDepth 100000 in
theorem refCp_core (n s m t R E1 E2 E : Int)
    (h1 : ∀ w, Calls Tryd.prog 10 #[.agg #[.int .i64 n, .int .i64 s]] w fun e w' => e = .returned (.int .i64 E1) ∧ Gr w w')
    (h2 : ∀ w, Calls Tryd.prog 10 #[.agg #[.int .i64 m, .int .i64 t]] w fun e w' => e = .returned (.int .i64 E2) ∧ Gr w w')
    (h : ((E1 != 0) = true ∧ R = 0 ∧ E = E1) ∨ (E1 = 0 ∧ (E2 != 0) = true ∧ R = 0 ∧ E = E2) ∨ (E1 = 0 ∧ E2 = 0 ∧ E = 0 ∧ ∀ w, Calls Tryd.prog 25 #[.agg #[.int .i64 n, .int .i64 s], .agg #[.int .i64 m, .int .i64 t]] w fun e w' => e = .returned (.int .i64 R) ∧ Gr w w')) (w : World) :
    Calls Tryd.prog 8 #[.agg #[.int .i64 n, .int .i64 s], .agg #[.int .i64 m, .int .i64 t]] w fun e w' => e = .returned (.tuple #[.int .i64 R, .int .i64 E]) ∧ Gr w w' := by
  rcases h with ⟨h0, rfl, rfl⟩ | ⟨rfl, h0, rfl, rfl⟩ | ⟨rfl, rfl, rfl, h3⟩
  · go_enter Tryd.func8, Tryd.ntmps8
    go_wp2_with (first | (go_at_call 10; with_reducible refine (h1 _).mono ?_; rintro e w1 ⟨rfl, w1h⟩; obtain ⟨w1c, w1f⟩ := w1h.cells; have w1s := w1h.size; (try simp at w1s); have w1z : w.heap.size + 1 < w1.heap.size := (by omega); have w1y : w.heap.size < w1.heap.size := (by omega)))
    go_ret2
    exact ⟨rfl, (by repeat (first | (with_reducible exact Gr.refl _) | (with_reducible assumption) | (with_reducible refine Gr.alloc ?_ _) | (with_reducible refine Gr.drew ?_) | (with_reducible refine Gr.drewN ?_ _) | (with_reducible refine Gr.setCell ?_ (by simp <;> omega) _) | (with_reducible refine Gr.trans ?_ (by with_reducible assumption)) | exact Gr.refl _ | assumption | refine Gr.alloc ?_ _ | refine Gr.drew ?_ | refine Gr.drewN ?_ _ | refine Gr.setCell ?_ (by simp <;> omega) _ | refine Gr.trans ?_ (by assumption)))⟩
  · go_enter Tryd.func8, Tryd.ntmps8
    go_wp2_with (first | (go_at_call 10; with_reducible refine (h1 _).mono ?_; rintro e w1 ⟨rfl, w1h⟩; obtain ⟨w1c, w1f⟩ := w1h.cells; have w1s := w1h.size; (try simp at w1s); have w1z : w.heap.size + 1 < w1.heap.size := (by omega); have w1y : w.heap.size < w1.heap.size := (by omega)) | (go_at_call 10; with_reducible refine (h2 _).mono ?_; rintro e w2 ⟨rfl, w2h⟩; obtain ⟨w2c, w2f⟩ := w2h.cells; have w2s := w2h.size; (try simp at w2s); have w2z : w.heap.size + 1 < w2.heap.size := (by omega); have w2y : w.heap.size < w2.heap.size := (by omega)))
    go_ret2
    exact ⟨rfl, (by repeat (first | (with_reducible exact Gr.refl _) | (with_reducible assumption) | (with_reducible refine Gr.alloc ?_ _) | (with_reducible refine Gr.drew ?_) | (with_reducible refine Gr.drewN ?_ _) | (with_reducible refine Gr.setCell ?_ (by simp <;> omega) _) | (with_reducible refine Gr.trans ?_ (by with_reducible assumption)) | exact Gr.refl _ | assumption | refine Gr.alloc ?_ _ | refine Gr.drew ?_ | refine Gr.drewN ?_ _ | refine Gr.setCell ?_ (by simp <;> omega) _ | refine Gr.trans ?_ (by assumption)))⟩
  · go_enter Tryd.func8, Tryd.ntmps8
    go_wp2_with (first | (go_at_call 10; with_reducible refine (h1 _).mono ?_; rintro e w1 ⟨rfl, w1h⟩; obtain ⟨w1c, w1f⟩ := w1h.cells; have w1s := w1h.size; (try simp at w1s); have w1z : w.heap.size + 1 < w1.heap.size := (by omega); have w1y : w.heap.size < w1.heap.size := (by omega)) | (go_at_call 10; with_reducible refine (h2 _).mono ?_; rintro e w2 ⟨rfl, w2h⟩; obtain ⟨w2c, w2f⟩ := w2h.cells; have w2s := w2h.size; (try simp at w2s); have w2z : w.heap.size + 1 < w2.heap.size := (by omega); have w2y : w.heap.size < w2.heap.size := (by omega)) | (go_at_call 25; with_reducible refine (h3 _).mono ?_; rintro e w3 ⟨rfl, w3h⟩; obtain ⟨w3c, w3f⟩ := w3h.cells; have w3s := w3h.size; (try simp at w3s); have w3z : w.heap.size + 1 < w3.heap.size := (by omega); have w3y : w.heap.size < w3.heap.size := (by omega)))
    go_ret2
    exact ⟨rfl, (by repeat (first | (with_reducible exact Gr.refl _) | (with_reducible assumption) | (with_reducible refine Gr.alloc ?_ _) | (with_reducible refine Gr.drew ?_) | (with_reducible refine Gr.drewN ?_ _) | (with_reducible refine Gr.setCell ?_ (by simp <;> omega) _) | (with_reducible refine Gr.trans ?_ (by with_reducible assumption)) | exact Gr.refl _ | assumption | refine Gr.alloc ?_ _ | refine Gr.drew ?_ | refine Gr.drewN ?_ _ | refine Gr.setCell ?_ (by simp <;> omega) _ | refine Gr.trans ?_ (by assumption)))⟩
theorem refCompared_any (n s m t : Int) (w : World) :
    Calls Tryd.prog 8 #[.agg #[.int .i64 n, .int .i64 s], .agg #[.int .i64 m, .int .i64 t]] w fun e w' => e = .returned (.tuple #[.int .i64 (cpR n s m t), .int .i64 (cpErr n s m t)]) ∧ Gr w w' := by
  refine refCp_core n s m t _ _ _ _ (NumberErr_any n s) (NumberErr_any m t) ?_ w
  by_cases g1 : numErr n s = 0
  · by_cases g2 : numErr m t = 0
    · have he : cpErr n s m t = 0 := by unfold cpErr; simp [first0, g1, g2]
      exact .inr (.inr ⟨g1, g2, he, by
        have := Order_any n s m t g1 g2
        unfold cpR; rw [if_neg (by simp [he])]; exact this⟩)
    · have he : cpErr n s m t = numErr m t := by unfold cpErr; simp [first0, g1, g2]
      exact .inr (.inl ⟨g1, by simp [g2], by unfold cpR; rw [if_pos (by rw [he]; exact g2)], he⟩)
  · have he : cpErr n s m t = numErr n s := by unfold cpErr; simp [first0, g1]
    exact .inl ⟨by simp [g1], by unfold cpR; rw [if_pos (by rw [he]; exact g1)], he⟩
end Go.Proofs.YtnaflaokhldfnaaDoor
