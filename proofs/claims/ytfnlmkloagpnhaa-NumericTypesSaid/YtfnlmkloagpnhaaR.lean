/- Walks: the reference's Least and Greatest. -/
import Derived.Test.YtfnlmkloagpnhaaQ
namespace Go.Proofs.Ytfnlmkloagpnhaa
set_option linter.unusedSimpArgs false
set_option linter.unusedVariables false
open Go.RowKit

set_option maxHeartbeats 1000000 in
set_option maxRecDepth 100000 in
theorem refLeast_any (k l s : Int) (he : vdErr k l s = 0) (w : World) :
    Calls Try.prog 22 #[.agg #[.int .i64 k, .int .i64 l, .int .i64 s]] w fun e w' => e = .returned (.agg #[.int .i64 (leastN k l s), .string (edgeS k l s 0)]) ∧ Gr w w' := by
  obtain ⟨ht, h4⟩ := vd_ok he
  obtain ⟨l0, l1, l2, _, _⟩ := typeErr_len ht h4
  have HE := Lib.hid he
  clear he ht h4
  by_cases k0 : k = 0
  · subst k0
    obtain ⟨L, rfl⟩ := Int.eq_ofNat_of_zero_le (show 0 ≤ l by omega)
    clear l2
    go_enter Try.func22, Try.ntmps22
    go_wp2_with (go_at_call 52; refine (refRepeat_any 0 (by omega) L (by omega) (by omega) _).mono ?_; rintro e w1 ⟨rfl, hb⟩; obtain ⟨hc, hf⟩ := cellsB hb (w.heap.size + 2) (by first | omega | ((try simp) <;> omega)); have hz : w.heap.size + 1 < w1.heap.size := (by have h := hb.size; (try simp at h); omega))
    refine bodyPost_ret (v := .agg #[.int .i64 0, .string (repS 0 L)]) (by simp [results, Try.results22, go_sem, *]) rfl ⟨by simp [leastN, edgeS, HE.out], (by repeat (first | exact Gr.refl _ | assumption | refine Gr.alloc ?_ _ | refine Gr.drew ?_ | refine Gr.drewN ?_ _ | refine Gr.setCell ?_ (by simp <;> omega) _ | refine Gr.trans ?_ (by assumption)))⟩
  · have kb : (k == 0) = false := by simp [k0]
    have l15 := l2 k0
    have HK := Lib.hid k0
    clear k0 l2
    have hm : 0 ≤ most l ∧ most l ≤ 1000000000000000000 := by have := p10_bd l (by omega); unfold most; omega
    go_enter Try.func22, Try.ntmps22
    go_wp2_with (go_at_call 51; refine (Most_any _ _ _ (by omega) _).mono ?_; rintro e w1 ⟨rfl, hb⟩; obtain ⟨hc, hf⟩ := cellsB hb (w.heap.size + 2) (by first | omega | ((try simp) <;> omega)); have hz : w.heap.size + 1 < w1.heap.size := (by have h := hb.size; (try simp at h); omega))
    refine bodyPost_ret (v := .agg #[.int .i64 (-most l), .string ⟨#[]⟩]) (by simp [results, Try.results22, go_sem, *]) rfl ⟨by simp [leastN, edgeS, HE.out, HK.out], (by repeat (first | exact Gr.refl _ | assumption | refine Gr.alloc ?_ _ | refine Gr.drew ?_ | refine Gr.drewN ?_ _ | refine Gr.setCell ?_ (by simp <;> omega) _ | refine Gr.trans ?_ (by assumption)))⟩

set_option maxHeartbeats 1000000 in
set_option maxRecDepth 100000 in
theorem refGreatest_any (k l s : Int) (he : vdErr k l s = 0) (w : World) :
    Calls Try.prog 23 #[.agg #[.int .i64 k, .int .i64 l, .int .i64 s]] w fun e w' => e = .returned (.agg #[.int .i64 (mostN k l s), .string (edgeS k l s 255)]) ∧ Gr w w' := by
  obtain ⟨ht, h4⟩ := vd_ok he
  obtain ⟨l0, l1, l2, _, _⟩ := typeErr_len ht h4
  have HE := Lib.hid he
  clear he ht h4
  by_cases k0 : k = 0
  · subst k0
    obtain ⟨L, rfl⟩ := Int.eq_ofNat_of_zero_le (show 0 ≤ l by omega)
    clear l2
    go_enter Try.func23, Try.ntmps23
    go_wp2_with (go_at_call 52; refine (refRepeat_any 255 (by omega) L (by omega) (by omega) _).mono ?_; rintro e w1 ⟨rfl, hb⟩; obtain ⟨hc, hf⟩ := cellsB hb (w.heap.size + 2) (by first | omega | ((try simp) <;> omega)); have hz : w.heap.size + 1 < w1.heap.size := (by have h := hb.size; (try simp at h); omega))
    refine bodyPost_ret (v := .agg #[.int .i64 0, .string (repS 255 L)]) (by simp [results, Try.results23, go_sem, *]) rfl ⟨by simp [mostN, edgeS, HE.out], (by repeat (first | exact Gr.refl _ | assumption | refine Gr.alloc ?_ _ | refine Gr.drew ?_ | refine Gr.drewN ?_ _ | refine Gr.setCell ?_ (by simp <;> omega) _ | refine Gr.trans ?_ (by assumption)))⟩
  · have kb : (k == 0) = false := by simp [k0]
    have l15 := l2 k0
    have HK := Lib.hid k0
    clear k0 l2
    have hm : 0 ≤ most l ∧ most l ≤ 1000000000000000000 := by have := p10_bd l (by omega); unfold most; omega
    go_enter Try.func23, Try.ntmps23
    go_wp2_with (go_at_call 51; refine (Most_any _ _ _ (by omega) _).mono ?_; rintro e w1 ⟨rfl, hb⟩; obtain ⟨hc, hf⟩ := cellsB hb (w.heap.size + 2) (by first | omega | ((try simp) <;> omega)); have hz : w.heap.size + 1 < w1.heap.size := (by have h := hb.size; (try simp at h); omega))
    refine bodyPost_ret (v := .agg #[.int .i64 (most l), .string ⟨#[]⟩]) (by simp [results, Try.results23, go_sem, *]) rfl ⟨by simp [mostN, edgeS, HE.out, HK.out], (by repeat (first | exact Gr.refl _ | assumption | refine Gr.alloc ?_ _ | refine Gr.drew ?_ | refine Gr.drewN ?_ _ | refine Gr.setCell ?_ (by simp <;> omega) _ | refine Gr.trans ?_ (by assumption)))⟩
end Go.Proofs.Ytfnlmkloagpnhaa
