/- The reference's digit lists: what trim leaves; power. -/
import Derived.Test.YtmejhccdiimmlaaRa
import Derived.Test.YtmejhccdiimmlaaF0
namespace Go.Proofs.Ytmejhccdiimmlaa
set_option linter.unusedSimpArgs false
set_option linter.unusedVariables false
open Go.RowKit

/-- What trim leaves has the same value, and is canonical. -/
theorem tN_vl (xs : List Int) : ∀ k, vl (xs.take (tN xs k)) = vl (xs.take k)
  | 0 => rfl
  | k + 1 => by
    by_cases h : xs.getD k 0 = 0
    · rw [tN_zero h, tN_vl xs k, trim_step h]
    · rw [tN_some h]
theorem tN_last (xs : List Int) : ∀ k, 0 < tN xs k → xs.getD (tN xs k - 1) 0 ≠ 0
  | 0, h => absurd h (Nat.lt_irrefl 0)
  | k + 1, h => by
    by_cases e : xs.getD k 0 = 0
    · rw [tN_zero e] at h ⊢; exact tN_last xs k h
    · rw [tN_some e]; simpa using e
theorem tN_cn {xs : List Int} (h : Dg xs) : Cn (xs.take (tN xs xs.length)) := by
  have hl : (xs.take (tN xs xs.length)).length = tN xs xs.length := by rw [List.length_take]; exact Nat.min_eq_left (tN_le xs _)
  refine Cn.of_last (h.take _) ?_
  rw [hl]
  intro h0
  have := tN_last xs xs.length h0
  rw [List.getD_eq_getElem?_getD] at this ⊢
  rw [List.getElem?_take_of_lt (by omega)]
  exact this
theorem At.take {w : World} {b : Nat} {xs : List Int} (h : At w b xs) (n : Nat) : At w b (xs.take n) := by
  intro i hi
  rw [List.length_take] at hi
  rw [h i (by omega), List.getD_eq_getElem?_getD, List.getD_eq_getElem?_getD, List.getElem?_take_of_lt (by omega)]
theorem At.gr {a w : World} {b : Nat} {xs : List Int} (h : At a b xs) (g : Gr a w) : At w b xs := fun i hi => g.keep (h i hi)

set_option maxRecDepth 100000 in
theorem power_any (n : Nat) (N : Int) (hN : N = n) (hb : n ≤ 1000) (w : World) :
    Calls Try.prog 110 #[.int .i64 N] w fun e w' => ∃ g cap, e = .returned (.slice (some ⟨g, 0, none⟩) (n + 1) cap) ∧ Own w' w.heap.size .i64 3 (.slice (some ⟨g, 0, none⟩) (n + 1) cap) (List.replicate n 0 ++ [1]) ∧ Gr w w' := by
  obtain ⟨i0, hi, hz0, hz1, hz2⟩ := info_parts info3
  have hmk := mk_ints N n hN (by omega)
  have hO := Lib.hid (Own.of_arr (B := w.heap.size) (n := n) (m := n) (Arr.made w .i64 3 n) (Nat.le_refl _) (by unfold maxLen; simp; omega) (by simp) (by simp))
  clear hN
  go_enter Try.func110, Try.ntmps110
  go_wp2_with (at_builtin; go_loud (refine wp_append_ints _ rfl (.tmp 4) (.tmp 5) 110 3 rfl .i64 i0 8 Try.underlying110 hi hz0 hz1 hz2 (by decide) w.heap.size _ (List.replicate n 0) rfl (hO.out.alloc _) (n + 1) (w.heap.size + 1) 1 1 [1] (by first | rfl | simp) rfl (by omega) (fun j hj => by first | exact one_cell _ _ _ _ j hj | simpa using one_cell (w.alloc (.cells (mkz .i64 n) 3)) .i64 3 1 j hj) (by first | rfl | simp) (by omega) (by simp <;> omega) ?_); intro g1 cap1 w2 hO2 hB2 hgr2 hg1 hg1l)
  refine bodyPost_ret (v := .slice (some ⟨g1, 0, none⟩) (n + 1) cap1) (by simp [results, Try.results110, go_sem, *]) rfl ⟨g1, cap1, rfl, hO2, Below.trans (((Gr.refl w).alloc _).alloc _) hB2⟩
end Go.Proofs.Ytmejhccdiimmlaa
