/- The reference's digit lists: LongOf. -/
import Derived.Test.YtmejhccdiimmlaaRc
import Derived.Test.YtmejhccdiimmlaaEa
import Derived.Test.YtmejhccdiimmlaaC
namespace Go.Proofs.Ytmejhccdiimmlaa
set_option linter.unusedSimpArgs false
set_option linter.unusedVariables false
open Go.RowKit

theorem Own.cap {w : World} {B g n cap : Nat} {k e} {xs : List Int} (h : Own w B k e (.slice (some ⟨g, 0, none⟩) n cap) xs) : xs.length ≤ cap ∧ cap ≤ maxLen := by
  rcases h.2 with ⟨h', _⟩ | ⟨g', cap', cur, h', _, hg, h1, h2, _⟩
  · simp at h'
  · simp only [Value.slice.injEq, Option.some.injEq, Addr.mk.injEq, and_true, true_and] at h'
    obtain ⟨rfl, rfl, rfl⟩ := h'
    exact ⟨h1, h2⟩
theorem Own.at_ {w : World} {B g n cap : Nat} {e} {xs : List Int} (h : Own w B .i64 e (.slice (some ⟨g, 0, none⟩) n cap) xs) : At w g xs := fun i hi => h.cell i hi

set_option maxHeartbeats 2000000 in
set_option maxRecDepth 100000 in
theorem LongOf_any (n : Int) (z : Nat) (Z : Int) (hZ : Z = z) (hz : z ≤ 100) (h : -1000000000000000000 ≤ n) (h' : n ≤ 1000000000000000000) (w : World) :
    Calls Try.prog 84 #[.int .i64 n, .int .i64 Z] w fun e w' => ∃ g cap xs k, e = .returned (.agg #[.bool (decide (n < 0)), .slice (some ⟨g, 0, none⟩) k cap]) ∧ xs.length = k ∧ k ≤ cap ∧ cap ≤ maxLen ∧ w.heap.size ≤ g ∧ At w' g xs ∧ Cn xs ∧ vl xs = absI n * 10 ^ z ∧ Gr w w' := by
  obtain ⟨i0, hi, hz0, hz1, hz2⟩ := info_parts info3
  have ha : 0 ≤ absI n ∧ absI n ≤ 1000000000000000000 := by unfold absI; split <;> omega
  have hmk := mk_ints Z z hZ (by omega)
  clear hZ
  go_enter Try.func84, Try.ntmps84
  go_wp2_with (first | (go_at_call 100; refine (Amount_any _ h h' _).mono ?_; rintro e w1 ⟨rfl, rfl⟩))
  have HA := Lib.hid ha
  have hO0 := Lib.hid (Own.of_arr (B := w.heap.size + 1) (n := z) (m := z) (Arr.made (w.alloc (.cells #[.bool false, .slice none 0 0] 112)) .i64 3 z) (by simp) (by unfold maxLen; simp; omega) (by simp) (by simp))
  go_loopw [5, 6] (fun l x wr => ∃ q g cap : Nat, q ≤ 19 ∧ l = .slice (some ⟨g, 0, none⟩) (z + q) cap ∧ x = .int .i64 (absI n / 10 ^ q) ∧ Hid (w.heap.size + 1 ≤ g) ∧ Hid (Own wr (w.heap.size + 1) .i64 3 (.slice (some ⟨g, 0, none⟩) (z + q) cap) (ld z (absI n) q)) ∧ Hid (Below (w.heap.size + 1) (w.alloc (.cells #[.bool false, .slice none 0 0] 112)) wr)) (fun _ x _ => (intOf x).toNat)
  case atStart =>
    refine ⟨0, w.heap.size + 1, z, by omega, rfl, by simp, Nat.le_refl _, Lib.hid ?_, (Below.refl _ _).alloc (by simp) _⟩
    have := hO0.out
    simp only [World.size_alloc] at this
    simpa [ld, fl] using this
  case round =>
    obtain ⟨q, g, cap, hq, rfl, rfl, hg, hO, hB⟩ := hrel
    obtain ⟨r, hr⟩ : ∃ r, absI n / 10 ^ q = r := ⟨_, rfl⟩
    have hrb := div_bd (absI n) q HA.out.1
    have hst := Lib.hid (div_step (absI n) q)
    have hq19 : 0 < r → q < 19 := by
      intro h0
      rcases Nat.lt_or_ge q 19 with k | k
      · exact k
      · exfalso
        have : (10 : Int) ^ 19 ≤ 10 ^ q := ten_mono k
        have h1 : absI n / 10 ^ q = 0 := Int.ediv_eq_zero_of_lt HA.out.1 (by have := HA.out.2; omega)
        omega
    rw [hr] at hrb hst ⊢
    have ha2 := HA.out.2
    have hsz := hB.size
    simp at hsz
    have hr' := Lib.hid hr
    clear hr ha
    by_cases hlt : 0 < r
    · have hq2 := hq19 hlt
      clear hq19
      go_wp2_with (at_builtin; go_loud (refine wp_append_ints _ rfl (.tmp 15) (.tmp 18) 110 3 rfl .i64 i0 8 Try.underlying110 hi hz0 hz1 hz2 (by decide) (w.heap.size + 1) _ (ld z (absI n) q) rfl (hO.out.alloc _) (z + q + 1) wr.heap.size 1 1 [r % 10] (by first | rfl | simp) rfl (by omega) (fun j hj => one_cell _ _ _ _ j hj) (by rw [ld_length]) (by omega) (by simp <;> omega) ?_); intro g1 cap1 w2 hO2 hB2 hgr2 hg1 hg1l)
      go_roundw
      case rel =>
        refine ⟨q + 1, g1, cap1, by omega, rfl, (by have e := hst.out; go_num), Lib.hid hg1, Lib.hid ?_, Lib.hid (Below.trans (Below.alloc hB.out (by omega) _) hB2)⟩
        rw [← ld_succ, show dig (absI n) q = r % 10 by unfold dig; rw [hr'.out]]
        exact hO2
      case measure => simp [intOf]; omega
    · have hr0 : r = 0 := by omega
      subst hr0
      have c0 : wr.cell? ⟨w.heap.size, 0, none⟩ = some (.bool false) := keepc hB.out (by simp) (by first | (simp; done) | (simp [go_sem]; done))
      have c1 : wr.cell? ⟨w.heap.size, 1, none⟩ = some (.slice none 0 0) := keepc hB.out (by simp) (by first | (simp; done) | (simp [go_sem]; done))
      have f0 : wr.frozen? ⟨w.heap.size, 0, none⟩ = false := (Below.frozen hB.out (p := ⟨w.heap.size, 0, none⟩) (by simp)).trans (by simp [go_sem])
      have f1 : wr.frozen? ⟨w.heap.size, 1, none⟩ = false := (Below.frozen hB.out (p := ⟨w.heap.size, 1, none⟩) (by simp)).trans (by simp [go_sem])
      have hT := trim_any g (z + q) cap (ld z (absI n) q) (ld_length _ _ _) (by have := hO.out.cap.1; rw [ld_length] at this; exact this) hO.out.cap.2 wr hO.out.at_
      obtain ⟨t, ht⟩ : ∃ t, tN (ld z (absI n) q) (z + q) = t := ⟨_, rfl⟩
      rw [ht] at hT
      have HT := Lib.hid ht
      clear ht hst
      go_wp2_with (go_at_call 128; refine (hT).mono ?_; rintro e w1 ⟨rfl, rfl⟩)
      have hat : At ((wr.setCell ⟨w.heap.size, 0, none⟩ (.bool (decide (n < 0)))).setCell ⟨w.heap.size, 1, none⟩ (.slice (some ⟨g, 0, none⟩) t cap)) g ((ld z (absI n) q).take t) := by
        intro i hi
        have h1 := (hO.out.at_.take t) i hi
        have hne : g ≠ w.heap.size := by have := hg.out; omega
        have hne' : w.heap.size ≠ g := fun k => hne k.symm
        simp [go_sem, hne, hne', h1]
      have hcn := tN_cn (ld_dg z (absI n) q)
      have hvl := tN_vl (ld z (absI n) q) (z + q)
      have hle := tN_le (ld z (absI n) q) (z + q)
      rw [ld_length, HT.out] at hcn
      have hv2 : vl ((ld z (absI n) q).take (z + q)) = absI n * 10 ^ z := by rw [List.take_of_length_le (by rw [ld_length]; exact Nat.le_refl _), ld_vl HA.out.1 hr'.out]
      rw [HT.out, hv2] at hvl
      rw [HT.out] at hle
      have hG : Gr w wr := Below.mono (Below.trans (Below.alloc (Below.refl w.heap.size w) (Nat.le_refl _) _) (Below.mono hB.out (Nat.le_succ _))) (Nat.le_refl _)
      refine bodyPost_ret (v := .agg #[.bool (decide (n < 0)), .slice (some ⟨g, 0, none⟩) t cap]) (by simp [results, Try.results84, go_sem, *]) rfl ⟨g, cap, (ld z (absI n) q).take t, t, rfl, by rw [List.length_take, ld_length]; exact Nat.min_eq_left hle, (by have := hO.out.cap.1; rw [ld_length] at this; omega), hO.out.cap.2, by have := hg.out; omega, hat, hcn, hvl, Gr.setCell (Gr.setCell hG (Nat.le_refl _) _) (Nat.le_refl _) _⟩
end Go.Proofs.Ytmejhccdiimmlaa
