/- The reference's digit lists: minus. -/
import Derived.Test.YtmejhccdiimmlaaRg
namespace Go.Proofs.Ytmejhccdiimmlaa
set_option linter.unusedSimpArgs false
set_option linter.unusedVariables false
open Go.RowKit

set_option maxHeartbeats 2000000 in
set_option maxRecDepth 100000 in
theorem minus_sl {p q : Option Addr} {m n c d : Nat} {xs ys : List Int} {w : World} (hx : Sl w p m c xs) (hy : Sl w q n d ys) (dx : Dg xs) (dy : Dg ys) (hm : m ≤ 1000) (hn : n ≤ m) (hv : vl ys ≤ vl xs) :
    Calls Try.prog 127 #[.slice p m c, .slice q n d] w (SlR (fun zs => vl zs = vl xs - vl ys ∧ Cn zs) m w) := by
  obtain ⟨i0, hi, hz0, hz1, hz2⟩ := info_parts info3
  have HX := Lib.hid hx
  have HY := Lib.hid hy
  have DX := Lib.hid dx
  have DY := Lib.hid dy
  have HV := Lib.hid hv
  clear hx hy dx dy hv
  go_enter Try.func127, Try.ntmps127
  go_wp2
  go_loopw [5, 6, 7] (fun v cv j wr => ∃ (k : Nat) (cc : Int) (zs : List Int), k ≤ m ∧ j = .int .i64 k ∧ cv = .int .i64 cc ∧ 0 ≤ cc ∧ cc ≤ 1 ∧ Hid (Own wr w.heap.size .i64 3 v zs) ∧ Hid (MR xs ys k cc zs) ∧ Hid (Gr w wr)) (fun _ _ j _ => m + 2 - (intOf j).toNat)
  case atStart => exact ⟨0, 0, [], by omega, rfl, rfl, by omega, by omega, Own.nil _ _ _ _, MR.start _ _, Gr.refl _⟩
  case round =>
    obtain ⟨k, cc, zs, hk, rfl, rfl, hc0, hc1, hO, hP, hG⟩ := hrel
    have hx1 := Lib.hid HX.out.len
    have hy1 := Lib.hid HY.out.len
    have hzl := Lib.hid hP.out.1
    have hgs := hG.out.size
    by_cases h1 : k < m
    · obtain ⟨x, ex⟩ : ∃ x, xs.getD k 0 = x := ⟨_, rfl⟩
      obtain ⟨y, ey⟩ : ∃ y, ys.getD k 0 = y := ⟨_, rfl⟩
      have bx := DX.out.getD k
      have by_ := DY.out.getD k
      rw [ex] at bx
      rw [ey] at by_
      have hst : ∀ d c', c' = countI (decide (x - cc - y < 0)) → d = x - cc - y + 10 * c' → MR xs ys (k + 1) c' (zs ++ [d]) := fun d c' h2 h3 =>
        hP.out.step DX.out DY.out (by rw [ex, ey]; exact h2) (by rw [ex, ey]; exact h3)
      have HS := Lib.hid hst
      clear hst
      obtain ⟨b, rfl, ha⟩ := HX.out.some (by omega)
      have hcx := hG.out.keep (ha k (by rw [hx1.out]; exact h1))
      rw [ex] at hcx
      have EX := Lib.hid ex
      clear ex ha
      by_cases h2 : k < n
      · obtain ⟨b', rfl, ha'⟩ := HY.out.some (by omega)
        have hcy := hG.out.keep (ha' k (by rw [hy1.out]; exact h2))
        rw [ey] at hcy
        have EY := Lib.hid ey
        clear ey ha'
        have hcb := countI_bd (decide (x - cc - y < 0))
        go_wp2_with (first | (go_at_call 46; refine (Count_any _ _).mono ?_; rintro e w1 ⟨rfl, rfl, hc0, hc1⟩) | (at_builtin; go_loud (refine wp_append_ints _ rfl (.tmp 34) (.tmp 39) 110 3 rfl .i64 i0 8 Try.underlying110 hi hz0 hz1 hz2 (by decide) w.heap.size _ zs rfl (hO.out.alloc _) (k + 1) wr.heap.size 1 1 [x - cc - y + 10 * countI (decide (x - cc - y < 0))] (by first | rfl | simp) rfl (by omega) (fun j hj => one_cell _ _ _ _ j hj) (by rw [hzl.out]) (by omega) (by simp <;> omega) ?_); intro g1 cap1 w2 hO2 hB2 hgr2 hg1 hg1l))
        go_roundw
        case rel => exact ⟨k + 1, countI (decide (x - cc - y < 0)), zs ++ [x - cc - y + 10 * countI (decide (x - cc - y < 0))], by omega, by go_num, rfl, by omega, by omega, hO2, Lib.hid (HS.out _ _ rfl rfl), Below.trans (Gr.alloc hG.out _) hB2⟩
        case measure => simp [intOf]; omega
      · have e0 : y = 0 := by rw [← ey]; exact getD_big (by rw [hy1.out]; omega)
        subst e0
        have EY := Lib.hid ey
        clear ey
        have hcb := countI_bd (decide (x - cc < 0))
        go_wp2_with (first | (go_at_call 46; refine (Count_any _ _).mono ?_; rintro e w1 ⟨rfl, rfl, hc0, hc1⟩) | (at_builtin; go_loud (refine wp_append_ints _ rfl (.tmp 34) (.tmp 39) 110 3 rfl .i64 i0 8 Try.underlying110 hi hz0 hz1 hz2 (by decide) w.heap.size _ zs rfl (hO.out.alloc _) (k + 1) wr.heap.size 1 1 [x - cc + 10 * countI (decide (x - cc < 0))] (by first | rfl | simp) rfl (by omega) (fun j hj => one_cell _ _ _ _ j hj) (by rw [hzl.out]) (by omega) (by simp <;> omega) ?_); intro g1 cap1 w2 hO2 hB2 hgr2 hg1 hg1l))
        go_roundw
        case rel => exact ⟨k + 1, countI (decide (x - cc < 0)), zs ++ [x - cc + 10 * countI (decide (x - cc < 0))], by omega, by go_num, rfl, by omega, by omega, hO2, Lib.hid (HS.out _ _ (by rw [Int.sub_zero]) (by rw [Int.sub_zero])), Below.trans (Gr.alloc hG.out _) hB2⟩
        case measure => simp [intOf]; omega
    · obtain rfl : k = m := by omega
      obtain ⟨r, cap, hv5, hS, hF⟩ := hO.out.slf
      rw [hzl.out] at hv5 hS
      subst hv5
      have hT := trim_sl hS
      obtain ⟨t, ht⟩ : ∃ t, tN zs k = t := ⟨_, rfl⟩
      rw [ht] at hT
      obtain ⟨tl1, tl2, tl3⟩ := trim_left hS hP.out.2.1
      rw [ht] at tl1 tl2 tl3
      have hle := tN_le zs k
      rw [ht] at hle
      have h0 : cc = cc := rfl
      have hvl : vl zs = vl xs - vl ys := (show MR xs ys xs.length cc zs by rw [hx1.out]; exact hP.out).done (by rw [hx1.out, hy1.out]; exact hn) HV.out
      have HVL := Lib.hid hvl
      have T1 := Lib.hid tl1
      have T3 := Lib.hid tl3
      clear hvl tl1 tl3 ht hS
      go_wp2_with (go_at_call 128; refine (hT).mono ?_; rintro e w1 ⟨rfl, rfl⟩)
      refine bodyPost_ret (v := .slice r t cap) (by simp [results, Try.results127, go_sem, *]) rfl ⟨r, t, cap, _, rfl, T1.out, hF, ⟨by rw [T3.out, HVL.out], tl2⟩, hle, hG.out⟩
end Go.Proofs.Ytmejhccdiimmlaa
