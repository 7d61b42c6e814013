/- The reference's digit lists: plus. -/
import Derived.Test.YtmejhccdiimmlaaRf
namespace Go.Proofs.Ytmejhccdiimmlaa
set_option linter.unusedSimpArgs false
set_option linter.unusedVariables false
open Go.RowKit

def PlusR (xs ys : List Int) (w : World) (e : Ending) (w' : World) : Prop :=
  ∃ v zs k cc, e = .returned v ∧ Own w' w.heap.size .i64 3 v zs ∧ PR xs ys k cc zs ∧ ¬ (k < xs.length ∨ k < ys.length ∨ 0 < cc) ∧ Gr w w'
/-- A slice is returned that holds digits of which φ holds, at most n of them, in memory that is new. -/
def SlR (φ : List Int → Prop) (n : Nat) (w : World) (e : Ending) (w' : World) : Prop :=
  ∃ r k cap zs, e = .returned (.slice r k cap) ∧ Sl w' r k cap zs ∧ Fr w.heap.size r ∧ φ zs ∧ k ≤ n ∧ Gr w w'
set_option maxHeartbeats 2000000 in
set_option maxRecDepth 100000 in
theorem plus_own (p q : Option Addr) (m n c d : Nat) (xs ys : List Int) (w : World) (hx : Sl w p m c xs) (hy : Sl w q n d ys) (dx : Dg xs) (dy : Dg ys) (hm : m ≤ 1000) (hn : n ≤ 1000) :
    Calls Try.prog 125 #[.slice p m c, .slice q n d] w fun e w' => PlusR xs ys w e w' := by
  obtain ⟨i0, hi, hz0, hz1, hz2⟩ := info_parts info3
  have HX := Lib.hid hx
  have HY := Lib.hid hy
  have DX := Lib.hid dx
  have DY := Lib.hid dy
  clear hx hy dx dy
  go_enter Try.func125, Try.ntmps125
  go_wp2
  go_loopw [5, 6, 7] (fun v cv j wr => ∃ (k : Nat) (cc : Int) (zs : List Int), k ≤ max m n + 1 ∧ j = .int .i64 k ∧ cv = .int .i64 cc ∧ 0 ≤ cc ∧ cc ≤ 1 ∧ Hid (Own wr w.heap.size .i64 3 v zs) ∧ Hid (PR xs ys k cc zs) ∧ Hid (Gr w wr)) (fun _ _ j _ => max m n + 2 - (intOf j).toNat)
  case atStart => exact ⟨0, 0, [], by omega, rfl, rfl, by omega, by omega, Own.nil _ _ _ _, PR.start _ _, Gr.refl _⟩
  case round =>
    obtain ⟨k, cc, zs, hk, rfl, rfl, hc0, hc1, hO, hP, hG⟩ := hrel
    have hx1 := Lib.hid HX.out.len
    have hy1 := Lib.hid HY.out.len
    have hzl := Lib.hid hP.out.1
    have hgs := hG.out.size
    obtain ⟨x, ex⟩ : ∃ x, xs.getD k 0 = x := ⟨_, rfl⟩
    obtain ⟨y, ey⟩ : ∃ y, ys.getD k 0 = y := ⟨_, rfl⟩
    have bx := DX.out.getD k
    have by_ := DY.out.getD k
    rw [ex] at bx
    rw [ey] at by_
    have hk2 : k < m ∨ k < n ∨ 0 < cc → k ≤ max m n := by
      intro h
      rcases hP.out.2.2.2.2.2 with g | ⟨g, g2, _⟩
      · rw [hx1.out, hy1.out] at g; exact g
      · rw [hx1.out, hy1.out] at g; omega
    have hst : ∀ d c', (k < m ∨ k < n ∨ 0 < cc) → d = (cc + x + y) % 10 → c' = (cc + x + y) / 10 → PR xs ys (k + 1) c' (zs ++ [d]) := fun d c' h1 h2 h3 =>
      hP.out.step DX.out DY.out (by rw [hx1.out, hy1.out]; exact h1) (by rw [ex, ey]; exact h2) (by rw [ex, ey]; exact h3)
    have HS := Lib.hid hst
    have HK := Lib.hid hk2
    clear hst hk2
    by_cases h1 : k < m
    · obtain ⟨b, rfl, ha⟩ := HX.out.some (by omega)
      have hcx := hG.out.keep (ha k (by rw [hx1.out]; exact h1))
      rw [ex] at hcx
      have EX := Lib.hid ex
      clear ex ha
      by_cases h2 : k < n
      · obtain ⟨b', rfl, ha'⟩ := HY.out.some (by omega)
        have hcy := hG.out.keep (ha' k (by rw [hy1.out]; exact h2))
        rw [ey] at hcy
        have EY := Lib.hid ey
        clear ey ha'
        go_wp2_with (at_builtin; go_loud (refine wp_append_ints _ rfl (.tmp 46) (.tmp 49) 110 3 rfl .i64 i0 8 Try.underlying110 hi hz0 hz1 hz2 (by decide) w.heap.size _ zs rfl (hO.out.alloc _) (k + 1) wr.heap.size 1 1 [(cc + x + y) % 10] (by first | rfl | simp) rfl (by omega) (fun j hj => one_cell _ _ _ _ j hj) (by rw [hzl.out]) (by omega) (by simp <;> omega) ?_); intro g1 cap1 w2 hO2 hB2 hgr2 hg1 hg1l)
        go_roundw
        case rel => exact ⟨k + 1, (cc + x + y) / 10, zs ++ [(cc + x + y) % 10], by have := HK.out (.inl h1); omega, by go_num, by go_num, by omega, by omega, hO2, Lib.hid (HS.out _ _ (.inl h1) (by omega) rfl), Below.trans (Gr.alloc hG.out _) hB2⟩
        case measure => simp [intOf]; omega
      · have e0 : y = 0 := by rw [← ey]; exact getD_big (by rw [hy1.out]; omega)
        subst e0
        have EY := Lib.hid ey
        clear ey
        go_wp2_with (at_builtin; go_loud (refine wp_append_ints _ rfl (.tmp 46) (.tmp 49) 110 3 rfl .i64 i0 8 Try.underlying110 hi hz0 hz1 hz2 (by decide) w.heap.size _ zs rfl (hO.out.alloc _) (k + 1) wr.heap.size 1 1 [(cc + x) % 10] (by first | rfl | simp) rfl (by omega) (fun j hj => one_cell _ _ _ _ j hj) (by rw [hzl.out]) (by omega) (by simp <;> omega) ?_); intro g1 cap1 w2 hO2 hB2 hgr2 hg1 hg1l)
        go_roundw
        case rel => exact ⟨k + 1, (cc + x + 0) / 10, zs ++ [(cc + x) % 10], by have := HK.out (.inl h1); omega, by go_num, by go_num, by omega, by omega, hO2, Lib.hid (HS.out _ _ (.inl h1) (by omega) rfl), Below.trans (Gr.alloc hG.out _) hB2⟩
        case measure => simp [intOf]; omega
    · have e0 : x = 0 := by rw [← ex]; exact getD_big (by rw [hx1.out]; omega)
      subst e0
      have EX := Lib.hid ex
      clear ex
      by_cases h2 : k < n
      · obtain ⟨b', rfl, ha'⟩ := HY.out.some (by omega)
        have hcy := hG.out.keep (ha' k (by rw [hy1.out]; exact h2))
        rw [ey] at hcy
        have EY := Lib.hid ey
        clear ey ha'
        go_wp2_with (at_builtin; go_loud (refine wp_append_ints _ rfl (.tmp 46) (.tmp 49) 110 3 rfl .i64 i0 8 Try.underlying110 hi hz0 hz1 hz2 (by decide) w.heap.size _ zs rfl (hO.out.alloc _) (k + 1) wr.heap.size 1 1 [(cc + y) % 10] (by first | rfl | simp) rfl (by omega) (fun j hj => one_cell _ _ _ _ j hj) (by rw [hzl.out]) (by omega) (by simp <;> omega) ?_); intro g1 cap1 w2 hO2 hB2 hgr2 hg1 hg1l)
        go_roundw
        case rel => exact ⟨k + 1, (cc + 0 + y) / 10, zs ++ [(cc + y) % 10], by have := HK.out (.inr (.inl h2)); omega, by go_num, by go_num, by omega, by omega, hO2, Lib.hid (HS.out _ _ (.inr (.inl h2)) (by omega) rfl), Below.trans (Gr.alloc hG.out _) hB2⟩
        case measure => simp [intOf]; omega
      · have e0 : y = 0 := by rw [← ey]; exact getD_big (by rw [hy1.out]; omega)
        subst e0
        have EY := Lib.hid ey
        clear ey
        by_cases h3 : 0 < cc
        · have e1 : cc = 1 := by omega
          subst e1
          go_wp2_with (at_builtin; go_loud (refine wp_append_ints _ rfl (.tmp 46) (.tmp 49) 110 3 rfl .i64 i0 8 Try.underlying110 hi hz0 hz1 hz2 (by decide) w.heap.size _ zs rfl (hO.out.alloc _) (k + 1) wr.heap.size 1 1 [(1) % 10] (by first | rfl | simp) rfl (by omega) (fun j hj => one_cell _ _ _ _ j hj) (by rw [hzl.out]) (by omega) (by simp <;> omega) ?_); intro g1 cap1 w2 hO2 hB2 hgr2 hg1 hg1l)
          go_roundw
          case rel => exact ⟨k + 1, (1 + 0 + 0) / 10, zs ++ [(1) % 10], by have := HK.out (.inr (.inr h3)); omega, by go_num, by go_num, by omega, by omega, hO2, Lib.hid (HS.out _ _ (.inr (.inr h3)) (by omega) rfl), Below.trans (Gr.alloc hG.out _) hB2⟩
          case measure => simp [intOf]; omega
        · have e1 : cc = 0 := by omega
          subst e1
          go_wp2
          refine bodyPost_ret (v := u5) (by simp [results, Try.results125, go_sem, *]) rfl ⟨u5, zs, k, 0, rfl, hO.out, hP.out, by rw [hx1.out, hy1.out]; omega, hG.out⟩

theorem plus_sl {p q : Option Addr} {m n c d : Nat} {xs ys : List Int} {w : World} (hx : Sl w p m c xs) (hy : Sl w q n d ys) (dx : Dg xs) (dy : Dg ys) (hm : m ≤ 1000) (hn : n ≤ 1000) :
    Calls Try.prog 125 #[.slice p m c, .slice q n d] w (SlR (fun zs => vl zs = vl xs + vl ys ∧ Dg zs ∧ (Cn xs → Cn ys → Cn zs)) (max m n + 1) w) := by
  refine (plus_own p q m n c d xs ys w hx hy dx dy hm hn).mono fun e w' h => ?_
  obtain ⟨v, zs, k, cc, rfl, hO, hP, hk, hG⟩ := h
  obtain ⟨r, cap, rfl, hS, hF⟩ := hO.slf
  obtain ⟨h1, h2, h3, h4⟩ := hP.done hk
  exact ⟨r, _, cap, zs, rfl, hS, hF, ⟨h1, h2, h4⟩, by rw [hx.len, hy.len] at h3; exact h3, hG⟩
end Go.Proofs.Ytmejhccdiimmlaa
