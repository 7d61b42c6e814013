/- Texts of the walks, merged. -/
import Derived.Test.YtnaflaokhldfnaaQ19
import Derived.Test.YtnaflaokhldfnaaQ18
namespace Go.Proofs.Ytnaflaokhldfnaa
set_option linter.unusedSimpArgs false
set_option linter.unusedVariables false
open Go.RowKit

theorem Sum_vals (A B : Bool) {p q : Option Addr} {m n c d : Nat} {xs ys : List Int} {x y v : Int} {cc : Bool} {w : World} (hx : Sl w p m c xs) (hy : Sl w q n d ys) (cx : Cn xs) (cy : Cn ys) (vx : vl xs = x) (vy : vl ys = y) (hm : m ≤ 500) (hn : n ≤ 500)
    (hcc : smB A x B y = cc) (hv : absI (sgv A x + sgv B y) = v) :
    Calls Try.prog 66 #[.agg #[.bool A, .slice p m c], .agg #[.bool B, .slice q n d]] w fun e w' => SumR cc v (max m n + 1) w e w' := by
  subst vx vy hcc hv
  exact Sum_any A B hx hy cx cy hm hn

end Go.Proofs.Ytnaflaokhldfnaa
namespace Go.Proofs.Ytnaflaokhldfnaa
set_option linter.unusedSimpArgs false
set_option linter.unusedVariables false
open Go.RowKit

/-- The state of a row behind k rounds: carry c, digits ds; the list xs times the digit y. -/
def TR (xs : List Int) (y : Int) (k : Nat) (c : Int) (ds : List Int) : Prop :=
  ds.length = k ∧ Dg ds ∧ vl ds + 10 ^ k * c = vt xs k * y ∧ 0 ≤ c ∧ c ≤ 8 ∧ (k ≤ xs.length ∨ (k = xs.length + 1 ∧ c = 0))
theorem TR.start (xs : List Int) (y : Int) : TR xs y 0 0 [] := ⟨rfl, Dg.nil, by simp [vl, vt], by omega, by omega, .inl (Nat.zero_le _)⟩
theorem mul_bd {x y : Int} (hx : 0 ≤ x ∧ x ≤ 9) (hy : 0 ≤ y ∧ y ≤ 9) : 0 ≤ x * y ∧ x * y ≤ 81 :=
  ⟨Int.mul_nonneg hx.1 hy.1, Int.mul_le_mul hx.2 hy.2 hy.1 (by omega)⟩
theorem TR.step {xs ds : List Int} {y : Int} {k : Nat} {c d c' p : Int} (h : TR xs y k c ds) (hx : Dg xs) (hy : 0 ≤ y ∧ y ≤ 9) (hc : k < xs.length ∨ 0 < c)
    (hp : xs.getD k 0 * y = p) (hd : d = (c + p) % 10) (hc' : c' = (c + p) / 10) : TR xs y (k + 1) c' (ds ++ [d]) := by
  obtain ⟨h1, h2, h3, h4, h5, h6⟩ := h
  have bx := hx.getD k
  have bp := mul_bd bx hy
  rw [hp] at bp
  refine ⟨by simp [h1], h2.snoc (by omega) (by omega), ?_, by omega, by omega, ?_⟩
  · rw [vl_snoc, h1, vt, Int.add_mul, Int.mul_assoc, hp, Int.pow_succ]
    have e : (10 : Int) ^ k * (c + p) = 10 ^ k * d + 10 ^ k * 10 * c' := by
      rw [Int.mul_assoc, ← Int.mul_add]; congr 1; omega
    rw [Int.mul_add] at e
    omega
  · rcases Nat.lt_or_ge k xs.length with g | g
    · exact .inl g
    · have e0 : xs.getD k 0 = 0 := getD_big g
      rw [e0, Int.zero_mul] at hp
      subst hp
      rcases h6 with h6 | ⟨h6, h7⟩
      · exact .inr ⟨by omega, by omega⟩
      · omega
theorem TR.done {xs ds : List Int} {y : Int} {k : Nat} {c : Int} (h : TR xs y k c ds) (hc : ¬ (k < xs.length ∨ 0 < c)) : vl ds = vl xs * y ∧ Dg ds ∧ ds.length ≤ xs.length + 1 := by
  obtain ⟨h1, h2, h3, h4, h5, h6⟩ := h
  have e0 : c = 0 := by omega
  subst e0
  rw [vt_all (by omega)] at h3
  exact ⟨by simpa using h3, h2, by omega⟩
/-- A row behind its zeros. -/
theorem row_vl (i : Nat) (ds : List Int) : vl (List.replicate i 0 ++ ds) = 10 ^ i * vl ds := by
  rw [vl_append, vl_zeros]; simp

/-- What holds in the outer loop. -/
def PO (w W0 : World) (xs ys : List Int) (m i : Nat) (r : Option Addr) (l cp : Nat) (wr : World) : Prop :=
  ∃ zs, Sl wr r l cp zs ∧ Dg zs ∧ l ≤ m + i + 1 ∧ vl zs = vl xs * vt ys i ∧ Fr (w.heap.size + 3) r ∧ Below (w.heap.size + 3) W0 wr
/-- What holds in the inner loop. -/
def PI (xs : List Int) (y : Int) (i k : Nat) (c : Int) (g cap Bo : Nat) (wr : World) : Prop :=
  ∃ ds, TR xs y k c ds ∧ Own wr Bo .i64 3 (.slice (some ⟨g, 0, none⟩) (i + k) cap) (List.replicate i 0 ++ ds)

set_option maxHeartbeats 2000000 in
set_option maxRecDepth 100000 in
theorem Product_any (A B : Bool) {p q : Option Addr} {m n c d : Nat} {xs ys : List Int} {w : World} (hx : Sl w p m c xs) (hy : Sl w q n d ys) (cx : Cn xs) (cy : Cn ys) (hm : m ≤ 200) (hn : n ≤ 200) :
    Calls Try.prog 68 #[.agg #[.bool A, .slice p m c], .agg #[.bool B, .slice q n d]] w (SumR ((A != B) && decide (0 < vl xs * vl ys)) (vl xs * vl ys) (m + n + 1) w) := by
  obtain ⟨i0, hi, hz0, hz1, hz2⟩ := info_parts info3
  have HX := Lib.hid hx
  have HY := Lib.hid hy
  have CX := Lib.hid cx
  have CY := Lib.hid cy
  clear hx hy cx cy
  go_enter Try.func68, Try.ntmps68
  go_wp2
  obtain ⟨W0, hW0⟩ : ∃ W0, ((w.alloc (.cells #[.bool A, .slice p m c] 78)).alloc (.cells #[.bool B, .slice q n d] 78)).alloc (.cells #[.bool false, .slice none 0 0] 78) = W0 := ⟨_, rfl⟩
  have b0 : W0.cell? ⟨w.heap.size, 0, none⟩ = some (.bool A) := by rw [← hW0]; simp [go_sem]
  have b1 : W0.cell? ⟨w.heap.size, 1, none⟩ = some (.slice p m c) := by rw [← hW0]; simp [go_sem]
  have b2 : W0.cell? ⟨w.heap.size + 1, 0, none⟩ = some (.bool B) := by rw [← hW0]; simp [go_sem]
  have b3 : W0.cell? ⟨w.heap.size + 1, 1, none⟩ = some (.slice q n d) := by rw [← hW0]; simp [go_sem]
  have b4 : W0.cell? ⟨w.heap.size + 2, 0, none⟩ = some (.bool false) := by rw [← hW0]; simp [go_sem]
  have b5 : W0.cell? ⟨w.heap.size + 2, 1, none⟩ = some (.slice none 0 0) := by rw [← hW0]; simp [go_sem]
  have b4f : W0.frozen? ⟨w.heap.size + 2, 0, none⟩ = false := by rw [← hW0]; simp [go_sem]
  have b5f : W0.frozen? ⟨w.heap.size + 2, 1, none⟩ = false := by rw [← hW0]; simp [go_sem]
  have hWs : W0.heap.size = w.heap.size + 3 := by rw [← hW0]; simp
  have HW := Lib.hid (show Gr w W0 by rw [← hW0]; exact (by repeat (first | (with_reducible exact Gr.refl _) | (with_reducible assumption) | (with_reducible refine Gr.alloc ?_ _) | (with_reducible refine Gr.drew ?_) | (with_reducible refine Gr.drewN ?_ _) | (with_reducible refine Gr.setCell ?_ (by simp <;> omega) _) | (with_reducible refine Gr.trans ?_ (by with_reducible assumption)) | exact Gr.refl _ | assumption | refine Gr.alloc ?_ _ | refine Gr.drew ?_ | refine Gr.drewN ?_ _ | refine Gr.setCell ?_ (by simp <;> omega) _ | refine Gr.trans ?_ (by assumption))))
  rw [hW0]
  have HB := Lib.hid (And.intro b0 (And.intro b1 (And.intro b2 (And.intro b3 (And.intro b4 (And.intro b5 (And.intro b4f b5f)))))))
  clear hW0 b0 b1 b2 b3 b4 b5 b4f b5f
  go_loopw [5, 6] (fun v j wr => ∃ (i : Nat) (r : Option Addr) (l cp : Nat), i ≤ n ∧ j = .int .i64 i ∧ v = .slice r l cp ∧ Hid (PO w W0 xs ys m i r l cp wr)) (fun _ j _ => n + 1 - (intOf j).toNat)
  case atStart => exact ⟨0, none, 0, 0, Nat.zero_le _, rfl, rfl, Lib.hid ⟨[], ⟨rfl, Nat.le_refl _, by unfold maxLen; omega, fun h => absurd h (by omega)⟩, Dg.nil, by omega, by simp [vl, vt], Fr.none _, Below.refl _ _⟩⟩
  case round =>
    obtain ⟨i, r, l, cp, hin, rfl, rfl, hP⟩ := hrel
    obtain ⟨zs, sO, dO, lO, vO, fO, bO⟩ := hP.out
    have hws : w.heap.size + 3 ≤ wr.heap.size := by rw [← hWs]; exact bO.size
    have c3 : wr.cell? ⟨w.heap.size + 1, 1, none⟩ = some (.slice q n d) := keepc bO (by simp <;> omega) HB.out.2.2.2.1
    have HO := Lib.hid (And.intro sO (And.intro dO (And.intro lO (And.intro vO (And.intro fO bO)))))
    by_cases hlt : i < n
    · have hmk := mk_ints (i : Int) i rfl (by omega)
      obtain ⟨y, ey⟩ : ∃ y, ys.getD i 0 = y := ⟨_, rfl⟩
      have by_ := CY.out.1.getD i
      rw [ey] at by_
      have EY := Lib.hid ey
      obtain ⟨b', rfl, ha'⟩ := HY.out.some (by omega)
      have hcy0 := Lib.hid (ha' i (by rw [HY.out.len]; exact hlt))
      rw [ey] at hcy0
      obtain ⟨Bo, hBo⟩ : ∃ Bo, wr.heap.size = Bo := ⟨_, rfl⟩
      have hBo3 : w.heap.size + 3 ≤ Bo := by omega
      have HBo := Lib.hid hBo
      have hO0 := Lib.hid (Own.of_arr (B := Bo) (n := i) (m := i) (Arr.made wr .i64 3 i) (by omega) (by unfold maxLen; simp; omega) (by simp) (by simp))
      clear hBo sO dO lO vO fO bO ey ha' hP
      go_wp2
      go_loopw [7, 8, 9] (fun v cv j wz => ∃ (k : Nat) (cc : Int) (g cap : Nat), k ≤ m + 1 ∧ j = .int .i64 k ∧ cv = .int .i64 cc ∧ 0 ≤ cc ∧ cc ≤ 8 ∧ v = .slice (some ⟨g, 0, none⟩) (i + k) cap ∧ Hid (PI xs y i k cc g cap Bo wz) ∧ Hid (Below Bo wr wz)) (fun _ _ j _ => m + 2 - (intOf j).toNat)
      case atStart => exact ⟨0, 0, wr.heap.size, i, by omega, rfl, rfl, by omega, by omega, rfl, Lib.hid ⟨[], TR.start _ _, by rw [List.append_nil]; exact hO0.out⟩, (Below.refl _ _).alloc (by rw [HBo.out]; exact Nat.le_refl _) _⟩
      case round =>
        obtain ⟨k, cc, g, cap, hk, rfl, rfl, hc0, hc8, rfl, hI, hGo⟩ := hrel
        obtain ⟨ds, tR, oR⟩ := hI.out
        have bR := Below.trans HO.out.2.2.2.2.2 (Below.mono hGo.out hBo3)
        have hBz : Bo ≤ wr.heap.size := by have := hGo.out.size; rw [HBo.out] at this; exact this
        have hx1 := Lib.hid HX.out.len
        have hwz : w.heap.size + 3 ≤ wr.heap.size := by rw [← hWs]; exact bR.size
        have d1 : wr.cell? ⟨w.heap.size, 1, none⟩ = some (.slice p m c) := keepc bR (by simp <;> omega) HB.out.2.1
        have d3 : wr.cell? ⟨w.heap.size + 1, 1, none⟩ = some (.slice (some ⟨b', 0, none⟩) n d) := keepc bR (by simp <;> omega) HB.out.2.2.2.1
        have Gw : Gr w wr := Below.trans HW.out (Below.mono bR (by omega))
        have e3 : wr.cell? ⟨b', i, none⟩ = some (.int .i64 y) := Gw.keep hcy0.out
        have hT := Lib.hid tR
        have hOw := Lib.hid oR
        have hBw := Lib.hid bR
        have hGw := Lib.hid Gw
        have hrl := Lib.hid (show (List.replicate i 0 ++ ds).length = i + k by simp [tR.1])
        have hk2 : k < m ∨ 0 < cc → k ≤ m := by
          intro h
          rcases tR.2.2.2.2.2 with g2 | ⟨g2, g3⟩
          · rw [hx1.out] at g2; exact g2
          · rw [hx1.out] at g2; omega
        have HK := Lib.hid hk2
        clear tR oR bR Gw hI hk2 c3
        by_cases h1 : k < m
        · have hkm := HK.out (.inl h1)
          obtain ⟨b, rfl, ha⟩ := HX.out.some (by omega)
          obtain ⟨x, ex⟩ : ∃ x, xs.getD k 0 = x := ⟨_, rfl⟩
          have hcx := hGw.out.keep (ha k (by rw [hx1.out]; exact h1))
          rw [ex] at hcx
          have bx := CX.out.1.getD k
          rw [ex] at bx
          have bp := mul_bd bx by_
          obtain ⟨pr, epr⟩ : ∃ pr, x * y = pr := ⟨_, rfl⟩
          rw [epr] at bp
          have EX := Lib.hid ex
          have EP := Lib.hid epr
          have hwp : IntKind.i64.wrap pr = pr := IntWalk.i64_in _ (by omega)
          have hk3 : (k : Int) < m := by omega
          have hi3 : (i : Int) < n := by omega
          clear ex ha
          go_wp2
          go_quiet (fail)
          go_wp2_with (at_builtin; go_loud (refine wp_append_ints _ rfl (.tmp 50) (.tmp 53) 76 3 rfl .i64 i0 8 Try.underlying76 hi hz0 hz1 hz2 (by decide) Bo _ (List.replicate i 0 ++ ds) rfl ((hOw.out.gr ((Gr.refl wr).drewN nq)).alloc _) (i + (k + 1)) wr.heap.size 1 1 [(cc + pr) % 10] (by first | rfl | simp) rfl (by omega) (fun j hj => by first | exact one_cell _ _ _ _ j hj | simpa using one_cell wr .i64 3 ((cc + pr) % 10) j hj) (by rw [hrl.out]; rfl) (by omega) (by simp <;> omega) ?_); intro g1 cap1 w2 hO2 hB2 hgr2 hg1 hg1l)
          go_roundw
          case rel =>
            exact ⟨k + 1, (cc + pr) / 10, g1, cap1, by omega, by go_num, by go_num, by omega, by omega, rfl, Lib.hid ⟨ds ++ [(cc + pr) % 10], hT.out.step CX.out.1 by_ (by rw [hx1.out]; exact .inl h1) (show xs.getD k 0 * y = pr by rw [EX.out, EP.out]) (by omega) (by omega), (by have h9 := hO2; rw [List.append_assoc] at h9; exact h9)⟩, Below.trans hGo.out (Below.trans (Below.mono (((Gr.refl wr).drewN nq).alloc _) hBz) hB2)⟩
          case measure => simp [intOf]; omega
        · have e0 : xs.getD k 0 = 0 := getD_big (by rw [hx1.out]; omega)
          have E0 := Lib.hid (show xs.getD k 0 * y = 0 by rw [e0, Int.zero_mul])
          clear e0
          by_cases h2 : 0 < cc
          · have hkm := HK.out (.inr h2)
            go_wp2_with (at_builtin; go_loud (refine wp_append_ints _ rfl (.tmp 50) (.tmp 53) 76 3 rfl .i64 i0 8 Try.underlying76 hi hz0 hz1 hz2 (by decide) Bo _ (List.replicate i 0 ++ ds) rfl (hOw.out.alloc _) (i + (k + 1)) wr.heap.size 1 1 [cc % 10] (by first | rfl | simp) rfl (by omega) (fun j hj => by first | exact one_cell _ _ _ _ j hj | simpa using one_cell wr .i64 3 (cc % 10) j hj) (by rw [hrl.out]; rfl) (by omega) (by simp <;> omega) ?_); intro g1 cap1 w2 hO2 hB2 hgr2 hg1 hg1l)
            go_roundw
            case rel =>
              exact ⟨k + 1, cc / 10, g1, cap1, by omega, by go_num, by go_num, by omega, by omega, rfl, Lib.hid ⟨ds ++ [cc % 10], hT.out.step CX.out.1 by_ (by rw [hx1.out]; exact .inr h2) E0.out (by omega) (by omega), (by have h9 := hO2; rw [List.append_assoc] at h9; exact h9)⟩, Below.trans hGo.out (Below.trans (Below.mono ((Gr.refl wr).alloc _) hBz) hB2)⟩
            case measure => simp [intOf]; omega
          · have hc00 : cc = 0 := by omega
            subst hc00
            obtain ⟨tv, td, tl⟩ := hT.out.done (by rw [hx1.out]; omega)
            have hrow := hOw.out.sl' hrl.out
            have hdr : Dg (List.replicate i 0 ++ ds) := (Dg.zeros i).append td
            have hvr : vl (List.replicate i 0 ++ ds) = 10 ^ i * (vl xs * y) := by rw [row_vl, tv]
            obtain ⟨rw_, erw⟩ : ∃ rw_, List.replicate i 0 ++ ds = rw_ := ⟨_, rfl⟩
            rw [erw] at hrow hdr hvr
            have HRW := Lib.hid (And.intro hrow (And.intro hdr hvr))
            have HSO := Lib.hid (HO.out.1.gr (show Gr _ wr by unfold Gr; rw [HBo.out]; exact hGo.out))
            have hlb := HO.out.2.2.1
            clear tv td tl hrow hdr hvr erw
            go_wp2_with (go_at_call 101; refine (plus_sl HSO.out HRW.out.1 HO.out.2.1 HRW.out.2.1 (by omega) (by omega)).mono ?_; rintro e w5 ⟨r5, k5, u5, z5, rfl, s5, f5, ⟨v5, d5, c5⟩, l5, hb⟩; have H5 := Lib.hid (And.intro s5 (And.intro f5 (And.intro v5 (And.intro d5 hb)))); clear s5 f5 v5 d5 c5 hb)
            go_roundw
            case rel =>
              refine ⟨i + 1, r5, k5, u5, by omega, by go_num, rfl, Lib.hid ⟨z5, H5.out.1, H5.out.2.2.2.1, by omega, ?_, H5.out.2.1.mono hwz, Below.trans hBw.out (Below.mono H5.out.2.2.2.2 hwz)⟩⟩
              rw [H5.out.2.2.1, HO.out.2.2.2.1, HRW.out.2.2, vt, EY.out, Int.mul_add, Int.mul_left_comm]
            case measure => simp [intOf]; omega
    · obtain rfl : i = n := by omega
      have hT := trim_sl sO
      obtain ⟨t, et⟩ : ∃ t, tN zs l = t := ⟨_, rfl⟩
      have htl := trim_left sO dO
      have hle := tN_le zs l
      rw [et] at hT htl hle
      have hvv : vl (zs.take t) = vl xs * vl ys := by rw [htl.2.2, vO, vt_all (by rw [HY.out.len]; exact Nat.le_refl _)]
      have hdc : decide (0 < t) = decide (0 < vl xs * vl ys) := lt_kk htl.1 htl.2.1 (by rw [hvv]; omega)
      have fO2 := Lib.hid (show Fr (w.heap.size + 2 + 1) r from fO)
      have GW := Lib.hid (show Gr w wr from Below.trans HW.out (Below.mono bO (by omega)))
      have a0 : wr.cell? ⟨w.heap.size, 0, none⟩ = some (.bool A) := keepc bO (by simp <;> omega) HB.out.1
      have a2 : wr.cell? ⟨w.heap.size + 1, 0, none⟩ = some (.bool B) := keepc bO (by simp <;> omega) HB.out.2.2.1
      have a4 : wr.cell? ⟨w.heap.size + 2, 0, none⟩ = some (.bool false) := keepc bO (by simp <;> omega) HB.out.2.2.2.2.1
      have a5 : wr.cell? ⟨w.heap.size + 2, 1, none⟩ = some (.slice none 0 0) := keepc bO (by simp <;> omega) HB.out.2.2.2.2.2.1
      have a6 : wr.frozen? ⟨w.heap.size + 2, 0, none⟩ = false := (Below.frozen bO (p := ⟨w.heap.size + 2, 0, none⟩) (by simp)).trans HB.out.2.2.2.2.2.2.1
      have a7 : wr.frozen? ⟨w.heap.size + 2, 1, none⟩ = false := (Below.frozen bO (p := ⟨w.heap.size + 2, 1, none⟩) (by simp)).trans HB.out.2.2.2.2.2.2.2
      have htl2 := htl
      clear htl
      have htl := Lib.hid (show Sl wr r t cp (zs.take t) ∧ Cn (zs.take t) ∧ vl (zs.take t) = vl xs * vl ys from ⟨htl2.1, htl2.2.1, hvv⟩)
      have hdc2 := Lib.hid hdc
      clear htl2 hvv sO dO vO fO bO HO et hP hdc
      by_cases h0 : 0 < t
      · cases A <;> cases B
        · (go_wp2_with (go_at_call 104; refine (hT).mono ?_; rintro e w1 ⟨rfl, rfl⟩); exact bodyPost_ret (v := .agg #[.bool false, .slice r t cp]) (by simp [results, Try.results68, go_sem, *]) rfl ⟨r, t, cp, _, by rw [← hdc2.out]; simp [h0], htl.out.1.set2 _ _ (fO2.out), htl.out.2.1, htl.out.2.2, fO2.out.mono (by omega), by omega, Gr.setCell (Gr.setCell GW.out (by simp <;> omega) _) (by simp <;> omega) _⟩)
        · (go_wp2_with (go_at_call 104; refine (hT).mono ?_; rintro e w1 ⟨rfl, rfl⟩); exact bodyPost_ret (v := .agg #[.bool true, .slice r t cp]) (by simp [results, Try.results68, go_sem, *]) rfl ⟨r, t, cp, _, by rw [← hdc2.out]; simp [h0], htl.out.1.set2 _ _ (fO2.out), htl.out.2.1, htl.out.2.2, fO2.out.mono (by omega), by omega, Gr.setCell (Gr.setCell GW.out (by simp <;> omega) _) (by simp <;> omega) _⟩)
        · (go_wp2_with (go_at_call 104; refine (hT).mono ?_; rintro e w1 ⟨rfl, rfl⟩); exact bodyPost_ret (v := .agg #[.bool true, .slice r t cp]) (by simp [results, Try.results68, go_sem, *]) rfl ⟨r, t, cp, _, by rw [← hdc2.out]; simp [h0], htl.out.1.set2 _ _ (fO2.out), htl.out.2.1, htl.out.2.2, fO2.out.mono (by omega), by omega, Gr.setCell (Gr.setCell GW.out (by simp <;> omega) _) (by simp <;> omega) _⟩)
        · (go_wp2_with (go_at_call 104; refine (hT).mono ?_; rintro e w1 ⟨rfl, rfl⟩); exact bodyPost_ret (v := .agg #[.bool false, .slice r t cp]) (by simp [results, Try.results68, go_sem, *]) rfl ⟨r, t, cp, _, by rw [← hdc2.out]; simp [h0], htl.out.1.set2 _ _ (fO2.out), htl.out.2.1, htl.out.2.2, fO2.out.mono (by omega), by omega, Gr.setCell (Gr.setCell GW.out (by simp <;> omega) _) (by simp <;> omega) _⟩)
      · cases A <;> cases B
        · (go_wp2_with (go_at_call 104; refine (hT).mono ?_; rintro e w1 ⟨rfl, rfl⟩); exact bodyPost_ret (v := .agg #[.bool false, .slice r t cp]) (by simp [results, Try.results68, go_sem, *]) rfl ⟨r, t, cp, _, by rw [← hdc2.out]; simp [h0], htl.out.1.set2 _ _ (fO2.out), htl.out.2.1, htl.out.2.2, fO2.out.mono (by omega), by omega, Gr.setCell (Gr.setCell GW.out (by simp <;> omega) _) (by simp <;> omega) _⟩)
        · (go_wp2_with (go_at_call 104; refine (hT).mono ?_; rintro e w1 ⟨rfl, rfl⟩); exact bodyPost_ret (v := .agg #[.bool false, .slice r t cp]) (by simp [results, Try.results68, go_sem, *]) rfl ⟨r, t, cp, _, by rw [← hdc2.out]; simp [h0], htl.out.1.set2 _ _ (fO2.out), htl.out.2.1, htl.out.2.2, fO2.out.mono (by omega), by omega, Gr.setCell (Gr.setCell GW.out (by simp <;> omega) _) (by simp <;> omega) _⟩)
        · (go_wp2_with (go_at_call 104; refine (hT).mono ?_; rintro e w1 ⟨rfl, rfl⟩); exact bodyPost_ret (v := .agg #[.bool false, .slice r t cp]) (by simp [results, Try.results68, go_sem, *]) rfl ⟨r, t, cp, _, by rw [← hdc2.out]; simp [h0], htl.out.1.set2 _ _ (fO2.out), htl.out.2.1, htl.out.2.2, fO2.out.mono (by omega), by omega, Gr.setCell (Gr.setCell GW.out (by simp <;> omega) _) (by simp <;> omega) _⟩)
        · (go_wp2_with (go_at_call 104; refine (hT).mono ?_; rintro e w1 ⟨rfl, rfl⟩); exact bodyPost_ret (v := .agg #[.bool false, .slice r t cp]) (by simp [results, Try.results68, go_sem, *]) rfl ⟨r, t, cp, _, by rw [← hdc2.out]; simp [h0], htl.out.1.set2 _ _ (fO2.out), htl.out.2.1, htl.out.2.2, fO2.out.mono (by omega), by omega, Gr.setCell (Gr.setCell GW.out (by simp <;> omega) _) (by simp <;> omega) _⟩)
end Go.Proofs.Ytnaflaokhldfnaa
