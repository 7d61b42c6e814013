/- The reference's fractions: Whole. -/
import Derived.Test.YtmejhccdiimmlaaRj
namespace Go.Proofs.Ytmejhccdiimmlaa
set_option linter.unusedSimpArgs false
set_option linter.unusedVariables false
open Go.RowKit

/-- A long number is returned: below 0 only if it is not 0; its amount. -/
def WhR (b : Bool) (v : Int) (w : World) (e : Ending) (w' : World) : Prop :=
  ∃ p k c xs, e = .returned (.agg #[.bool (b && decide (0 < k)), .slice p k c]) ∧ Sl w' p k c xs ∧ Cn xs ∧ vl xs = v ∧ Gr w w'

theorem order_lt {p q : Option Addr} {m n c d : Nat} {xs ys : List Int} {w : World} (hx : Sl w p m c xs) (hy : Sl w q n d ys) (cx : Cn xs) (cy : Cn ys) (hm : m ≤ 100000) (hn : n ≤ 100000) (h : vl xs < vl ys) :
    Calls Try.prog 126 #[.slice p m c, .slice q n d] w fun e w' => e = .returned (.int .i64 (-1)) ∧ Gr w w' :=
  (order_sl hx hy cx cy hm hn).mono fun e w' k => ⟨by rw [k.1, ordI_lt h], k.2⟩
theorem order_ge {p q : Option Addr} {m n c d : Nat} {xs ys : List Int} {w : World} (hx : Sl w p m c xs) (hy : Sl w q n d ys) (cx : Cn xs) (cy : Cn ys) (hm : m ≤ 100000) (hn : n ≤ 100000) (h : vl ys ≤ vl xs) :
    Calls Try.prog 126 #[.slice p m c, .slice q n d] w fun e w' => ∃ o, 0 ≤ o ∧ e = .returned (.int .i64 o) ∧ Gr w w' :=
  (order_sl hx hy cx cy hm hn).mono fun e w' k => ⟨_, ordI_ge h, k.1, k.2⟩
theorem rq_at {A V : Int} (hA : 0 ≤ A) (hV : 0 < V) (z : Nat) (half : Bool) : ((rq (A.toNat * 10 ^ z) V.toNat half : Nat) : Int) = A * 10 ^ z / V + (if half ∧ V ≤ 2 * (A * 10 ^ z % V) then 1 else 0) := by
  obtain ⟨a, rfl⟩ := Int.eq_ofNat_of_zero_le hA
  obtain ⟨v, rfl⟩ := Int.eq_ofNat_of_zero_le (Int.le_of_lt hV)
  unfold rq
  have e : ((a : Int) * 10 ^ z) = ((a * 10 ^ z : Nat) : Int) := by push_cast; rfl
  rw [Int.toNat_natCast, Int.toNat_natCast, e]
  have e2 : (v : Int) ≤ 2 * (((a * 10 ^ z : Nat) : Int) % v) ↔ v ≤ 2 * (a * 10 ^ z % v) := by
    rw [← Int.natCast_emod]; omega
  simp only [e2]
  push_cast
  split <;> simp
/-- The quotient's slice in the world behind the test. -/
def QL (w : World) (b : Bool) (v : Int) (r : Option Addr) (k u : Nat) (wz : World) : Prop := ∃ zs, Sl wz r k u zs ∧ Cn zs ∧ vl zs = v ∧ Fr (w.heap.size + 2) r ∧ Gr w wz
theorem QL.gr {w wz w' : World} {b v r k u} (h : QL w b v r k u wz) (g : Gr wz w') : QL w b v r k u w' := by
  obtain ⟨zs, h1, h2, h3, h4, h5⟩ := h
  exact ⟨zs, h1.gr g, h2, h3, h4, h5.trans g⟩
theorem QL.fin {w wz : World} {b v r k u} (h : QL w b v r k u wz) (x y : Value) : ∃ zs, Sl ((wz.setCell ⟨w.heap.size + 1, 0, none⟩ x).setCell ⟨w.heap.size + 1, 1, none⟩ y) r k u zs ∧ Cn zs ∧ vl zs = v ∧ Gr w ((wz.setCell ⟨w.heap.size + 1, 0, none⟩ x).setCell ⟨w.heap.size + 1, 1, none⟩ y) := by
  obtain ⟨zs, h1, h2, h3, h4, h5⟩ := h
  have n1 : ∀ a, r = some a → a.block ≠ w.heap.size + 1 := fun a e h => by have := h4 a e; omega
  exact ⟨zs, (h1.setCell _ _ n1).setCell _ _ n1, h2, h3, Gr.setCell (Gr.setCell h5 (by simp) _) (by simp) _⟩

set_option maxHeartbeats 2000000 in
set_option maxRecDepth 100000 in
theorem Whole_any (b : Bool) {p q : Option Addr} {m n c d : Nat} {xs ys : List Int} (half : Bool) (z : Nat) (Z : Int) (hZ : Z = z) (hz : z ≤ 100) {w : World} (hx : Sl w p m c xs) (hy : Sl w q n d ys) (cx : Cn xs) (cy : Cn ys) (hV : 0 < vl ys) (hm : m ≤ 100) (hn : n ≤ 100) :
    Calls Try.prog 108 #[.agg #[.bool b, .slice p m c, .slice q n d], .int .i64 Z, .bool half] w (WhR b (rq ((vl xs).toNat * 10 ^ z) (vl ys).toNat half : Nat) w) := by
  obtain ⟨i0, hi, hz0, hz1, hz2⟩ := info_parts info3
  have hmk := mk_ints Z z hZ (by omega)
  have HX := Lib.hid hx
  have HY := Lib.hid hy
  have CX := Lib.hid cx
  have CY := Lib.hid cy
  have HV := Lib.hid hV
  clear hx hy cx cy hV hZ
  go_enter Try.func108, Try.ntmps108
  go_wp2
  have hOwn : Hid (Own ((((w.alloc (.cells #[.bool b, .slice p m c, .slice q n d] 114)).alloc (.cells #[.bool false, .slice none 0 0] 112)).alloc (.cells (mkz .i64 z) 3)).drew) (w.heap.size + 2) .i64 3 (.slice (some ⟨w.heap.size + 2, 0, none⟩) z z) (List.replicate z 0)) := by
    have h := Own.of_arr (B := w.heap.size + 2) (n := z) (m := z) (Arr.made ((w.alloc (.cells #[.bool b, .slice p m c, .slice q n d] 114)).alloc (.cells #[.bool false, .slice none 0 0] 112)) .i64 3 z) (by simp) (by unfold maxLen; simp; omega) (by simp) (by simp)
    simp only [World.size_alloc] at h
    exact h
  have hSl : Hid (Sl ((((w.alloc (.cells #[.bool b, .slice p m c, .slice q n d] 114)).alloc (.cells #[.bool false, .slice none 0 0] 112)).alloc (.cells (mkz .i64 z) 3)).drew) p m c xs) := HX.out.gr (by repeat (first | exact Gr.refl _ | assumption | refine Gr.alloc ?_ _ | refine Gr.drew ?_ | refine Gr.drewN ?_ _ | refine Gr.setCell ?_ (by simp <;> omega) _ | refine Gr.trans ?_ (by assumption)))
  have hGd : Hid (Gr w ((((w.alloc (.cells #[.bool b, .slice p m c, .slice q n d] 114)).alloc (.cells #[.bool false, .slice none 0 0] 112)).alloc (.cells (mkz .i64 z) 3)).drew)) := (by repeat (first | exact Gr.refl _ | assumption | refine Gr.alloc ?_ _ | refine Gr.drew ?_ | refine Gr.drewN ?_ _ | refine Gr.setCell ?_ (by simp <;> omega) _ | refine Gr.trans ?_ (by assumption)))
  go_region_held3 (fun w' => w'.cell? ⟨w.heap.size, 0, none⟩ = some (.bool b) ∧ w'.cell? ⟨w.heap.size, 1, none⟩ = some (.slice p m c) ∧ w'.cell? ⟨w.heap.size, 2, none⟩ = some (.slice q n d)) (first | (first | (go_keep; done) | ((try go_split_ands); (repeat' apply And.intro) <;> ((try simp only [World.cell?_drew]); first | assumption | (refine hb.keep ?_; (try simp only [World.cell?_drew]); first | assumption | (simp [*, go_sem]; done)) | (simp [*, go_sem]; done)))) | (exact ⟨keepc hB2 (by simp) (by first | (simp; done) | (simp [go_sem]; done)), keepc hB2 (by simp) (by first | (simp; done) | (simp [go_sem]; done)), keepc hB2 (by simp) (by first | (simp; done) | (simp [go_sem]; done))⟩)) ((refine step_append_sl _ (by rfl) (.tmp 11) (.tmp 14) 110 3 (by rfl) i0 8 Try.underlying110 hi hz0 hz1 hz2 (by decide) (w.heap.size + 2) (w.heap.size + 2) z z (List.replicate z 0) (by rfl) hOwn.out (by simp) (z + m) p m c xs (by rfl) hSl.out rfl (by omega) (by simp) ?_; intro g1 cap1 w2 hO2 hB2 hgr2 hg1 hg1l))
  rename_i hH
  obtain ⟨c0, c1, c2⟩ := hH
  have d0 : w2.cell? ⟨w.heap.size + 1, 0, none⟩ = some (.bool false) := keepc hB2 (by simp) (by first | (simp; done) | (simp [go_sem]; done))
  have d1 : w2.cell? ⟨w.heap.size + 1, 1, none⟩ = some (.slice none 0 0) := keepc hB2 (by simp) (by first | (simp; done) | (simp [go_sem]; done))
  have e0 : w2.frozen? ⟨w.heap.size + 1, 0, none⟩ = false := (Below.frozen hB2 (p := ⟨w.heap.size + 1, 0, none⟩) (by simp)).trans (by simp [go_sem])
  have e1 : w2.frozen? ⟨w.heap.size + 1, 1, none⟩ = false := (Below.frozen hB2 (p := ⟨w.heap.size + 1, 1, none⟩) (by simp)).trans (by simp [go_sem])
  have hz2' : w.heap.size + 2 ≤ w2.heap.size := by omega
  have G2 := Lib.hid (show Gr w w2 from Below.trans hGd.out (Below.mono hB2 (by omega)))
  have hts := hO2.sl' (show (List.replicate z 0 ++ xs).length = z + m by simp [HX.out.len])
  have hdg : Dg (List.replicate z 0 ++ xs) := (Dg.zeros z).append CX.out.1
  have hv : vl (List.replicate z 0 ++ xs) = vl xs * 10 ^ z := by rw [vl_append, vl_zeros]; simp [Int.mul_comm]
  obtain ⟨ts, ets⟩ : ∃ ts, List.replicate z 0 ++ xs = ts := ⟨_, rfl⟩
  rw [ets] at hts hdg hv
  obtain ⟨t, et⟩ : ∃ t, tN ts (z + m) = t := ⟨_, rfl⟩
  have htl := trim_left hts hdg
  have htt : t ≤ z + m := by rw [← et]; exact tN_le _ _
  have hT : ∀ wz, Gr w2 wz → Calls Try.prog 128 #[.slice (some ⟨g1, 0, none⟩) (z + m) cap1] wz fun e w' => e = .returned (.slice (some ⟨g1, 0, none⟩) t cap1) ∧ wz = w' := fun wz g => by
    have := trim_sl (hts.gr g); rw [et] at this; exact this
  rw [et] at htl
  have hD : ∀ wz, Gr w2 wz → Calls Try.prog 116 #[.slice (some ⟨g1, 0, none⟩) t cap1, .slice q n d] wz (DvR (ts.take t) ys t n wz) := fun wz g =>
    Divided_sl (htl.1.gr g) (HY.out.gr (G2.out.trans g)) htl.2.1.1 CY.out HV.out (by omega) (by omega)
  have HV2 := Lib.hid (htl.2.2.trans hv)
  clear hO2 hB2 hgr2 hts htl hv ets et hdg hOwn hSl hGd
  go_wp2
  go_region_held3 (fun w' => w'.cell? ⟨w.heap.size, 0, none⟩ = some (.bool b) ∧ w'.cell? ⟨w.heap.size, 1, none⟩ = some (.slice p m c) ∧ w'.cell? ⟨w.heap.size, 2, none⟩ = some (.slice q n d)) (first | (go_keep; done) | ((try go_split_ands); (repeat' apply And.intro) <;> ((try simp only [World.cell?_drew]); first | assumption | (refine hb.keep ?_; (try simp only [World.cell?_drew]); first | assumption | (simp [*, go_sem]; done)) | (simp [*, go_sem]; done)))) (first | (go_at_call 128; refine (hT _ (by repeat (first | exact Gr.refl _ | assumption | refine Gr.alloc ?_ _ | refine Gr.drew ?_ | refine Gr.drewN ?_ _ | refine Gr.setCell ?_ (by simp <;> omega) _ | refine Gr.trans ?_ (by assumption)))).mono ?_; rintro e w1 ⟨rfl, rfl⟩) | (go_at_call 116; refine (hD _ (by repeat (first | exact Gr.refl _ | assumption | refine Gr.alloc ?_ _ | refine Gr.drew ?_ | refine Gr.drewN ?_ _ | refine Gr.setCell ?_ (by simp <;> omega) _ | refine Gr.trans ?_ (by assumption)))).mono ?_; rintro e w3 ⟨r1, k1, u1, zs1, r2, k2, u2, zs2, rfl, s1, s2, n1, n2, v1, v2, l1, l2, f1, f2, hb⟩))
  rename_i hH
  have G3 := Lib.hid (show Gr w2 w3 from ((Gr.refl w2).drew).trans hb)
  obtain ⟨x0, x1⟩ := G3.out.cells
  have hlt2 : w.heap.size + 1 < w2.heap.size := by omega
  have y0 : w3.cell? ⟨w.heap.size + 1, 0, none⟩ = some (.bool false) := G3.out.keep d0
  have y1 : w3.cell? ⟨w.heap.size + 1, 1, none⟩ = some (.slice none 0 0) := G3.out.keep d1
  have y2 : w3.frozen? ⟨w.heap.size + 1, 0, none⟩ = false := (x1 _ _ hlt2).trans e0
  have y3 : w3.frozen? ⟨w.heap.size + 1, 1, none⟩ = false := (x1 _ _ hlt2).trans e1
  obtain ⟨b0, b1, b2⟩ := hH
  have hz3 : w.heap.size + 2 ≤ w3.heap.size := Nat.le_trans hz2' G3.out.size
  have GW := Lib.hid (G2.out.trans G3.out)
  have HQ := Lib.hid (And.intro s1 (And.intro n1 (And.intro (v1.trans (by rw [HV2.out])) (f1.mono (show w.heap.size + 2 ≤ _ from hz2')))))
  have HR := Lib.hid (And.intro s2 (And.intro n2 (v2.trans (by rw [HV2.out]))))
  have hr := rq_at CX.out.bd.1 HV.out z half
  clear s1 s2 n1 n2 v1 v2 f1 f2 hb x0 x1 d0 d1 e0 e1 c0 c1 c2 hT hD hz2' hg1 hg1l
  generalize ((rq ((vl xs).toNat * 10 ^ z) (vl ys).toNat half : Nat) : Int) = RQ at *
  cases half
  · rw [if_neg (by simp), Int.add_zero] at hr
    have hQ := Lib.hid (show QL w b RQ r1 k1 u1 w3 from ⟨zs1, HQ.out.1, HQ.out.2.1, by rw [hr]; exact HQ.out.2.2.1, HQ.out.2.2.2, GW.out⟩)
    clear hr
    go_wp2
    go_quiet (fail)
    (cases b; (by_cases hk : 0 < k1; (go_wp2; obtain ⟨zs, q1, q2, q3, q4⟩ := (QL.gr hQ.out (w' := w3.drewN nq) (by repeat (first | exact Gr.refl _ | assumption | refine Gr.alloc ?_ _ | refine Gr.drew ?_ | refine Gr.drewN ?_ _ | refine Gr.setCell ?_ (by simp <;> omega) _ | refine Gr.trans ?_ (by assumption)))).fin _ _; exact bodyPost_ret (v := .agg #[.bool false, .slice r1 k1 u1]) (by simp [results, Try.results108, go_sem, *]) rfl ⟨r1, k1, u1, zs, by simp [hk], q1, q2, q3, q4⟩); (go_wp2; obtain ⟨zs, q1, q2, q3, q4⟩ := (QL.gr hQ.out (w' := w3.drewN nq) (by repeat (first | exact Gr.refl _ | assumption | refine Gr.alloc ?_ _ | refine Gr.drew ?_ | refine Gr.drewN ?_ _ | refine Gr.setCell ?_ (by simp <;> omega) _ | refine Gr.trans ?_ (by assumption)))).fin _ _; exact bodyPost_ret (v := .agg #[.bool false, .slice r1 k1 u1]) (by simp [results, Try.results108, go_sem, *]) rfl ⟨r1, k1, u1, zs, by simp [hk], q1, q2, q3, q4⟩)); (by_cases hk : 0 < k1; (go_wp2; obtain ⟨zs, q1, q2, q3, q4⟩ := (QL.gr hQ.out (w' := w3.drewN nq) (by repeat (first | exact Gr.refl _ | assumption | refine Gr.alloc ?_ _ | refine Gr.drew ?_ | refine Gr.drewN ?_ _ | refine Gr.setCell ?_ (by simp <;> omega) _ | refine Gr.trans ?_ (by assumption)))).fin _ _; exact bodyPost_ret (v := .agg #[.bool true, .slice r1 k1 u1]) (by simp [results, Try.results108, go_sem, *]) rfl ⟨r1, k1, u1, zs, by simp [hk], q1, q2, q3, q4⟩); (go_wp2; obtain ⟨zs, q1, q2, q3, q4⟩ := (QL.gr hQ.out (w' := w3.drewN nq) (by repeat (first | exact Gr.refl _ | assumption | refine Gr.alloc ?_ _ | refine Gr.drew ?_ | refine Gr.drewN ?_ _ | refine Gr.setCell ?_ (by simp <;> omega) _ | refine Gr.trans ?_ (by assumption)))).fin _ _; exact bodyPost_ret (v := .agg #[.bool false, .slice r1 k1 u1]) (by simp [results, Try.results108, go_sem, *]) rfl ⟨r1, k1, u1, zs, by simp [hk], q1, q2, q3, q4⟩)))
  · by_cases hge : vl ys ≤ 2 * (vl xs * 10 ^ z % vl ys)
    · rw [if_pos ⟨rfl, hge⟩] at hr
      have HR1 := Lib.hid hr
      clear hr
      go_wp2
      go_region_held3 (fun w' => w'.cell? ⟨w.heap.size, 0, none⟩ = some (.bool b) ∧ w'.cell? ⟨w.heap.size, 1, none⟩ = some (.slice p m c) ∧ w'.cell? ⟨w.heap.size, 2, none⟩ = some (.slice q n d)) (first | (go_keep; done) | ((try go_split_ands); (repeat' apply And.intro) <;> ((try simp only [World.cell?_drew]); first | assumption | (refine hb.keep ?_; (try simp only [World.cell?_drew]); first | assumption | (simp [*, go_sem]; done)) | (simp [*, go_sem]; done)))) (first | (go_at_call 125; refine (plus_sl (HR.out.1.gr (by repeat (first | exact Gr.refl _ | assumption | refine Gr.alloc ?_ _ | refine Gr.drew ?_ | refine Gr.drewN ?_ _ | refine Gr.setCell ?_ (by simp <;> omega) _ | refine Gr.trans ?_ (by assumption)))) (HR.out.1.gr (by repeat (first | exact Gr.refl _ | assumption | refine Gr.alloc ?_ _ | refine Gr.drew ?_ | refine Gr.drewN ?_ _ | refine Gr.setCell ?_ (by simp <;> omega) _ | refine Gr.trans ?_ (by assumption)))) HR.out.2.1.1 HR.out.2.1.1 (by omega) (by omega)).mono ?_; rintro e w4 ⟨r5, k5, u5, z5, rfl, s5, f5, ⟨v5, d5, c5⟩, l5, hb⟩; have H5 := Lib.hid (And.intro s5 (And.intro (show vl z5 = 2 * (vl xs * 10 ^ z % vl ys) by rw [v5, HR.out.2.2]; omega) (c5 HR.out.2.1 HR.out.2.1))); clear s5 v5 d5 c5) | (go_at_call 126; refine (order_ge (H5.out.1.gr (by repeat (first | exact Gr.refl _ | assumption | refine Gr.alloc ?_ _ | refine Gr.drew ?_ | refine Gr.drewN ?_ _ | refine Gr.setCell ?_ (by simp <;> omega) _ | refine Gr.trans ?_ (by assumption)))) (HY.out.gr (GW.out.trans (by repeat (first | exact Gr.refl _ | assumption | refine Gr.alloc ?_ _ | refine Gr.drew ?_ | refine Gr.drewN ?_ _ | refine Gr.setCell ?_ (by simp <;> omega) _ | refine Gr.trans ?_ (by assumption))))) H5.out.2.2 CY.out (by omega) (by omega) (by rw [H5.out.2.1]; omega)).mono ?_; rintro e w5 ⟨o, ho, rfl, hb⟩))
      rename_i hH
      have G5 := Lib.hid (show Gr w3 w5 from (by repeat (first | exact Gr.refl _ | assumption | refine Gr.alloc ?_ _ | refine Gr.drew ?_ | refine Gr.drewN ?_ _ | refine Gr.setCell ?_ (by simp <;> omega) _ | refine Gr.trans ?_ (by assumption))))
      obtain ⟨_, x1⟩ := G5.out.cells
      have t0 : w5.cell? ⟨w.heap.size, 0, none⟩ = some (.bool b) := hH.1
      have t2 : w5.cell? ⟨w.heap.size + 1, 0, none⟩ = some (.bool false) := G5.out.keep y0
      have t3 : w5.cell? ⟨w.heap.size + 1, 1, none⟩ = some (.slice none 0 0) := G5.out.keep y1
      have t4 : w5.frozen? ⟨w.heap.size + 1, 0, none⟩ = false := (x1 _ _ (by omega)).trans y2
      have t5 : w5.frozen? ⟨w.heap.size + 1, 1, none⟩ = false := (x1 _ _ (by omega)).trans y3
      have hz5 : w.heap.size + 2 ≤ w5.heap.size := Nat.le_trans hz3 G5.out.size
      have hk1 : k1 ≤ 200 := by omega
      have H6 : ∀ wz, Gr w5 wz → Sl wz r1 k1 u1 zs1 := fun wz g => (HQ.out.1.gr G5.out).gr g
      clear hH x1 hb y0 y1 y2 y3 b0 b1 b2
      have hone : Cn [1] := Cn.of_last (by intro x hx; simp at hx; omega) (by intro _; simp)
      have HONE := Lib.hid hone
      clear hone
      cases b
      all_goals
        go_wp2_with (go_at_call 125; refine (plus_sl (H6 _ (by repeat (first | exact Gr.refl _ | assumption | refine Gr.alloc ?_ _ | refine Gr.drew ?_ | refine Gr.drewN ?_ _ | refine Gr.setCell ?_ (by simp <;> omega) _ | refine Gr.trans ?_ (by assumption)))) ((Arr.new w5 .i64 3 (c := #[.int .i64 1]) (xs := [1]) rfl).sl (n := 1) rfl (by unfold maxLen; omega)) HQ.out.2.1.1 HONE.out.1 (by omega) (by omega)).mono ?_; rintro e w6 ⟨r7, k7, u7, z7, rfl, s7, f7, ⟨v7, d7, c7⟩, l7, hb⟩; have G7 := Lib.hid (((Gr.refl w5).alloc _).trans hb); have g0 := G7.out.keep t0; have g2 := G7.out.keep t2; have g3 := G7.out.keep t3; have g4 := (G7.out.cells.2 _ _ (show w.heap.size + 1 < w5.heap.size by omega)).trans t4; have g5 := (G7.out.cells.2 _ _ (show w.heap.size + 1 < w5.heap.size by omega)).trans t5; have H7 := Lib.hid (And.intro s7 (And.intro (f7.mono (show w.heap.size + 2 ≤ _ by simp; omega)) (And.intro v7 (c7 HQ.out.2.1 HONE.out)))); clear s7 f7 v7 d7 c7 hb)
      · have hQ := QL.fin (b := false) (show QL w false RQ r7 k7 u7 w6 from ⟨z7, H7.out.1, H7.out.2.2.2, by rw [H7.out.2.2.1, HQ.out.2.2.1, HR1.out]; simp [vl], H7.out.2.1, (GW.out.trans G5.out).trans G7.out⟩) (.bool false) (.slice r7 k7 u7)
        obtain ⟨zs, q1, q2, q3, q4⟩ := hQ
        exact bodyPost_ret (v := .agg #[.bool false, .slice r7 k7 u7]) (by simp [results, Try.results108, go_sem, *]) rfl ⟨r7, k7, u7, zs, by simp, q1, q2, q3, q4⟩
      · have hQ := QL.fin (b := true) (show QL w true RQ r7 k7 u7 w6 from ⟨z7, H7.out.1, H7.out.2.2.2, by rw [H7.out.2.2.1, HQ.out.2.2.1, HR1.out]; simp [vl], H7.out.2.1, (GW.out.trans G5.out).trans G7.out⟩) (.bool (decide (0 < k7))) (.slice r7 k7 u7)
        obtain ⟨zs, q1, q2, q3, q4⟩ := hQ
        exact bodyPost_ret (v := .agg #[.bool (decide (0 < k7)), .slice r7 k7 u7]) (by simp [results, Try.results108, go_sem, *]) rfl ⟨r7, k7, u7, zs, by simp, q1, q2, q3, q4⟩
    · rw [if_neg (fun h => hge h.2), Int.add_zero] at hr
      have hQ := Lib.hid (show QL w b RQ r1 k1 u1 w3 from ⟨zs1, HQ.out.1, HQ.out.2.1, by rw [hr]; exact HQ.out.2.2.1, HQ.out.2.2.2, GW.out⟩)
      clear hr
      go_wp2
      go_region_held3 (fun w' => w'.cell? ⟨w.heap.size, 0, none⟩ = some (.bool b) ∧ w'.cell? ⟨w.heap.size, 1, none⟩ = some (.slice p m c) ∧ w'.cell? ⟨w.heap.size, 2, none⟩ = some (.slice q n d)) (first | (go_keep; done) | ((try go_split_ands); (repeat' apply And.intro) <;> ((try simp only [World.cell?_drew]); first | assumption | (refine hb.keep ?_; (try simp only [World.cell?_drew]); first | assumption | (simp [*, go_sem]; done)) | (simp [*, go_sem]; done)))) (first | (go_at_call 125; refine (plus_sl (HR.out.1.gr (by repeat (first | exact Gr.refl _ | assumption | refine Gr.alloc ?_ _ | refine Gr.drew ?_ | refine Gr.drewN ?_ _ | refine Gr.setCell ?_ (by simp <;> omega) _ | refine Gr.trans ?_ (by assumption)))) (HR.out.1.gr (by repeat (first | exact Gr.refl _ | assumption | refine Gr.alloc ?_ _ | refine Gr.drew ?_ | refine Gr.drewN ?_ _ | refine Gr.setCell ?_ (by simp <;> omega) _ | refine Gr.trans ?_ (by assumption)))) HR.out.2.1.1 HR.out.2.1.1 (by omega) (by omega)).mono ?_; rintro e w4 ⟨r5, k5, u5, z5, rfl, s5, f5, ⟨v5, d5, c5⟩, l5, hb⟩; have H5 := Lib.hid (And.intro s5 (And.intro (show vl z5 = 2 * (vl xs * 10 ^ z % vl ys) by rw [v5, HR.out.2.2]; omega) (c5 HR.out.2.1 HR.out.2.1))); clear s5 v5 d5 c5) | (go_at_call 126; refine (order_lt (H5.out.1.gr (by repeat (first | exact Gr.refl _ | assumption | refine Gr.alloc ?_ _ | refine Gr.drew ?_ | refine Gr.drewN ?_ _ | refine Gr.setCell ?_ (by simp <;> omega) _ | refine Gr.trans ?_ (by assumption)))) (HY.out.gr (GW.out.trans (by repeat (first | exact Gr.refl _ | assumption | refine Gr.alloc ?_ _ | refine Gr.drew ?_ | refine Gr.drewN ?_ _ | refine Gr.setCell ?_ (by simp <;> omega) _ | refine Gr.trans ?_ (by assumption))))) H5.out.2.2 CY.out (by omega) (by omega) (by rw [H5.out.2.1]; omega)).mono ?_; rintro e w5 ⟨rfl, hb⟩))
      rename_i hH
      have G5 := Lib.hid (show Gr w3 w5 from (by repeat (first | exact Gr.refl _ | assumption | refine Gr.alloc ?_ _ | refine Gr.drew ?_ | refine Gr.drewN ?_ _ | refine Gr.setCell ?_ (by simp <;> omega) _ | refine Gr.trans ?_ (by assumption))))
      obtain ⟨_, x1⟩ := G5.out.cells
      have t0 : w5.cell? ⟨w.heap.size, 0, none⟩ = some (.bool b) := hH.1
      have t2 : w5.cell? ⟨w.heap.size + 1, 0, none⟩ = some (.bool false) := G5.out.keep y0
      have t3 : w5.cell? ⟨w.heap.size + 1, 1, none⟩ = some (.slice none 0 0) := G5.out.keep y1
      have t4 : w5.frozen? ⟨w.heap.size + 1, 0, none⟩ = false := (x1 _ _ (by omega)).trans y2
      have t5 : w5.frozen? ⟨w.heap.size + 1, 1, none⟩ = false := (x1 _ _ (by omega)).trans y3
      have hz5 : w.heap.size + 2 ≤ w5.heap.size := Nat.le_trans hz3 G5.out.size
      have hQ2 := hQ
      clear hQ
      have hQ := Lib.hid (hQ2.out.gr G5.out)
      clear hH x1 hb y0 y1 y2 y3 b0 b1 b2 hQ2
      (cases b; (by_cases hk : 0 < k1; (go_wp2; obtain ⟨zs, q1, q2, q3, q4⟩ := (QL.gr hQ.out (w' := w5) (by repeat (first | exact Gr.refl _ | assumption | refine Gr.alloc ?_ _ | refine Gr.drew ?_ | refine Gr.drewN ?_ _ | refine Gr.setCell ?_ (by simp <;> omega) _ | refine Gr.trans ?_ (by assumption)))).fin _ _; exact bodyPost_ret (v := .agg #[.bool false, .slice r1 k1 u1]) (by simp [results, Try.results108, go_sem, *]) rfl ⟨r1, k1, u1, zs, by simp [hk], q1, q2, q3, q4⟩); (go_wp2; obtain ⟨zs, q1, q2, q3, q4⟩ := (QL.gr hQ.out (w' := w5) (by repeat (first | exact Gr.refl _ | assumption | refine Gr.alloc ?_ _ | refine Gr.drew ?_ | refine Gr.drewN ?_ _ | refine Gr.setCell ?_ (by simp <;> omega) _ | refine Gr.trans ?_ (by assumption)))).fin _ _; exact bodyPost_ret (v := .agg #[.bool false, .slice r1 k1 u1]) (by simp [results, Try.results108, go_sem, *]) rfl ⟨r1, k1, u1, zs, by simp [hk], q1, q2, q3, q4⟩)); (by_cases hk : 0 < k1; (go_wp2; obtain ⟨zs, q1, q2, q3, q4⟩ := (QL.gr hQ.out (w' := w5) (by repeat (first | exact Gr.refl _ | assumption | refine Gr.alloc ?_ _ | refine Gr.drew ?_ | refine Gr.drewN ?_ _ | refine Gr.setCell ?_ (by simp <;> omega) _ | refine Gr.trans ?_ (by assumption)))).fin _ _; exact bodyPost_ret (v := .agg #[.bool true, .slice r1 k1 u1]) (by simp [results, Try.results108, go_sem, *]) rfl ⟨r1, k1, u1, zs, by simp [hk], q1, q2, q3, q4⟩); (go_wp2; obtain ⟨zs, q1, q2, q3, q4⟩ := (QL.gr hQ.out (w' := w5) (by repeat (first | exact Gr.refl _ | assumption | refine Gr.alloc ?_ _ | refine Gr.drew ?_ | refine Gr.drewN ?_ _ | refine Gr.setCell ?_ (by simp <;> omega) _ | refine Gr.trans ?_ (by assumption)))).fin _ _; exact bodyPost_ret (v := .agg #[.bool false, .slice r1 k1 u1]) (by simp [results, Try.results108, go_sem, *]) rfl ⟨r1, k1, u1, zs, by simp [hk], q1, q2, q3, q4⟩)))
end Go.Proofs.Ytmejhccdiimmlaa
