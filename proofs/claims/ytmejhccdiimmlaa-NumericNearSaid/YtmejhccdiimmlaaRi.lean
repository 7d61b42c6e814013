/- The reference's digit lists: Divided. -/
import Derived.Test.YtmejhccdiimmlaaRh
import Derived.Deep.LoopGhost
namespace Go.Proofs.Ytmejhccdiimmlaa
set_option linter.unusedSimpArgs false
set_option linter.unusedVariables false
open Go.RowKit

theorem Arr.sl {w : World} {b n : Nat} {t} {xs : List Int} (h : Arr w b .i64 t xs) (hn : xs.length = n) (hm : n ≤ maxLen) : Sl w (some ⟨b, 0, none⟩) n n xs :=
  ⟨hn, Nat.le_refl _, hm, fun _ => ⟨b, rfl, fun i hi => h.cell i hi⟩⟩
/-- The quotient's digits that are known: from place k on; at k itself it is t. -/
def qf (xs : List Int) (V : Int) (k : Nat) (t : Int) (j : Nat) : Int := if j < k then 0 else if j = k then t else dq xs V j
theorem qf_next (xs : List Int) (V : Int) (k : Nat) (t : Int) (j : Nat) : qf xs V k (t + 1) j = if j = k then t + 1 else qf xs V k t j := by
  unfold qf
  by_cases h : j = k
  · subst h; simp
  · simp [h]
theorem qf_zero (xs : List Int) (V : Int) (k : Nat) (t : Int) (j : Nat) (h : t = dq xs V (k + 1)) : qf xs V (k + 1) t j = qf xs V k 0 j := by
  unfold qf
  by_cases h1 : j < k
  · simp [h1, show j < k + 1 by omega]
  · by_cases h2 : j = k
    · subst h2; simp
    · by_cases h3 : j = k + 1
      · subst h3; simp [h, show ¬ k + 1 < k by omega]
      · simp [h1, h2, h3, show ¬ j < k + 1 by omega]
def DvR (xs ys : List Int) (m n : Nat) (w : World) (e : Ending) (w' : World) : Prop :=
  ∃ r1 k1 c1 zs1 r2 k2 c2 zs2, e = .returned (.tuple #[.slice r1 k1 c1, .slice r2 k2 c2]) ∧ Sl w' r1 k1 c1 zs1 ∧ Sl w' r2 k2 c2 zs2 ∧ Cn zs1 ∧ Cn zs2 ∧ vl zs1 = vl xs / vl ys ∧ vl zs2 = vl xs % vl ys ∧ k1 ≤ m ∧ k2 ≤ n ∧ Fr w.heap.size r1 ∧ Fr w.heap.size r2 ∧ Gr w w'

/-- What holds in the outer loop. -/
def DI (w : World) (xs ys : List Int) (m n k : Nat) (r : Option Addr) (l cp : Nat) (wr : World) : Prop :=
  ∃ rs, Sl wr r l cp rs ∧ Fr (w.heap.size + 1) r ∧ Cn rs ∧ l ≤ n ∧ vl rs = vl (xs.drop k) % vl ys ∧ Arr wr w.heap.size .i64 3 (fl m (fun j => if j < k then 0 else dq xs (vl ys) j)) ∧ Gr w wr
/-- What holds in the inner loop: at most g rounds more. -/
def DJ (w : World) (xs ys : List Int) (m n k : Nat) (g : Nat) (r : Option Addr) (l cp : Nat) (wr : World) : Prop :=
  ∃ rs t, Sl wr r l cp rs ∧ Fr (w.heap.size + 1) r ∧ Cn rs ∧ l ≤ n + 1 ∧ 0 ≤ t ∧ t + g = vl (xs.drop k) / vl ys % 10 ∧ vl rs = xs.getD k 0 + 10 * (vl (xs.drop (k + 1)) % vl ys) - t * vl ys ∧ Arr wr w.heap.size .i64 3 (fl m (qf xs (vl ys) k t)) ∧ Gr w wr

theorem dv_digit {xs : List Int} {V : Int} {k : Nat} (hx : Dg xs) (hV : 0 < V) (hk : k < xs.length) :
    vl (xs.drop k) / V % 10 = (xs.getD k 0 + 10 * (vl (xs.drop (k + 1)) % V)) / V ∧ vl (xs.drop k) % V = (xs.getD k 0 + 10 * (vl (xs.drop (k + 1)) % V)) % V := by
  have b := hx.getD k
  obtain ⟨s1, s2, s3, s4⟩ := dv_step (A := vl (xs.drop (k + 1))) hV b.1 b.2
  rw [vl_drop xs hk]
  exact ⟨by rw [s1]; omega, s2⟩
theorem dv_more {z V t g : Int} (hV : 0 < V) (h : t + g = z / V) (hg : 0 < g) : V ≤ z - t * V := by
  have h1 := Int.mul_ediv_add_emod z V
  have h2 := Int.emod_nonneg z (Int.ne_of_gt hV)
  have h3 : V * (t + 1) ≤ V * (z / V) := Int.mul_le_mul_of_nonneg_left (by omega) (by omega)
  rw [Int.mul_add, Int.mul_comm V t] at h3
  omega
theorem dv_last {z V t : Int} (h : t = z / V) : z - t * V = z % V := by
  have h1 := Int.mul_ediv_add_emod z V
  rw [← h, Int.mul_comm] at h1
  omega
theorem len_of_le {xs ys : List Int} (cx : Cn xs) (cy : Cn ys) (h : vl ys ≤ vl xs) : ys.length ≤ xs.length := by
  rcases Nat.lt_or_ge xs.length ys.length with g | g
  · have := lt_len cx cy g; omega
  · exact g
theorem ordI_ge {a b : Int} (h : b ≤ a) : 0 ≤ ordI a b := by unfold ordI; repeat' split <;> omega

set_option maxHeartbeats 2000000 in
set_option maxRecDepth 100000 in
theorem Divided_sl {p q : Option Addr} {m n c d : Nat} {xs ys : List Int} {w : World} (hx : Sl w p m c xs) (hy : Sl w q n d ys) (dx : Dg xs) (cy : Cn ys) (hV : 0 < vl ys) (hm : m ≤ 400) (hn : n ≤ 400) :
    Calls Try.prog 116 #[.slice p m c, .slice q n d] w (DvR xs ys m n w) := by
  obtain ⟨i0, hi, hz0, hz1, hz2⟩ := info_parts info3
  have hmk := mk_ints (m : Int) m rfl (by omega)
  have HX := Lib.hid hx
  have HY := Lib.hid hy
  have DX := Lib.hid dx
  have CY := Lib.hid cy
  have HV := Lib.hid hV
  have hA0 := Lib.hid (Arr.made_fl w .i64 3 m (fun j => if j < m then 0 else dq xs (vl ys) j) (fun i hi => if_pos hi))
  clear hx hy dx cy hV
  go_enter Try.func116, Try.ntmps116
  go_wp2
  go_loopw [7, 8] (fun v j wr => ∃ (k : Nat) (r : Option Addr) (l cp : Nat), k ≤ m ∧ j = .int .i64 ((k : Int) - 1) ∧ v = .slice r l cp ∧ Hid (DI w xs ys m n k r l cp wr)) (fun _ j _ => (intOf j + 1).toNat)
  case atStart =>
    refine ⟨m, none, 0, 0, Nat.le_refl _, rfl, rfl, Lib.hid ⟨[], ⟨rfl, Nat.le_refl _, by unfold maxLen; omega, fun h => absurd h (by omega)⟩, Fr.none _, Cn.nil, by omega, ?_, hA0.out, (Gr.refl w).alloc _⟩⟩
    rw [List.drop_of_length_le (by have := HX.out.len; omega)]; simp [vl]
  case round =>
    obtain ⟨k, r, l, cp, hk, rfl, rfl, hD⟩ := hrel
    match k, hk, hD with
    | 0, hk, hD =>
      obtain ⟨rs, hS, hF, hC, hl, hv, hA, hG⟩ := hD.out
      have hA' : Arr wr w.heap.size .i64 3 (fl m (dq xs (vl ys))) := by
        rw [← fl_congr (f := fun j => if j < 0 then 0 else dq xs (vl ys) j) (g := dq xs (vl ys)) (fun i _ => if_neg (Nat.not_lt_zero i))]; exact hA
      have hq := hA'.sl (n := m) (fl_length _ _) (by unfold maxLen; omega)
      have hT := trim_sl hq
      obtain ⟨t, ht⟩ : ∃ t, tN (fl m (dq xs (vl ys))) m = t := ⟨_, rfl⟩
      have hle := tN_le (fl m (dq xs (vl ys))) m
      have hx1 := HX.out.len
      have hdg := dq_dg xs (vl ys)
      rw [hx1] at hdg
      have hq2 := trim_left hq hdg
      rw [ht] at hT hle hq2
      have hall := dq_all DX.out HV.out
      rw [hx1] at hall
      have HH := Lib.hid (And.intro hS (And.intro hv (And.intro hall hq2)))
      clear hS hv hall hq2 hA hA' hD hq hx1 ht hdg
      go_wp2_with (go_at_call 128; refine (hT).mono ?_; rintro e w1 ⟨rfl, rfl⟩)
      obtain ⟨hS, hv, hall, hq2⟩ := HH.out
      exact bodyPost_ret (v := .tuple #[.slice (some ⟨w.heap.size, 0, none⟩) t m, .slice r l cp]) (by simp [results, Try.results116, go_sem]) rfl ⟨_, t, m, _, r, l, cp, rs, rfl, hq2.1, hS, hq2.2.1, hC, hq2.2.2.trans hall, hv, hle, hl, Fr.some (Nat.le_refl _), hF.mono (Nat.le_succ _), hG⟩
    | k + 1, hk, hD =>
      obtain ⟨rs, hS, hF, hC, hl, hv, hA, hG⟩ := hD.out
      obtain ⟨b, rfl, ha⟩ := HX.out.some (by omega)
      have hx1 := Lib.hid HX.out.len
      have hkm : k < m := by omega
      have hcx := hG.keep (ha k (by rw [hx1.out]; exact hkm))
      obtain ⟨x, ex⟩ : ∃ x, xs.getD k 0 = x := ⟨_, rfl⟩
      rw [ex] at hcx
      have bx := DX.out.getD k
      rw [ex] at bx
      have EX := Lib.hid ex
      have hOne := Lib.hid (Own.of_arr (B := wr.heap.size) (n := 1) (m := 1) (Arr.new wr .i64 3 (c := #[.int .i64 x]) (xs := [x]) rfl) (Nat.le_refl _) (by unfold maxLen; simp) rfl rfl)
      have HH := Lib.hid (And.intro hS (And.intro hF (And.intro hC (And.intro hv (And.intro hA hG)))))
      have hws := hA.lt
      have hrl : ([x] ++ rs).length = 1 + l := by simp [hS.len]; omega
      have HL := Lib.hid hrl
      clear hS hF hC hv hA hG ha ex hD hrl
      have hkk : ((k : Int) + 1 - 1) = k := by omega
      go_wp2_with (first | (at_builtin; go_loud (refine wp_append_sl _ rfl (.tmp 23) (.tmp 24) 110 3 rfl i0 8 Try.underlying110 hi hz0 hz1 hz2 (by decide) wr.heap.size wr.heap.size 1 1 [x] rfl hOne.out rfl (1 + l) r l cp rs rfl (HH.out.1.alloc _) rfl (by omega) (by simp) ?_); intro g1 cap1 w2 hO2 hB2 hgr2 hg1 hg1l) | (go_at_call 128; refine (trim_sl (hO2.sl' HL.out)).mono ?_; rintro e w1 ⟨rfl, rfl⟩))
      have hB2' : Gr wr w2 := Below.trans ((Gr.refl wr).alloc _) hB2
      have HB2 := Lib.hid hB2'
      have HO2 := Lib.hid hO2
      clear hB2' hO2 hB2 hgr2
      have hge9 : 0 ≤ vl (xs.drop k) / vl ys % 10 ∧ vl (xs.drop k) / vl ys % 10 ≤ 9 := by omega
      go_loopg [7] (vl (xs.drop k) / vl ys % 10).toNat (fun g v wz => ∃ (r : Option Addr) (l cp : Nat), v = .slice r l cp ∧ Hid (DJ w xs ys m n k g r l cp wz))
      case atStart =>
        obtain ⟨hS, hF, hC, hv, hA, hG⟩ := HH.out
        have hdg : Dg ([x] ++ rs) := Dg.append (by intro d hd; simp at hd; omega) hC.1
        have hsl := HO2.out.sl' HL.out
        have htl := trim_left hsl hdg
        have hle := tN_le ([x] ++ rs) (1 + l)
        refine ⟨_, _, _, rfl, Lib.hid ⟨_, 0, htl.1, Fr.some (by omega), htl.2.1, (by have h1 : tN ([x] ++ rs) (1 + l) ≤ 1 + l := hle; simp only [List.singleton_append] at h1; omega), Int.le_refl _, (by omega), ?_, ?_, Gr.trans hG HB2.out⟩⟩
        · rw [htl.2.2, EX.out, Int.zero_mul, Int.sub_zero, ← hv]; rfl
        · have := hA.gr HB2.out
          rw [fl_congr (g := qf xs (vl ys) k 0)] at this
          · exact this
          · intro i _; unfold qf
            by_cases h1 : i < k
            · simp [h1, show i < k + 1 by omega]
            · by_cases h2 : i = k
              · simp [h2]
              · simp [h1, h2, show ¬ i < k + 1 by omega]
      case round =>
        obtain ⟨r', l', cp', rfl, hJ⟩ := hrel
        obtain ⟨rz, t, jS, jF, jC, jl, jt, jg, jv, jA, jG⟩ := hJ.out
        obtain ⟨d1, d2⟩ := dv_digit DX.out HV.out (show k < xs.length by rw [hx1.out]; exact hkm)
        rw [d1] at jg
        match gk, hJ, jg with
        | 0, hJ, jg =>
          have hz : vl rz = vl (xs.drop k) % vl ys := by rw [jv, d2]; exact dv_last (by simpa using jg)
          have hlt : vl rz < vl ys := by rw [hz]; exact Int.emod_lt_of_pos _ HV.out
          have hord := order_sl jS (HY.out.gr jG) jC CY.out (by omega) (by omega)
          rw [ordI_lt hlt] at hord
          have hln : l' ≤ n := by
            rw [← jS.len]; refine (jC.len_le n).2 ?_
            have := CY.out.bd.2; rw [HY.out.len] at this; omega
          have HJ := Lib.hid (And.intro jS (And.intro jF (And.intro jC (And.intro hz (And.intro jA (And.intro jG jg))))))
          clear jS jF jC jv jA jG hz hlt hJ d1 d2 jg jt
          go_wp2_with (go_at_call 126; refine hord.mono ?_; rintro e w3 ⟨rfl, hb⟩; have HB3 := Lib.hid hb; clear hb)
          obtain ⟨jS, jF, jC, hz, jA, jG, jg⟩ := HJ.out
          go_roundw
          case rel =>
            refine ⟨k, r', l', cp', by omega, by go_num, rfl, Lib.hid ⟨rz, jS.gr HB3.out, jF, jC, hln, hz, ?_, jG.trans HB3.out⟩⟩
            have := jA.gr HB3.out
            rw [fl_congr (g := fun j => if j < k then 0 else dq xs (vl ys) j)] at this
            · exact this
            · intro i _; unfold qf
              by_cases h1 : i < k
              · simp [h1]
              · by_cases h2 : i = k
                · subst h2; simp [dq, dv_digit DX.out HV.out (show i < xs.length by rw [hx1.out]; exact hkm)]; simpa using jg
                · simp [h1, h2]
          case measure => simp [intOf]
        | g + 1, hJ, jg =>
          have hz : vl ys ≤ vl rz := by rw [jv]; exact dv_more HV.out jg (by omega)
          have hord := order_sl jS (HY.out.gr jG) jC CY.out (by omega) (by omega)
          have ho := ordI_ge hz
          obtain ⟨o, eo⟩ : ∃ o, ordI (vl rz) (vl ys) = o := ⟨_, rfl⟩
          rw [eo] at hord ho
          have hln : n ≤ l' := by rw [← jS.len, ← HY.out.len]; exact len_of_le jC CY.out hz
          have ht9 : t ≤ 8 := by rw [← d1] at jg; omega
          have HJ := Lib.hid (And.intro jS (And.intro jF (And.intro jC (And.intro jv (And.intro jA (And.intro jG (And.intro jg hz)))))))
          clear jS jF jC jv jA jG hz hJ d1 d2 jg eo
          go_wp2_with (first | (go_at_call 126; refine hord.mono ?_; rintro e w3 ⟨rfl, hb⟩; have HB3 := Lib.hid hb; clear hb) | (go_at_call 127; refine (minus_sl (HJ.out.1.gr HB3.out) ((HY.out.gr HJ.out.2.2.2.2.2.1).gr HB3.out) HJ.out.2.2.1.1 CY.out.1 (by omega) hln HJ.out.2.2.2.2.2.2.2).mono ?_; rintro e w4 ⟨r5, l5, cp5, z5, rfl, s5, f5, ⟨v5, c5⟩, k5, b5⟩; have A5 := (HJ.out.2.2.2.2.1.gr HB3.out).gr b5; have q5 := A5.cell_fl k hkm; rw [show qf xs (vl ys) k t k = t by unfold qf; simp] at q5; have z5' := A5.frozen k; have H5 := Lib.hid (And.intro s5 (And.intro f5 (And.intro v5 (And.intro c5 (And.intro A5 b5))))); clear s5 f5 v5 c5 A5 b5))
          obtain ⟨jS, jF, jC, jv, jA, jG, jg, hz⟩ := HJ.out
          obtain ⟨s5, f5, v5, c5, A5, b5⟩ := H5.out
          have hlt := jA.lt
          have hlt3 := HB3.out.size
          go_roundg g
          case measure => omega
          case rel =>
            refine ⟨r5, l5, cp5, rfl, Lib.hid ⟨z5, t + 1, s5.setCell k _ ?_, f5.mono (by omega), c5, by omega, by omega, ?_, ?_, A5.set_fl k (t + 1) (fun i _ => qf_next _ _ _ _ _), Gr.setCell ((jG.trans HB3.out).trans b5) (by simp) _⟩⟩
            · intro a e h; have := f5 a e; omega
            · rw [(dv_digit DX.out HV.out (show k < xs.length by rw [hx1.out]; exact hkm)).1]; omega
            · rw [v5, jv, Int.add_mul]; omega
end Go.Proofs.Ytmejhccdiimmlaa
