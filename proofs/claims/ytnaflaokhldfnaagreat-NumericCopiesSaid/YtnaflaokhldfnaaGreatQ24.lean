/- Texts of the walks, merged. -/
import Derived.Test.YtnaflaokhldfnaaGreatQ23
import Derived.Deep.LoopGhost
namespace Go.Proofs.YtnaflaokhldfnaaGreat
set_option linter.unusedSimpArgs false
set_option linter.unusedVariables false
open Go.RowKit

theorem Arr.sl {w : World} {b n : Nat} {t} {xs : List Int} (h : Arr w b .i64 t xs) (hn : xs.length = n) (hm : n ≤ maxLen) : Sl w (some ⟨b, 0, none⟩) n n xs :=
  ⟨hn, Nat.le_refl _, hm, fun _ => ⟨b, rfl, fun i hi => h.cell i hi⟩⟩
/-- The quotient's digits that are known: from place k on; at k itself it is t. -/
def qf (xs : List Int) (V : Int) (k : Nat) (t : Int) (j : Nat) : Int := if j < k then 0 else if j = k then t else dq xs V j
theorem qf_next (xs : List Int) (V : Int) (k : Nat) (t : Int) (j : Nat) : qf xs V k (t + 1) j = if j = k then t + 1 else qf xs V k t j := by
  unfold qf
  by_cases h : j = k
  · subst h; simp
  · simp [h]
theorem qf_zero (xs : List Int) (V : Int) (k : Nat) (t : Int) (j : Nat) (h : t = dq xs V (k + 1)) : qf xs V (k + 1) t j = qf xs V k 0 j := by
  unfold qf
  by_cases h1 : j < k
  · simp [h1, show j < k + 1 by omega]
  · by_cases h2 : j = k
    · subst h2; simp
    · by_cases h3 : j = k + 1
      · subst h3; simp [h, show ¬ k + 1 < k by omega]
      · simp [h1, h2, h3, show ¬ j < k + 1 by omega]
def DvR (xs ys : List Int) (m n : Nat) (w : World) (e : Ending) (w' : World) : Prop :=
  ∃ r1 k1 c1 zs1 r2 k2 c2 zs2, e = .returned (.tuple #[.slice r1 k1 c1, .slice r2 k2 c2]) ∧ Sl w' r1 k1 c1 zs1 ∧ Sl w' r2 k2 c2 zs2 ∧ Cn zs1 ∧ Cn zs2 ∧ vl zs1 = vl xs / vl ys ∧ vl zs2 = vl xs % vl ys ∧ k1 ≤ m ∧ k2 ≤ n ∧ Fr w.heap.size r1 ∧ Fr w.heap.size r2 ∧ Gr w w'

/-- What holds in the outer loop. -/
def DI (w : World) (xs ys : List Int) (m n k : Nat) (r : Option Addr) (l cp : Nat) (wr : World) : Prop :=
  ∃ rs, Sl wr r l cp rs ∧ Fr (w.heap.size + 1) r ∧ Cn rs ∧ l ≤ n ∧ vl rs = vl (xs.drop k) % vl ys ∧ Arr wr w.heap.size .i64 3 (fl m (fun j => if j < k then 0 else dq xs (vl ys) j)) ∧ Gr w wr
/-- What holds in the inner loop: at most g rounds more. -/
def DJ (w : World) (xs ys : List Int) (m n k : Nat) (g : Nat) (r : Option Addr) (l cp : Nat) (wr : World) : Prop :=
  ∃ rs t, Sl wr r l cp rs ∧ Fr (w.heap.size + 1) r ∧ Cn rs ∧ l ≤ n + 1 ∧ 0 ≤ t ∧ t + g = vl (xs.drop k) / vl ys % 10 ∧ vl rs = xs.getD k 0 + 10 * (vl (xs.drop (k + 1)) % vl ys) - t * vl ys ∧ Arr wr w.heap.size .i64 3 (fl m (qf xs (vl ys) k t)) ∧ Gr w wr

theorem dv_digit {xs : List Int} {V : Int} {k : Nat} (hx : Dg xs) (hV : 0 < V) (hk : k < xs.length) :
    vl (xs.drop k) / V % 10 = (xs.getD k 0 + 10 * (vl (xs.drop (k + 1)) % V)) / V ∧ vl (xs.drop k) % V = (xs.getD k 0 + 10 * (vl (xs.drop (k + 1)) % V)) % V := by
  have b := hx.getD k
  obtain ⟨s1, s2, s3, s4⟩ := dv_step (A := vl (xs.drop (k + 1))) hV b.1 b.2
  rw [vl_drop xs hk]
  exact ⟨by rw [s1]; omega, s2⟩
theorem dv_more {z V t g : Int} (hV : 0 < V) (h : t + g = z / V) (hg : 0 < g) : V ≤ z - t * V := by
  have h1 := Int.mul_ediv_add_emod z V
  have h2 := Int.emod_nonneg z (Int.ne_of_gt hV)
  have h3 : V * (t + 1) ≤ V * (z / V) := Int.mul_le_mul_of_nonneg_left (by omega) (by omega)
  rw [Int.mul_add, Int.mul_comm V t] at h3
  omega
theorem dv_last {z V t : Int} (h : t = z / V) : z - t * V = z % V := by
  have h1 := Int.mul_ediv_add_emod z V
  rw [← h, Int.mul_comm] at h1
  omega
theorem len_of_le {xs ys : List Int} (cx : Cn xs) (cy : Cn ys) (h : vl ys ≤ vl xs) : ys.length ≤ xs.length := by
  rcases Nat.lt_or_ge xs.length ys.length with g | g
  · have := lt_len cx cy g; omega
  · exact g
theorem ordI_ge {a b : Int} (h : b ≤ a) : 0 ≤ ordI a b := by unfold ordI; repeat' split <;> omega

set_option maxHeartbeats 2000000 in
set_option maxRecDepth 100000 in
theorem Divided_sl {p q : Option Addr} {m n c d : Nat} {xs ys : List Int} {w : World} (hx : Sl w p m c xs) (hy : Sl w q n d ys) (dx : Dg xs) (cy : Cn ys) (hV : 0 < vl ys) (hm : m ≤ 400) (hn : n ≤ 400) :
    Calls Tryz.prog 92 #[.slice p m c, .slice q n d] w (DvR xs ys m n w) := by
  obtain ⟨i0, hi, hz0, hz1, hz2⟩ := info_parts info3
  have hmk := mk_ints (m : Int) m rfl (by omega)
  have HX := Lib.hid hx
  have HY := Lib.hid hy
  have DX := Lib.hid dx
  have CY := Lib.hid cy
  have HV := Lib.hid hV
  have hA0 := Lib.hid (Arr.made_fl w .i64 3 m (fun j => if j < m then 0 else dq xs (vl ys) j) (fun i hi => if_pos hi))
  clear hx hy dx cy hV
  go_enter Tryz.func92, Tryz.ntmps92
  go_wp2
  go_loopw [7, 8] (fun v j wr => ∃ (k : Nat) (r : Option Addr) (l cp : Nat), k ≤ m ∧ j = .int .i64 ((k : Int) - 1) ∧ v = .slice r l cp ∧ Hid (DI w xs ys m n k r l cp wr)) (fun _ j _ => (intOf j + 1).toNat)
  case atStart =>
    refine ⟨m, none, 0, 0, Nat.le_refl _, rfl, rfl, Lib.hid ⟨[], ⟨rfl, Nat.le_refl _, by unfold maxLen; omega, fun h => absurd h (by omega)⟩, Fr.none _, Cn.nil, by omega, ?_, hA0.out, (Gr.refl w).alloc _⟩⟩
    rw [List.drop_of_length_le (by have := HX.out.len; omega)]; simp [vl]
  case round =>
    obtain ⟨k, r, l, cp, hk, rfl, rfl, hD⟩ := hrel
    match k, hk, hD with
    | 0, hk, hD =>
      obtain ⟨rs, hS, hF, hC, hl, hv, hA, hG⟩ := hD.out
      have hA' : Arr wr w.heap.size .i64 3 (fl m (dq xs (vl ys))) := by
        rw [← fl_congr (f := fun j => if j < 0 then 0 else dq xs (vl ys) j) (g := dq xs (vl ys)) (fun i _ => if_neg (Nat.not_lt_zero i))]; exact hA
      have hq := hA'.sl (n := m) (fl_length _ _) (by unfold maxLen; omega)
      have hT := trim_sl hq
      obtain ⟨t, ht⟩ : ∃ t, tN (fl m (dq xs (vl ys))) m = t := ⟨_, rfl⟩
      have hle := tN_le (fl m (dq xs (vl ys))) m
      have hx1 := HX.out.len
      have hdg := dq_dg xs (vl ys)
      rw [hx1] at hdg
      have hq2 := trim_left hq hdg
      rw [ht] at hT hle hq2
      have hall := dq_all DX.out HV.out
      rw [hx1] at hall
      have HH := Lib.hid (And.intro hS (And.intro hv (And.intro hall hq2)))
      clear hS hv hall hq2 hA hA' hD hq hx1 ht hdg
      go_wp2_with (go_at_call 93; refine (hT).mono ?_; rintro e w1 ⟨rfl, rfl⟩)
      obtain ⟨hS, hv, hall, hq2⟩ := HH.out
      exact bodyPost_ret (v := .tuple #[.slice (some ⟨w.heap.size, 0, none⟩) t m, .slice r l cp]) (by simp [results, Tryz.results92, go_sem]) rfl ⟨_, t, m, _, r, l, cp, rs, rfl, hq2.1, hS, hq2.2.1, hC, hq2.2.2.trans hall, hv, hle, hl, Fr.some (Nat.le_refl _), hF.mono (Nat.le_succ _), hG⟩
    | k + 1, hk, hD =>
      obtain ⟨rs, hS, hF, hC, hl, hv, hA, hG⟩ := hD.out
      obtain ⟨b, rfl, ha⟩ := HX.out.some (by omega)
      have hx1 := Lib.hid HX.out.len
      have hkm : k < m := by omega
      have hcx := hG.keep (ha k (by rw [hx1.out]; exact hkm))
      obtain ⟨x, ex⟩ : ∃ x, xs.getD k 0 = x := ⟨_, rfl⟩
      rw [ex] at hcx
      have bx := DX.out.getD k
      rw [ex] at bx
      have EX := Lib.hid ex
      have hOne := Lib.hid (Own.of_arr (B := wr.heap.size) (n := 1) (m := 1) (Arr.new wr .i64 3 (c := #[.int .i64 x]) (xs := [x]) rfl) (Nat.le_refl _) (by unfold maxLen; simp) rfl rfl)
      have HH := Lib.hid (And.intro hS (And.intro hF (And.intro hC (And.intro hv (And.intro hA hG)))))
      have hws := hA.lt
      have hrl : ([x] ++ rs).length = 1 + l := by simp [hS.len]; omega
      have HL := Lib.hid hrl
      clear hS hF hC hv hA hG ha ex hD hrl
      have hkk : ((k : Int) + 1 - 1) = k := by omega
      go_wp2_with (first | (at_builtin; go_loud (refine wp_append_sl _ rfl (.tmp 23) (.tmp 24) 84 3 rfl i0 8 Tryz.underlying84 hi hz0 hz1 hz2 (by decide) wr.heap.size wr.heap.size 1 1 [x] rfl hOne.out rfl (1 + l) r l cp rs rfl (HH.out.1.alloc _) rfl (by omega) (by simp) ?_); intro g1 cap1 w2 hO2 hB2 hgr2 hg1 hg1l) | (go_at_call 93; refine (trim_sl (hO2.sl' HL.out)).mono ?_; rintro e w1 ⟨rfl, rfl⟩))
      have hB2' : Gr wr w2 := Below.trans ((Gr.refl wr).alloc _) hB2
      have HB2 := Lib.hid hB2'
      have HO2 := Lib.hid hO2
      clear hB2' hO2 hB2 hgr2
      have hge9 : 0 ≤ vl (xs.drop k) / vl ys % 10 ∧ vl (xs.drop k) / vl ys % 10 ≤ 9 := by omega
      go_loopg [7] (vl (xs.drop k) / vl ys % 10).toNat (fun g v wz => ∃ (r : Option Addr) (l cp : Nat), v = .slice r l cp ∧ Hid (DJ w xs ys m n k g r l cp wz))
      case atStart =>
        obtain ⟨hS, hF, hC, hv, hA, hG⟩ := HH.out
        have hdg : Dg ([x] ++ rs) := Dg.append (by intro d hd; simp at hd; omega) hC.1
        have hsl := HO2.out.sl' HL.out
        have htl := trim_left hsl hdg
        have hle := tN_le ([x] ++ rs) (1 + l)
        refine ⟨_, _, _, rfl, Lib.hid ⟨_, 0, htl.1, Fr.some (by omega), htl.2.1, (by have h1 : tN ([x] ++ rs) (1 + l) ≤ 1 + l := hle; simp only [List.singleton_append] at h1; omega), Int.le_refl _, (by omega), ?_, ?_, Gr.trans hG HB2.out⟩⟩
        · rw [htl.2.2, EX.out, Int.zero_mul, Int.sub_zero, ← hv]; rfl
        · have := hA.gr HB2.out
          rw [fl_congr (g := qf xs (vl ys) k 0)] at this
          · exact this
          · intro i _; unfold qf
            by_cases h1 : i < k
            · simp [h1, show i < k + 1 by omega]
            · by_cases h2 : i = k
              · simp [h2]
              · simp [h1, h2, show ¬ i < k + 1 by omega]
      case round =>
        obtain ⟨r', l', cp', rfl, hJ⟩ := hrel
        obtain ⟨rz, t, jS, jF, jC, jl, jt, jg, jv, jA, jG⟩ := hJ.out
        obtain ⟨d1, d2⟩ := dv_digit DX.out HV.out (show k < xs.length by rw [hx1.out]; exact hkm)
        rw [d1] at jg
        match gk, hJ, jg with
        | 0, hJ, jg =>
          have hz : vl rz = vl (xs.drop k) % vl ys := by rw [jv, d2]; exact dv_last (by simpa using jg)
          have hlt : vl rz < vl ys := by rw [hz]; exact Int.emod_lt_of_pos _ HV.out
          have hord := order_sl jS (HY.out.gr jG) jC CY.out (by omega) (by omega)
          rw [ordI_lt hlt] at hord
          have hln : l' ≤ n := by
            rw [← jS.len]; refine (jC.len_le n).2 ?_
            have := CY.out.bd.2; rw [HY.out.len] at this; omega
          have HJ := Lib.hid (And.intro jS (And.intro jF (And.intro jC (And.intro hz (And.intro jA (And.intro jG jg))))))
          clear jS jF jC jv jA jG hz hlt hJ d1 d2 jg jt
          go_wp2_with (go_at_call 94; refine hord.mono ?_; rintro e w3 ⟨rfl, hb⟩; have HB3 := Lib.hid hb; clear hb)
          obtain ⟨jS, jF, jC, hz, jA, jG, jg⟩ := HJ.out
          go_roundw
          case rel =>
            refine ⟨k, r', l', cp', by omega, by go_num, rfl, Lib.hid ⟨rz, jS.gr HB3.out, jF, jC, hln, hz, ?_, jG.trans HB3.out⟩⟩
            have := jA.gr HB3.out
            rw [fl_congr (g := fun j => if j < k then 0 else dq xs (vl ys) j)] at this
            · exact this
            · intro i _; unfold qf
              by_cases h1 : i < k
              · simp [h1]
              · by_cases h2 : i = k
                · subst h2; simp [dq, dv_digit DX.out HV.out (show i < xs.length by rw [hx1.out]; exact hkm)]; simpa using jg
                · simp [h1, h2]
          case measure => simp [intOf]
        | g + 1, hJ, jg =>
          have hz : vl ys ≤ vl rz := by rw [jv]; exact dv_more HV.out jg (by omega)
          have hord := order_sl jS (HY.out.gr jG) jC CY.out (by omega) (by omega)
          have ho := ordI_ge hz
          obtain ⟨o, eo⟩ : ∃ o, ordI (vl rz) (vl ys) = o := ⟨_, rfl⟩
          rw [eo] at hord ho
          have hln : n ≤ l' := by rw [← jS.len, ← HY.out.len]; exact len_of_le jC CY.out hz
          have ht9 : t ≤ 8 := by rw [← d1] at jg; omega
          have HJ := Lib.hid (And.intro jS (And.intro jF (And.intro jC (And.intro jv (And.intro jA (And.intro jG (And.intro jg hz)))))))
          clear jS jF jC jv jA jG hz hJ d1 d2 jg eo
          go_wp2_with (first | (go_at_call 94; refine hord.mono ?_; rintro e w3 ⟨rfl, hb⟩; have HB3 := Lib.hid hb; clear hb) | (go_at_call 102; refine (minus_sl (HJ.out.1.gr HB3.out) ((HY.out.gr HJ.out.2.2.2.2.2.1).gr HB3.out) HJ.out.2.2.1.1 CY.out.1 (by omega) hln HJ.out.2.2.2.2.2.2.2).mono ?_; rintro e w4 ⟨r5, l5, cp5, z5, rfl, s5, f5, ⟨v5, c5⟩, k5, b5⟩; have A5 := (HJ.out.2.2.2.2.1.gr HB3.out).gr b5; have q5 := A5.cell_fl k hkm; rw [show qf xs (vl ys) k t k = t by unfold qf; simp] at q5; have z5' := A5.frozen k; have H5 := Lib.hid (And.intro s5 (And.intro f5 (And.intro v5 (And.intro c5 (And.intro A5 b5))))); clear s5 f5 v5 c5 A5 b5))
          obtain ⟨jS, jF, jC, jv, jA, jG, jg, hz⟩ := HJ.out
          obtain ⟨s5, f5, v5, c5, A5, b5⟩ := H5.out
          have hlt := jA.lt
          have hlt3 := HB3.out.size
          go_roundg g
          case measure => omega
          case rel =>
            refine ⟨r5, l5, cp5, rfl, Lib.hid ⟨z5, t + 1, s5.setCell k _ ?_, f5.mono (by omega), c5, by omega, by omega, ?_, ?_, A5.set_fl k (t + 1) (fun i _ => qf_next _ _ _ _ _), Gr.setCell ((jG.trans HB3.out).trans b5) (by simp) _⟩⟩
            · intro a e h; have := f5 a e; omega
            · rw [(dv_digit DX.out HV.out (show k < xs.length by rw [hx1.out]; exact hkm)).1]; omega
            · rw [v5, jv, Int.add_mul]; omega
end Go.Proofs.YtnaflaokhldfnaaGreat
namespace Go.Proofs.YtnaflaokhldfnaaGreat
set_option linter.unusedSimpArgs false
set_option linter.unusedVariables false
open Go.RowKit

theorem cellsM {a b : World} (h : Gr a b) (n : Nat) (hn : n ≤ a.heap.size) : (∀ k o, k < n → b.cell? ⟨k, o, none⟩ = a.cell? ⟨k, o, none⟩) ∧ (∀ k o, k < n → b.frozen? ⟨k, o, none⟩ = a.frozen? ⟨k, o, none⟩) :=
  ⟨fun k o hk => h.cells.1 k o (by omega), fun k o hk => h.cells.2 k o (by omega)⟩
/-- A long number is returned: its sign, its amount. -/
def LongR (neg : Bool) (v : Int) (w : World) (e : Ending) (w' : World) : Prop :=
  ∃ p k c xs, e = .returned (.agg #[.bool neg, .slice p k c]) ∧ Sl w' p k c xs ∧ Cn xs ∧ vl xs = v ∧ Fr w.heap.size p ∧ Gr w w'
theorem LongOf_sl (n : Int) (z : Nat) (Z : Int) (hZ : Z = z) (hz : z ≤ 100) (h : -1000000000000000000 ≤ n) (h' : n ≤ 1000000000000000000) (w : World) :
    Calls Tryz.prog 76 #[.int .i64 n, .int .i64 Z] w (LongR (decide (n < 0)) (absI n * 10 ^ z) w) := by
  refine (LongOf_any n z Z hZ hz h h' w).mono fun e w' h => ?_
  obtain ⟨g, cap, xs, k, rfl, h1, h2, h3, h4, h5, h6, h7, h8⟩ := h
  exact ⟨_, k, cap, xs, rfl, ⟨h1, h2, h3, fun _ => ⟨g, rfl, h5⟩⟩, h6, h7, Fr.some h4, h8⟩
def PowR (n : Nat) (w : World) (e : Ending) (w' : World) : Prop :=
  ∃ p k c xs, e = .returned (.slice p k c) ∧ Sl w' p k c xs ∧ Cn xs ∧ vl xs = 10 ^ n ∧ k = n + 1 ∧ Fr w.heap.size p ∧ Gr w w'
theorem power_pr (n : Nat) (N : Int) (hN : N = n) (hb : n ≤ 1000) (w : World) : Calls Tryz.prog 77 #[.int .i64 N] w (PowR n w) := by
  refine (power_sl n N hN hb w).mono fun e w' h => ?_
  obtain ⟨p, cap, xs, rfl, h1, h2, h3, h4, h5⟩ := h
  exact ⟨p, n + 1, cap, xs, rfl, h1, h2, h3, rfl, h5, h4⟩
/-- A fraction is returned. -/
def FracR (neg : Bool) (v b : Int) (w : World) (e : Ending) (w' : World) : Prop :=
  ∃ p k c xs q l d ys, e = .returned (.agg #[.bool neg, .slice p k c, .slice q l d]) ∧ Sl w' p k c xs ∧ Cn xs ∧ vl xs = v ∧ Sl w' q l d ys ∧ Cn ys ∧ vl ys = b ∧ Fr w.heap.size p ∧ Fr w.heap.size q ∧ Gr w w'

set_option maxHeartbeats 2000000 in
set_option maxRecDepth 100000 in
theorem FractionOf_any (n : Int) (s : Nat) (S : Int) (hS : S = s) (hs : s ≤ 100) (h : -1000000000000000000 ≤ n) (h' : n ≤ 1000000000000000000) (w : World) :
    Calls Tryz.prog 48 #[.agg #[.int .i64 n, .int .i64 S]] w (FracR (decide (n < 0)) (absI n) (10 ^ s) w) := by
  have hL : ∀ w, Calls Tryz.prog 76 #[.int .i64 n, .int .i64 0] w (LongR (decide (n < 0)) (absI n) w) := fun w => by
    have := LongOf_sl n 0 0 rfl (by omega) h h' w
    simpa using this
  have hP : ∀ w, Calls Tryz.prog 77 #[.int .i64 S] w (PowR s w) := fun w => power_pr s S hS (by omega) w
  clear h h' hS
  go_enter Tryz.func48, Tryz.ntmps48
  go_wp2
  go_region_held3 (fun w' => w'.cell? ⟨w.heap.size, 0, none⟩ = some (.int .i64 n) ∧ w'.cell? ⟨w.heap.size, 1, none⟩ = some (.int .i64 S)) (first | (go_keep; done) | ((try go_split_ands); (repeat' apply And.intro) <;> ((try simp only [World.cell?_drew]); first | (with_reducible assumption) | (refine hb.keep ?_; (try simp only [World.cell?_drew]); first | (with_reducible assumption) | (simp [*, go_sem]; done)) | (simp [*, go_sem]; done)))) (first | (go_at_call 76; refine (hL _).mono ?_; rintro e wL ⟨p, k, c, xs, rfl, sL, cL, vL, rL, hb⟩; have rL2 := Lib.hid (rL.mono (show w.heap.size + 2 ≤ _ by first | exact hz | (simp; done) | (simp; omega))); clear rL; (obtain ⟨hc, hf⟩ := cellsM hb (w.heap.size + 2) (by first | exact hz | omega | (simp; done) | (simp; omega)); have hz : w.heap.size + 2 ≤ wL.heap.size := (by have h := Gr.size hb; (try simp at h); omega); have hz0 : w.heap.size < wL.heap.size := (by omega); have hz1 : w.heap.size + 1 < wL.heap.size := (by omega)); have gL := Lib.hid hb; have fL := Lib.hid (And.intro sL (And.intro cL vL)); clear sL cL vL) | (go_at_call 77; refine (hP _).mono ?_; rintro e wP ⟨q, l, d, ys, rfl, sP, cP, vP, lP, rP, hb⟩; have rP2 := Lib.hid (rP.mono (show w.heap.size + 2 ≤ _ by first | exact hz | (simp; done) | (simp; omega))); clear rP; (obtain ⟨hc, hf⟩ := cellsM hb (w.heap.size + 2) (by first | exact hz | omega | (simp; done) | (simp; omega)); have hz : w.heap.size + 2 ≤ wP.heap.size := (by have h := Gr.size hb; (try simp at h); omega); have hz0 : w.heap.size < wP.heap.size := (by omega); have hz1 : w.heap.size + 1 < wP.heap.size := (by omega)); have gP := Lib.hid hb; have fP := Lib.hid (And.intro sP (And.intro cP (And.intro vP lP))); clear sP cP vP lP))
  all_goals
    go_wp2
    obtain ⟨sL, cL, vL⟩ := fL.out
    obtain ⟨sP, cP, vP, lP⟩ := fP.out
    have n1 : ∀ a, p = some a → a.block ≠ w.heap.size + 1 := fun a e h => by have := rL2.out a e; omega
    have n2 : ∀ a, q = some a → a.block ≠ w.heap.size + 1 := fun a e h => by have := rP2.out a e; omega
    refine bodyPost_ret (v := .agg #[.bool (decide (n < 0)), .slice p k c, .slice q l d]) (by simp [results, Tryz.results48, go_sem, *]) rfl ?_
    first
    | exact ⟨p, k, c, xs, q, l, d, ys, rfl, (((sL.gr gP.out).setCell _ _ n1).setCell _ _ n1).setCell _ _ n1, cL, vL, ((sP.setCell _ _ n2).setCell _ _ n2).setCell _ _ n2, cP, vP, rL2.out.mono (by omega), rP2.out.mono (by omega), (by repeat (first | (with_reducible exact Gr.refl _) | (with_reducible assumption) | (with_reducible refine Gr.alloc ?_ _) | (with_reducible refine Gr.drew ?_) | (with_reducible refine Gr.drewN ?_ _) | (with_reducible refine Gr.setCell ?_ (by simp <;> omega) _) | (with_reducible refine Gr.trans ?_ (by with_reducible assumption)) | exact Gr.refl _ | assumption | refine Gr.alloc ?_ _ | refine Gr.drew ?_ | refine Gr.drewN ?_ _ | refine Gr.setCell ?_ (by simp <;> omega) _ | refine Gr.trans ?_ (by assumption)))⟩
    | exact ⟨p, k, c, xs, q, l, d, ys, rfl, ((sL.setCell _ _ n1).setCell _ _ n1).setCell _ _ n1, cL, vL, (((sP.gr gL.out).setCell _ _ n2).setCell _ _ n2).setCell _ _ n2, cP, vP, rL2.out.mono (by omega), rP2.out.mono (by omega), (by repeat (first | (with_reducible exact Gr.refl _) | (with_reducible assumption) | (with_reducible refine Gr.alloc ?_ _) | (with_reducible refine Gr.drew ?_) | (with_reducible refine Gr.drewN ?_ _) | (with_reducible refine Gr.setCell ?_ (by simp <;> omega) _) | (with_reducible refine Gr.trans ?_ (by with_reducible assumption)) | exact Gr.refl _ | assumption | refine Gr.alloc ?_ _ | refine Gr.drew ?_ | refine Gr.drewN ?_ _ | refine Gr.setCell ?_ (by simp <;> omega) _ | refine Gr.trans ?_ (by assumption)))⟩
end Go.Proofs.YtnaflaokhldfnaaGreat
namespace Go.Proofs.YtnaflaokhldfnaaGreat
set_option linter.unusedSimpArgs false
set_option linter.unusedVariables false
open Go.RowKit

/-- A long number is returned: below 0 only if it is not 0; its amount. -/
def WhR (b : Bool) (v : Int) (w : World) (e : Ending) (w' : World) : Prop :=
  ∃ p k c xs, e = .returned (.agg #[.bool (b && decide (0 < k)), .slice p k c]) ∧ Sl w' p k c xs ∧ Cn xs ∧ vl xs = v ∧ Gr w w'

theorem order_lt {p q : Option Addr} {m n c d : Nat} {xs ys : List Int} {w : World} (hx : Sl w p m c xs) (hy : Sl w q n d ys) (cx : Cn xs) (cy : Cn ys) (hm : m ≤ 100000) (hn : n ≤ 100000) (h : vl xs < vl ys) :
    Calls Tryz.prog 94 #[.slice p m c, .slice q n d] w fun e w' => e = .returned (.int .i64 (-1)) ∧ Gr w w' :=
  (order_sl hx hy cx cy hm hn).mono fun e w' k => ⟨by rw [k.1, ordI_lt h], k.2⟩
theorem order_ge {p q : Option Addr} {m n c d : Nat} {xs ys : List Int} {w : World} (hx : Sl w p m c xs) (hy : Sl w q n d ys) (cx : Cn xs) (cy : Cn ys) (hm : m ≤ 100000) (hn : n ≤ 100000) (h : vl ys ≤ vl xs) :
    Calls Tryz.prog 94 #[.slice p m c, .slice q n d] w fun e w' => ∃ o, 0 ≤ o ∧ e = .returned (.int .i64 o) ∧ Gr w w' :=
  (order_sl hx hy cx cy hm hn).mono fun e w' k => ⟨_, ordI_ge h, k.1, k.2⟩
theorem rq_at {A V : Int} (hA : 0 ≤ A) (hV : 0 < V) (z : Nat) (half : Bool) : ((rq (A.toNat * 10 ^ z) V.toNat half : Nat) : Int) = A * 10 ^ z / V + (if half ∧ V ≤ 2 * (A * 10 ^ z % V) then 1 else 0) := by
  obtain ⟨a, rfl⟩ := Int.eq_ofNat_of_zero_le hA
  obtain ⟨v, rfl⟩ := Int.eq_ofNat_of_zero_le (Int.le_of_lt hV)
  unfold rq
  have e : ((a : Int) * 10 ^ z) = ((a * 10 ^ z : Nat) : Int) := by push_cast; rfl
  rw [Int.toNat_natCast, Int.toNat_natCast, e]
  have e2 : (v : Int) ≤ 2 * (((a * 10 ^ z : Nat) : Int) % v) ↔ v ≤ 2 * (a * 10 ^ z % v) := by
    rw [← Int.natCast_emod]; omega
  simp only [e2]
  push_cast
  split <;> simp
/-- The quotient's slice in the world behind the test. -/
def QL (w : World) (b : Bool) (v : Int) (r : Option Addr) (k u : Nat) (wz : World) : Prop := ∃ zs, Sl wz r k u zs ∧ Cn zs ∧ vl zs = v ∧ Fr (w.heap.size + 2) r ∧ Gr w wz
theorem QL.gr {w wz w' : World} {b v r k u} (h : QL w b v r k u wz) (g : Gr wz w') : QL w b v r k u w' := by
  obtain ⟨zs, h1, h2, h3, h4, h5⟩ := h
  exact ⟨zs, h1.gr g, h2, h3, h4, h5.trans g⟩
theorem QL.fin {w wz : World} {b v r k u} (h : QL w b v r k u wz) (x y : Value) : ∃ zs, Sl ((wz.setCell ⟨w.heap.size + 1, 0, none⟩ x).setCell ⟨w.heap.size + 1, 1, none⟩ y) r k u zs ∧ Cn zs ∧ vl zs = v ∧ Gr w ((wz.setCell ⟨w.heap.size + 1, 0, none⟩ x).setCell ⟨w.heap.size + 1, 1, none⟩ y) := by
  obtain ⟨zs, h1, h2, h3, h4, h5⟩ := h
  have n1 : ∀ a, r = some a → a.block ≠ w.heap.size + 1 := fun a e h => by have := h4 a e; omega
  exact ⟨zs, (h1.setCell _ _ n1).setCell _ _ n1, h2, h3, Gr.setCell (Gr.setCell h5 (by simp) _) (by simp) _⟩

set_option maxHeartbeats 2000000 in
set_option maxRecDepth 100000 in
theorem Whole_any (b : Bool) {p q : Option Addr} {m n c d : Nat} {xs ys : List Int} (half : Bool) (z : Nat) (Z : Int) (hZ : Z = z) (hz : z ≤ 100) {w : World} (hx : Sl w p m c xs) (hy : Sl w q n d ys) (cx : Cn xs) (cy : Cn ys) (hV : 0 < vl ys) (hm : m ≤ 100) (hn : n ≤ 100) :
    Calls Tryz.prog 74 #[.agg #[.bool b, .slice p m c, .slice q n d], .int .i64 Z, .bool half] w (WhR b (rq ((vl xs).toNat * 10 ^ z) (vl ys).toNat half : Nat) w) := by
  obtain ⟨i0, hi, hz0, hz1, hz2⟩ := info_parts info3
  have hmk := mk_ints Z z hZ (by omega)
  have HX := Lib.hid hx
  have HY := Lib.hid hy
  have CX := Lib.hid cx
  have CY := Lib.hid cy
  have HV := Lib.hid hV
  clear hx hy cx cy hV hZ
  go_enter Tryz.func74, Tryz.ntmps74
  go_wp2
  have hOwn : Hid (Own ((((w.alloc (.cells #[.bool b, .slice p m c, .slice q n d] 88)).alloc (.cells #[.bool false, .slice none 0 0] 86)).alloc (.cells (mkz .i64 z) 3)).drew) (w.heap.size + 2) .i64 3 (.slice (some ⟨w.heap.size + 2, 0, none⟩) z z) (List.replicate z 0)) := by
    have h := Own.of_arr (B := w.heap.size + 2) (n := z) (m := z) (Arr.made ((w.alloc (.cells #[.bool b, .slice p m c, .slice q n d] 88)).alloc (.cells #[.bool false, .slice none 0 0] 86)) .i64 3 z) (by simp) (by unfold maxLen; simp; omega) (by simp) (by simp)
    simp only [World.size_alloc] at h
    exact h
  have hSl : Hid (Sl ((((w.alloc (.cells #[.bool b, .slice p m c, .slice q n d] 88)).alloc (.cells #[.bool false, .slice none 0 0] 86)).alloc (.cells (mkz .i64 z) 3)).drew) p m c xs) := HX.out.gr (by repeat (first | (with_reducible exact Gr.refl _) | (with_reducible assumption) | (with_reducible refine Gr.alloc ?_ _) | (with_reducible refine Gr.drew ?_) | (with_reducible refine Gr.drewN ?_ _) | (with_reducible refine Gr.setCell ?_ (by simp <;> omega) _) | (with_reducible refine Gr.trans ?_ (by with_reducible assumption)) | exact Gr.refl _ | assumption | refine Gr.alloc ?_ _ | refine Gr.drew ?_ | refine Gr.drewN ?_ _ | refine Gr.setCell ?_ (by simp <;> omega) _ | refine Gr.trans ?_ (by assumption)))
  have hGd : Hid (Gr w ((((w.alloc (.cells #[.bool b, .slice p m c, .slice q n d] 88)).alloc (.cells #[.bool false, .slice none 0 0] 86)).alloc (.cells (mkz .i64 z) 3)).drew)) := (by repeat (first | (with_reducible exact Gr.refl _) | (with_reducible assumption) | (with_reducible refine Gr.alloc ?_ _) | (with_reducible refine Gr.drew ?_) | (with_reducible refine Gr.drewN ?_ _) | (with_reducible refine Gr.setCell ?_ (by simp <;> omega) _) | (with_reducible refine Gr.trans ?_ (by with_reducible assumption)) | exact Gr.refl _ | assumption | refine Gr.alloc ?_ _ | refine Gr.drew ?_ | refine Gr.drewN ?_ _ | refine Gr.setCell ?_ (by simp <;> omega) _ | refine Gr.trans ?_ (by assumption)))
  go_region_held3 (fun w' => w'.cell? ⟨w.heap.size, 0, none⟩ = some (.bool b) ∧ w'.cell? ⟨w.heap.size, 1, none⟩ = some (.slice p m c) ∧ w'.cell? ⟨w.heap.size, 2, none⟩ = some (.slice q n d)) (first | (first | (go_keep; done) | ((try go_split_ands); (repeat' apply And.intro) <;> ((try simp only [World.cell?_drew]); first | (with_reducible assumption) | (refine hb.keep ?_; (try simp only [World.cell?_drew]); first | (with_reducible assumption) | (simp [*, go_sem]; done)) | (simp [*, go_sem]; done)))) | (exact ⟨keepc hB2 (by simp) (by first | (simp; done) | (simp [go_sem]; done)), keepc hB2 (by simp) (by first | (simp; done) | (simp [go_sem]; done)), keepc hB2 (by simp) (by first | (simp; done) | (simp [go_sem]; done))⟩)) ((refine step_append_sl _ (by rfl) (.tmp 11) (.tmp 14) 84 3 (by rfl) i0 8 Tryz.underlying84 hi hz0 hz1 hz2 (by decide) (w.heap.size + 2) (w.heap.size + 2) z z (List.replicate z 0) (by rfl) hOwn.out (by simp) (z + m) p m c xs (by rfl) hSl.out rfl (by omega) (by simp) ?_; intro g1 cap1 w2 hO2 hB2 hgr2 hg1 hg1l))
  rename_i hH
  obtain ⟨c0, c1, c2⟩ := hH
  have d0 : w2.cell? ⟨w.heap.size + 1, 0, none⟩ = some (.bool false) := keepc hB2 (by simp) (by first | (simp; done) | (simp [go_sem]; done))
  have d1 : w2.cell? ⟨w.heap.size + 1, 1, none⟩ = some (.slice none 0 0) := keepc hB2 (by simp) (by first | (simp; done) | (simp [go_sem]; done))
  have e0 : w2.frozen? ⟨w.heap.size + 1, 0, none⟩ = false := (Below.frozen hB2 (p := ⟨w.heap.size + 1, 0, none⟩) (by simp)).trans (by simp [go_sem])
  have e1 : w2.frozen? ⟨w.heap.size + 1, 1, none⟩ = false := (Below.frozen hB2 (p := ⟨w.heap.size + 1, 1, none⟩) (by simp)).trans (by simp [go_sem])
  have hz2' : w.heap.size + 2 ≤ w2.heap.size := by omega
  have G2 := Lib.hid (show Gr w w2 from Below.trans hGd.out (Below.mono hB2 (by omega)))
  have hts := hO2.sl' (show (List.replicate z 0 ++ xs).length = z + m by simp [HX.out.len])
  have hdg : Dg (List.replicate z 0 ++ xs) := (Dg.zeros z).append CX.out.1
  have hv : vl (List.replicate z 0 ++ xs) = vl xs * 10 ^ z := by rw [vl_append, vl_zeros]; simp [Int.mul_comm]
  obtain ⟨ts, ets⟩ : ∃ ts, List.replicate z 0 ++ xs = ts := ⟨_, rfl⟩
  rw [ets] at hts hdg hv
  obtain ⟨t, et⟩ : ∃ t, tN ts (z + m) = t := ⟨_, rfl⟩
  have htl := trim_left hts hdg
  have htt : t ≤ z + m := by rw [← et]; exact tN_le _ _
  have hT : ∀ wz, Gr w2 wz → Calls Tryz.prog 93 #[.slice (some ⟨g1, 0, none⟩) (z + m) cap1] wz fun e w' => e = .returned (.slice (some ⟨g1, 0, none⟩) t cap1) ∧ wz = w' := fun wz g => by
    have := trim_sl (hts.gr g); rw [et] at this; exact this
  rw [et] at htl
  have hD : ∀ wz, Gr w2 wz → Calls Tryz.prog 92 #[.slice (some ⟨g1, 0, none⟩) t cap1, .slice q n d] wz (DvR (ts.take t) ys t n wz) := fun wz g =>
    Divided_sl (htl.1.gr g) (HY.out.gr (G2.out.trans g)) htl.2.1.1 CY.out HV.out (by omega) (by omega)
  have HV2 := Lib.hid (htl.2.2.trans hv)
  clear hO2 hB2 hgr2 hts htl hv ets et hdg hOwn hSl hGd
  go_wp2
  go_region_held3 (fun w' => w'.cell? ⟨w.heap.size, 0, none⟩ = some (.bool b) ∧ w'.cell? ⟨w.heap.size, 1, none⟩ = some (.slice p m c) ∧ w'.cell? ⟨w.heap.size, 2, none⟩ = some (.slice q n d)) (first | (go_keep; done) | ((try go_split_ands); (repeat' apply And.intro) <;> ((try simp only [World.cell?_drew]); first | (with_reducible assumption) | (refine hb.keep ?_; (try simp only [World.cell?_drew]); first | (with_reducible assumption) | (simp [*, go_sem]; done)) | (simp [*, go_sem]; done)))) (first | (go_at_call 93; refine (hT _ (by repeat (first | (with_reducible exact Gr.refl _) | (with_reducible assumption) | (with_reducible refine Gr.alloc ?_ _) | (with_reducible refine Gr.drew ?_) | (with_reducible refine Gr.drewN ?_ _) | (with_reducible refine Gr.setCell ?_ (by simp <;> omega) _) | (with_reducible refine Gr.trans ?_ (by with_reducible assumption)) | exact Gr.refl _ | assumption | refine Gr.alloc ?_ _ | refine Gr.drew ?_ | refine Gr.drewN ?_ _ | refine Gr.setCell ?_ (by simp <;> omega) _ | refine Gr.trans ?_ (by assumption)))).mono ?_; rintro e w1 ⟨rfl, rfl⟩) | (go_at_call 92; refine (hD _ (by repeat (first | (with_reducible exact Gr.refl _) | (with_reducible assumption) | (with_reducible refine Gr.alloc ?_ _) | (with_reducible refine Gr.drew ?_) | (with_reducible refine Gr.drewN ?_ _) | (with_reducible refine Gr.setCell ?_ (by simp <;> omega) _) | (with_reducible refine Gr.trans ?_ (by with_reducible assumption)) | exact Gr.refl _ | assumption | refine Gr.alloc ?_ _ | refine Gr.drew ?_ | refine Gr.drewN ?_ _ | refine Gr.setCell ?_ (by simp <;> omega) _ | refine Gr.trans ?_ (by assumption)))).mono ?_; rintro e w3 ⟨r1, k1, u1, zs1, r2, k2, u2, zs2, rfl, s1, s2, n1, n2, v1, v2, l1, l2, f1, f2, hb⟩))
  rename_i hH
  have G3 := Lib.hid (show Gr w2 w3 from ((Gr.refl w2).drew).trans hb)
  obtain ⟨x0, x1⟩ := G3.out.cells
  have hlt2 : w.heap.size + 1 < w2.heap.size := by omega
  have y0 : w3.cell? ⟨w.heap.size + 1, 0, none⟩ = some (.bool false) := G3.out.keep d0
  have y1 : w3.cell? ⟨w.heap.size + 1, 1, none⟩ = some (.slice none 0 0) := G3.out.keep d1
  have y2 : w3.frozen? ⟨w.heap.size + 1, 0, none⟩ = false := (x1 _ _ hlt2).trans e0
  have y3 : w3.frozen? ⟨w.heap.size + 1, 1, none⟩ = false := (x1 _ _ hlt2).trans e1
  obtain ⟨b0, b1, b2⟩ := hH
  have hz3 : w.heap.size + 2 ≤ w3.heap.size := Nat.le_trans hz2' G3.out.size
  have GW := Lib.hid (G2.out.trans G3.out)
  have HQ := Lib.hid (And.intro s1 (And.intro n1 (And.intro (v1.trans (by rw [HV2.out])) (f1.mono (show w.heap.size + 2 ≤ _ from hz2')))))
  have HR := Lib.hid (And.intro s2 (And.intro n2 (v2.trans (by rw [HV2.out]))))
  have hr := rq_at CX.out.bd.1 HV.out z half
  clear s1 s2 n1 n2 v1 v2 f1 f2 hb x0 x1 d0 d1 e0 e1 c0 c1 c2 hT hD hz2' hg1 hg1l
  generalize ((rq ((vl xs).toNat * 10 ^ z) (vl ys).toNat half : Nat) : Int) = RQ at *
  cases half
  · rw [if_neg (by simp), Int.add_zero] at hr
    have hQ := Lib.hid (show QL w b RQ r1 k1 u1 w3 from ⟨zs1, HQ.out.1, HQ.out.2.1, by rw [hr]; exact HQ.out.2.2.1, HQ.out.2.2.2, GW.out⟩)
    clear hr
    go_wp2
    go_quiet (fail)
    (cases b; (by_cases hk : 0 < k1; (go_wp2; obtain ⟨zs, q1, q2, q3, q4⟩ := (QL.gr hQ.out (w' := w3.drewN nq) (by repeat (first | (with_reducible exact Gr.refl _) | (with_reducible assumption) | (with_reducible refine Gr.alloc ?_ _) | (with_reducible refine Gr.drew ?_) | (with_reducible refine Gr.drewN ?_ _) | (with_reducible refine Gr.setCell ?_ (by simp <;> omega) _) | (with_reducible refine Gr.trans ?_ (by with_reducible assumption)) | exact Gr.refl _ | assumption | refine Gr.alloc ?_ _ | refine Gr.drew ?_ | refine Gr.drewN ?_ _ | refine Gr.setCell ?_ (by simp <;> omega) _ | refine Gr.trans ?_ (by assumption)))).fin _ _; exact bodyPost_ret (v := .agg #[.bool false, .slice r1 k1 u1]) (by simp [results, Tryz.results74, go_sem, *]) rfl ⟨r1, k1, u1, zs, by simp [hk], q1, q2, q3, q4⟩); (go_wp2; obtain ⟨zs, q1, q2, q3, q4⟩ := (QL.gr hQ.out (w' := w3.drewN nq) (by repeat (first | (with_reducible exact Gr.refl _) | (with_reducible assumption) | (with_reducible refine Gr.alloc ?_ _) | (with_reducible refine Gr.drew ?_) | (with_reducible refine Gr.drewN ?_ _) | (with_reducible refine Gr.setCell ?_ (by simp <;> omega) _) | (with_reducible refine Gr.trans ?_ (by with_reducible assumption)) | exact Gr.refl _ | assumption | refine Gr.alloc ?_ _ | refine Gr.drew ?_ | refine Gr.drewN ?_ _ | refine Gr.setCell ?_ (by simp <;> omega) _ | refine Gr.trans ?_ (by assumption)))).fin _ _; exact bodyPost_ret (v := .agg #[.bool false, .slice r1 k1 u1]) (by simp [results, Tryz.results74, go_sem, *]) rfl ⟨r1, k1, u1, zs, by simp [hk], q1, q2, q3, q4⟩)); (by_cases hk : 0 < k1; (go_wp2; obtain ⟨zs, q1, q2, q3, q4⟩ := (QL.gr hQ.out (w' := w3.drewN nq) (by repeat (first | (with_reducible exact Gr.refl _) | (with_reducible assumption) | (with_reducible refine Gr.alloc ?_ _) | (with_reducible refine Gr.drew ?_) | (with_reducible refine Gr.drewN ?_ _) | (with_reducible refine Gr.setCell ?_ (by simp <;> omega) _) | (with_reducible refine Gr.trans ?_ (by with_reducible assumption)) | exact Gr.refl _ | assumption | refine Gr.alloc ?_ _ | refine Gr.drew ?_ | refine Gr.drewN ?_ _ | refine Gr.setCell ?_ (by simp <;> omega) _ | refine Gr.trans ?_ (by assumption)))).fin _ _; exact bodyPost_ret (v := .agg #[.bool true, .slice r1 k1 u1]) (by simp [results, Tryz.results74, go_sem, *]) rfl ⟨r1, k1, u1, zs, by simp [hk], q1, q2, q3, q4⟩); (go_wp2; obtain ⟨zs, q1, q2, q3, q4⟩ := (QL.gr hQ.out (w' := w3.drewN nq) (by repeat (first | (with_reducible exact Gr.refl _) | (with_reducible assumption) | (with_reducible refine Gr.alloc ?_ _) | (with_reducible refine Gr.drew ?_) | (with_reducible refine Gr.drewN ?_ _) | (with_reducible refine Gr.setCell ?_ (by simp <;> omega) _) | (with_reducible refine Gr.trans ?_ (by with_reducible assumption)) | exact Gr.refl _ | assumption | refine Gr.alloc ?_ _ | refine Gr.drew ?_ | refine Gr.drewN ?_ _ | refine Gr.setCell ?_ (by simp <;> omega) _ | refine Gr.trans ?_ (by assumption)))).fin _ _; exact bodyPost_ret (v := .agg #[.bool false, .slice r1 k1 u1]) (by simp [results, Tryz.results74, go_sem, *]) rfl ⟨r1, k1, u1, zs, by simp [hk], q1, q2, q3, q4⟩)))
  · by_cases hge : vl ys ≤ 2 * (vl xs * 10 ^ z % vl ys)
    · rw [if_pos ⟨rfl, hge⟩] at hr
      have HR1 := Lib.hid hr
      clear hr
      go_wp2
      go_region_held3 (fun w' => w'.cell? ⟨w.heap.size, 0, none⟩ = some (.bool b) ∧ w'.cell? ⟨w.heap.size, 1, none⟩ = some (.slice p m c) ∧ w'.cell? ⟨w.heap.size, 2, none⟩ = some (.slice q n d)) (first | (go_keep; done) | ((try go_split_ands); (repeat' apply And.intro) <;> ((try simp only [World.cell?_drew]); first | (with_reducible assumption) | (refine hb.keep ?_; (try simp only [World.cell?_drew]); first | (with_reducible assumption) | (simp [*, go_sem]; done)) | (simp [*, go_sem]; done)))) (first | (go_at_call 95; refine (plus_sl (HR.out.1.gr (by repeat (first | (with_reducible exact Gr.refl _) | (with_reducible assumption) | (with_reducible refine Gr.alloc ?_ _) | (with_reducible refine Gr.drew ?_) | (with_reducible refine Gr.drewN ?_ _) | (with_reducible refine Gr.setCell ?_ (by simp <;> omega) _) | (with_reducible refine Gr.trans ?_ (by with_reducible assumption)) | exact Gr.refl _ | assumption | refine Gr.alloc ?_ _ | refine Gr.drew ?_ | refine Gr.drewN ?_ _ | refine Gr.setCell ?_ (by simp <;> omega) _ | refine Gr.trans ?_ (by assumption)))) (HR.out.1.gr (by repeat (first | (with_reducible exact Gr.refl _) | (with_reducible assumption) | (with_reducible refine Gr.alloc ?_ _) | (with_reducible refine Gr.drew ?_) | (with_reducible refine Gr.drewN ?_ _) | (with_reducible refine Gr.setCell ?_ (by simp <;> omega) _) | (with_reducible refine Gr.trans ?_ (by with_reducible assumption)) | exact Gr.refl _ | assumption | refine Gr.alloc ?_ _ | refine Gr.drew ?_ | refine Gr.drewN ?_ _ | refine Gr.setCell ?_ (by simp <;> omega) _ | refine Gr.trans ?_ (by assumption)))) HR.out.2.1.1 HR.out.2.1.1 (by omega) (by omega)).mono ?_; rintro e w4 ⟨r5, k5, u5, z5, rfl, s5, f5, ⟨v5, d5, c5⟩, l5, hb⟩; have H5 := Lib.hid (And.intro s5 (And.intro (show vl z5 = 2 * (vl xs * 10 ^ z % vl ys) by rw [v5, HR.out.2.2]; omega) (c5 HR.out.2.1 HR.out.2.1))); clear s5 v5 d5 c5) | (go_at_call 94; refine (order_ge (H5.out.1.gr (by repeat (first | (with_reducible exact Gr.refl _) | (with_reducible assumption) | (with_reducible refine Gr.alloc ?_ _) | (with_reducible refine Gr.drew ?_) | (with_reducible refine Gr.drewN ?_ _) | (with_reducible refine Gr.setCell ?_ (by simp <;> omega) _) | (with_reducible refine Gr.trans ?_ (by with_reducible assumption)) | exact Gr.refl _ | assumption | refine Gr.alloc ?_ _ | refine Gr.drew ?_ | refine Gr.drewN ?_ _ | refine Gr.setCell ?_ (by simp <;> omega) _ | refine Gr.trans ?_ (by assumption)))) (HY.out.gr (GW.out.trans (by repeat (first | (with_reducible exact Gr.refl _) | (with_reducible assumption) | (with_reducible refine Gr.alloc ?_ _) | (with_reducible refine Gr.drew ?_) | (with_reducible refine Gr.drewN ?_ _) | (with_reducible refine Gr.setCell ?_ (by simp <;> omega) _) | (with_reducible refine Gr.trans ?_ (by with_reducible assumption)) | exact Gr.refl _ | assumption | refine Gr.alloc ?_ _ | refine Gr.drew ?_ | refine Gr.drewN ?_ _ | refine Gr.setCell ?_ (by simp <;> omega) _ | refine Gr.trans ?_ (by assumption))))) H5.out.2.2 CY.out (by omega) (by omega) (by rw [H5.out.2.1]; omega)).mono ?_; rintro e w5 ⟨o, ho, rfl, hb⟩))
      rename_i hH
      have G5 := Lib.hid (show Gr w3 w5 from (by repeat (first | (with_reducible exact Gr.refl _) | (with_reducible assumption) | (with_reducible refine Gr.alloc ?_ _) | (with_reducible refine Gr.drew ?_) | (with_reducible refine Gr.drewN ?_ _) | (with_reducible refine Gr.setCell ?_ (by simp <;> omega) _) | (with_reducible refine Gr.trans ?_ (by with_reducible assumption)) | exact Gr.refl _ | assumption | refine Gr.alloc ?_ _ | refine Gr.drew ?_ | refine Gr.drewN ?_ _ | refine Gr.setCell ?_ (by simp <;> omega) _ | refine Gr.trans ?_ (by assumption))))
      obtain ⟨_, x1⟩ := G5.out.cells
      have t0 : w5.cell? ⟨w.heap.size, 0, none⟩ = some (.bool b) := hH.1
      have t2 : w5.cell? ⟨w.heap.size + 1, 0, none⟩ = some (.bool false) := G5.out.keep y0
      have t3 : w5.cell? ⟨w.heap.size + 1, 1, none⟩ = some (.slice none 0 0) := G5.out.keep y1
      have t4 : w5.frozen? ⟨w.heap.size + 1, 0, none⟩ = false := (x1 _ _ (by omega)).trans y2
      have t5 : w5.frozen? ⟨w.heap.size + 1, 1, none⟩ = false := (x1 _ _ (by omega)).trans y3
      have hz5 : w.heap.size + 2 ≤ w5.heap.size := Nat.le_trans hz3 G5.out.size
      have hk1 : k1 ≤ 200 := by omega
      have H6 : ∀ wz, Gr w5 wz → Sl wz r1 k1 u1 zs1 := fun wz g => (HQ.out.1.gr G5.out).gr g
      clear hH x1 hb y0 y1 y2 y3 b0 b1 b2
      have hone : Cn [1] := Cn.of_last (by intro x hx; simp at hx; omega) (by intro _; simp)
      have HONE := Lib.hid hone
      clear hone
      cases b
      all_goals
        go_wp2_with (go_at_call 95; refine (plus_sl (H6 _ (by repeat (first | (with_reducible exact Gr.refl _) | (with_reducible assumption) | (with_reducible refine Gr.alloc ?_ _) | (with_reducible refine Gr.drew ?_) | (with_reducible refine Gr.drewN ?_ _) | (with_reducible refine Gr.setCell ?_ (by simp <;> omega) _) | (with_reducible refine Gr.trans ?_ (by with_reducible assumption)) | exact Gr.refl _ | assumption | refine Gr.alloc ?_ _ | refine Gr.drew ?_ | refine Gr.drewN ?_ _ | refine Gr.setCell ?_ (by simp <;> omega) _ | refine Gr.trans ?_ (by assumption)))) ((Arr.new w5 .i64 3 (c := #[.int .i64 1]) (xs := [1]) rfl).sl (n := 1) rfl (by unfold maxLen; omega)) HQ.out.2.1.1 HONE.out.1 (by omega) (by omega)).mono ?_; rintro e w6 ⟨r7, k7, u7, z7, rfl, s7, f7, ⟨v7, d7, c7⟩, l7, hb⟩; have G7 := Lib.hid (((Gr.refl w5).alloc _).trans hb); have g0 := G7.out.keep t0; have g2 := G7.out.keep t2; have g3 := G7.out.keep t3; have g4 := (G7.out.cells.2 _ _ (show w.heap.size + 1 < w5.heap.size by omega)).trans t4; have g5 := (G7.out.cells.2 _ _ (show w.heap.size + 1 < w5.heap.size by omega)).trans t5; have H7 := Lib.hid (And.intro s7 (And.intro (f7.mono (show w.heap.size + 2 ≤ _ by simp; omega)) (And.intro v7 (c7 HQ.out.2.1 HONE.out)))); clear s7 f7 v7 d7 c7 hb)
      · have hQ := QL.fin (b := false) (show QL w false RQ r7 k7 u7 w6 from ⟨z7, H7.out.1, H7.out.2.2.2, by rw [H7.out.2.2.1, HQ.out.2.2.1, HR1.out]; simp [vl], H7.out.2.1, (GW.out.trans G5.out).trans G7.out⟩) (.bool false) (.slice r7 k7 u7)
        obtain ⟨zs, q1, q2, q3, q4⟩ := hQ
        exact bodyPost_ret (v := .agg #[.bool false, .slice r7 k7 u7]) (by simp [results, Tryz.results74, go_sem, *]) rfl ⟨r7, k7, u7, zs, by simp, q1, q2, q3, q4⟩
      · have hQ := QL.fin (b := true) (show QL w true RQ r7 k7 u7 w6 from ⟨z7, H7.out.1, H7.out.2.2.2, by rw [H7.out.2.2.1, HQ.out.2.2.1, HR1.out]; simp [vl], H7.out.2.1, (GW.out.trans G5.out).trans G7.out⟩) (.bool (decide (0 < k7))) (.slice r7 k7 u7)
        obtain ⟨zs, q1, q2, q3, q4⟩ := hQ
        exact bodyPost_ret (v := .agg #[.bool (decide (0 < k7)), .slice r7 k7 u7]) (by simp [results, Tryz.results74, go_sem, *]) rfl ⟨r7, k7, u7, zs, by simp, q1, q2, q3, q4⟩
    · rw [if_neg (fun h => hge h.2), Int.add_zero] at hr
      have hQ := Lib.hid (show QL w b RQ r1 k1 u1 w3 from ⟨zs1, HQ.out.1, HQ.out.2.1, by rw [hr]; exact HQ.out.2.2.1, HQ.out.2.2.2, GW.out⟩)
      clear hr
      go_wp2
      go_region_held3 (fun w' => w'.cell? ⟨w.heap.size, 0, none⟩ = some (.bool b) ∧ w'.cell? ⟨w.heap.size, 1, none⟩ = some (.slice p m c) ∧ w'.cell? ⟨w.heap.size, 2, none⟩ = some (.slice q n d)) (first | (go_keep; done) | ((try go_split_ands); (repeat' apply And.intro) <;> ((try simp only [World.cell?_drew]); first | (with_reducible assumption) | (refine hb.keep ?_; (try simp only [World.cell?_drew]); first | (with_reducible assumption) | (simp [*, go_sem]; done)) | (simp [*, go_sem]; done)))) (first | (go_at_call 95; refine (plus_sl (HR.out.1.gr (by repeat (first | (with_reducible exact Gr.refl _) | (with_reducible assumption) | (with_reducible refine Gr.alloc ?_ _) | (with_reducible refine Gr.drew ?_) | (with_reducible refine Gr.drewN ?_ _) | (with_reducible refine Gr.setCell ?_ (by simp <;> omega) _) | (with_reducible refine Gr.trans ?_ (by with_reducible assumption)) | exact Gr.refl _ | assumption | refine Gr.alloc ?_ _ | refine Gr.drew ?_ | refine Gr.drewN ?_ _ | refine Gr.setCell ?_ (by simp <;> omega) _ | refine Gr.trans ?_ (by assumption)))) (HR.out.1.gr (by repeat (first | (with_reducible exact Gr.refl _) | (with_reducible assumption) | (with_reducible refine Gr.alloc ?_ _) | (with_reducible refine Gr.drew ?_) | (with_reducible refine Gr.drewN ?_ _) | (with_reducible refine Gr.setCell ?_ (by simp <;> omega) _) | (with_reducible refine Gr.trans ?_ (by with_reducible assumption)) | exact Gr.refl _ | assumption | refine Gr.alloc ?_ _ | refine Gr.drew ?_ | refine Gr.drewN ?_ _ | refine Gr.setCell ?_ (by simp <;> omega) _ | refine Gr.trans ?_ (by assumption)))) HR.out.2.1.1 HR.out.2.1.1 (by omega) (by omega)).mono ?_; rintro e w4 ⟨r5, k5, u5, z5, rfl, s5, f5, ⟨v5, d5, c5⟩, l5, hb⟩; have H5 := Lib.hid (And.intro s5 (And.intro (show vl z5 = 2 * (vl xs * 10 ^ z % vl ys) by rw [v5, HR.out.2.2]; omega) (c5 HR.out.2.1 HR.out.2.1))); clear s5 v5 d5 c5) | (go_at_call 94; refine (order_lt (H5.out.1.gr (by repeat (first | (with_reducible exact Gr.refl _) | (with_reducible assumption) | (with_reducible refine Gr.alloc ?_ _) | (with_reducible refine Gr.drew ?_) | (with_reducible refine Gr.drewN ?_ _) | (with_reducible refine Gr.setCell ?_ (by simp <;> omega) _) | (with_reducible refine Gr.trans ?_ (by with_reducible assumption)) | exact Gr.refl _ | assumption | refine Gr.alloc ?_ _ | refine Gr.drew ?_ | refine Gr.drewN ?_ _ | refine Gr.setCell ?_ (by simp <;> omega) _ | refine Gr.trans ?_ (by assumption)))) (HY.out.gr (GW.out.trans (by repeat (first | (with_reducible exact Gr.refl _) | (with_reducible assumption) | (with_reducible refine Gr.alloc ?_ _) | (with_reducible refine Gr.drew ?_) | (with_reducible refine Gr.drewN ?_ _) | (with_reducible refine Gr.setCell ?_ (by simp <;> omega) _) | (with_reducible refine Gr.trans ?_ (by with_reducible assumption)) | exact Gr.refl _ | assumption | refine Gr.alloc ?_ _ | refine Gr.drew ?_ | refine Gr.drewN ?_ _ | refine Gr.setCell ?_ (by simp <;> omega) _ | refine Gr.trans ?_ (by assumption))))) H5.out.2.2 CY.out (by omega) (by omega) (by rw [H5.out.2.1]; omega)).mono ?_; rintro e w5 ⟨rfl, hb⟩))
      rename_i hH
      have G5 := Lib.hid (show Gr w3 w5 from (by repeat (first | (with_reducible exact Gr.refl _) | (with_reducible assumption) | (with_reducible refine Gr.alloc ?_ _) | (with_reducible refine Gr.drew ?_) | (with_reducible refine Gr.drewN ?_ _) | (with_reducible refine Gr.setCell ?_ (by simp <;> omega) _) | (with_reducible refine Gr.trans ?_ (by with_reducible assumption)) | exact Gr.refl _ | assumption | refine Gr.alloc ?_ _ | refine Gr.drew ?_ | refine Gr.drewN ?_ _ | refine Gr.setCell ?_ (by simp <;> omega) _ | refine Gr.trans ?_ (by assumption))))
      obtain ⟨_, x1⟩ := G5.out.cells
      have t0 : w5.cell? ⟨w.heap.size, 0, none⟩ = some (.bool b) := hH.1
      have t2 : w5.cell? ⟨w.heap.size + 1, 0, none⟩ = some (.bool false) := G5.out.keep y0
      have t3 : w5.cell? ⟨w.heap.size + 1, 1, none⟩ = some (.slice none 0 0) := G5.out.keep y1
      have t4 : w5.frozen? ⟨w.heap.size + 1, 0, none⟩ = false := (x1 _ _ (by omega)).trans y2
      have t5 : w5.frozen? ⟨w.heap.size + 1, 1, none⟩ = false := (x1 _ _ (by omega)).trans y3
      have hz5 : w.heap.size + 2 ≤ w5.heap.size := Nat.le_trans hz3 G5.out.size
      have hQ2 := hQ
      clear hQ
      have hQ := Lib.hid (hQ2.out.gr G5.out)
      clear hH x1 hb y0 y1 y2 y3 b0 b1 b2 hQ2
      (cases b; (by_cases hk : 0 < k1; (go_wp2; obtain ⟨zs, q1, q2, q3, q4⟩ := (QL.gr hQ.out (w' := w5) (by repeat (first | (with_reducible exact Gr.refl _) | (with_reducible assumption) | (with_reducible refine Gr.alloc ?_ _) | (with_reducible refine Gr.drew ?_) | (with_reducible refine Gr.drewN ?_ _) | (with_reducible refine Gr.setCell ?_ (by simp <;> omega) _) | (with_reducible refine Gr.trans ?_ (by with_reducible assumption)) | exact Gr.refl _ | assumption | refine Gr.alloc ?_ _ | refine Gr.drew ?_ | refine Gr.drewN ?_ _ | refine Gr.setCell ?_ (by simp <;> omega) _ | refine Gr.trans ?_ (by assumption)))).fin _ _; exact bodyPost_ret (v := .agg #[.bool false, .slice r1 k1 u1]) (by simp [results, Tryz.results74, go_sem, *]) rfl ⟨r1, k1, u1, zs, by simp [hk], q1, q2, q3, q4⟩); (go_wp2; obtain ⟨zs, q1, q2, q3, q4⟩ := (QL.gr hQ.out (w' := w5) (by repeat (first | (with_reducible exact Gr.refl _) | (with_reducible assumption) | (with_reducible refine Gr.alloc ?_ _) | (with_reducible refine Gr.drew ?_) | (with_reducible refine Gr.drewN ?_ _) | (with_reducible refine Gr.setCell ?_ (by simp <;> omega) _) | (with_reducible refine Gr.trans ?_ (by with_reducible assumption)) | exact Gr.refl _ | assumption | refine Gr.alloc ?_ _ | refine Gr.drew ?_ | refine Gr.drewN ?_ _ | refine Gr.setCell ?_ (by simp <;> omega) _ | refine Gr.trans ?_ (by assumption)))).fin _ _; exact bodyPost_ret (v := .agg #[.bool false, .slice r1 k1 u1]) (by simp [results, Tryz.results74, go_sem, *]) rfl ⟨r1, k1, u1, zs, by simp [hk], q1, q2, q3, q4⟩)); (by_cases hk : 0 < k1; (go_wp2; obtain ⟨zs, q1, q2, q3, q4⟩ := (QL.gr hQ.out (w' := w5) (by repeat (first | (with_reducible exact Gr.refl _) | (with_reducible assumption) | (with_reducible refine Gr.alloc ?_ _) | (with_reducible refine Gr.drew ?_) | (with_reducible refine Gr.drewN ?_ _) | (with_reducible refine Gr.setCell ?_ (by simp <;> omega) _) | (with_reducible refine Gr.trans ?_ (by with_reducible assumption)) | exact Gr.refl _ | assumption | refine Gr.alloc ?_ _ | refine Gr.drew ?_ | refine Gr.drewN ?_ _ | refine Gr.setCell ?_ (by simp <;> omega) _ | refine Gr.trans ?_ (by assumption)))).fin _ _; exact bodyPost_ret (v := .agg #[.bool true, .slice r1 k1 u1]) (by simp [results, Tryz.results74, go_sem, *]) rfl ⟨r1, k1, u1, zs, by simp [hk], q1, q2, q3, q4⟩); (go_wp2; obtain ⟨zs, q1, q2, q3, q4⟩ := (QL.gr hQ.out (w' := w5) (by repeat (first | (with_reducible exact Gr.refl _) | (with_reducible assumption) | (with_reducible refine Gr.alloc ?_ _) | (with_reducible refine Gr.drew ?_) | (with_reducible refine Gr.drewN ?_ _) | (with_reducible refine Gr.setCell ?_ (by simp <;> omega) _) | (with_reducible refine Gr.trans ?_ (by with_reducible assumption)) | exact Gr.refl _ | assumption | refine Gr.alloc ?_ _ | refine Gr.drew ?_ | refine Gr.drewN ?_ _ | refine Gr.setCell ?_ (by simp <;> omega) _ | refine Gr.trans ?_ (by assumption)))).fin _ _; exact bodyPost_ret (v := .agg #[.bool false, .slice r1 k1 u1]) (by simp [results, Tryz.results74, go_sem, *]) rfl ⟨r1, k1, u1, zs, by simp [hk], q1, q2, q3, q4⟩)))
end Go.Proofs.YtnaflaokhldfnaaGreat
