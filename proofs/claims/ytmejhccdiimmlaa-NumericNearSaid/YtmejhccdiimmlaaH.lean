import Derived.Test.YtmejhccdiimmlaaG
namespace Go.Proofs.Ytmejhccdiimmlaa
set_option linter.unusedSimpArgs false
set_option linter.unusedVariables false
open Go.RowKit

theorem pkH_odd (n : Int) (p L : Nat) (hL : 2 * p + 1 = L) : dgL (absI n) L ++ [15 - 2 * countI (decide (n < 0))] = pkH n (p + 1) := by
  rw [sgn_count]
  subst hL
  apply List.ext_getElem
  · simp [pkH, dgL, fl]; omega
  · intro i h1 h2
    have h3 : i < 2 * (p + 1) := by simpa [pkH, fl] using h2
    simp only [pkH, fl, List.getElem_map, List.getElem_range, dgL]
    by_cases e : i = 2 * (p + 1) - 1
    · subst e
      rw [List.getElem_append_right (by simp; omega)]
      simp
    · rw [if_neg e, List.getElem_append_left (by simp; omega)]
      simp
      first | done | (congr 1; done) | (congr 1; omega)

set_option maxHeartbeats 4000000 in
set_option maxRecDepth 100000 in
theorem Bytes_odd (s n : Int) (p : Nat) (x : ByteArray) (h2 : p ≤ 7) (hn : -1000000000000000000 ≤ n) (hn' : n ≤ 1000000000000000000) (w : World) :
    Calls Try.prog 54 #[.agg #[.int .i64 1, .int .i64 ((2 * p + 1 : Nat) : Int), .int .i64 s], .agg #[.int .i64 n, .string x]] w fun e w' => e = .returned (.string (strOfNums (pkB n (p + 1)))) ∧ Gr w w' := by
  have ha : 0 ≤ absI n ∧ absI n ≤ 1000000000000000000 := by unfold absI; split <;> omega
  obtain ⟨i0, hi, hz0, hz1, hz2⟩ := info_parts info3
  obtain ⟨L, hL⟩ : ∃ L, 2 * p + 1 = L := ⟨_, rfl⟩
  rw [hL]
  have HL := Lib.hid hL
  have hL2 : (L : Int) % 2 = 1 := by omega
  have hLb : 1 ≤ L ∧ L ≤ 15 := by omega
  clear hL
  have hL3 : ((L : Int) % 2 == 0) = false := by simp [hL2]
  have hmk := mk_bytes (((L : Int) + 1) / 2) (p + 1) (by have := HL.out; omega) (by omega)
  go_enter Try.func54, Try.ntmps54
  go_wp2
  go_region_held3 (fun w' => w'.cell? ⟨w.heap.size, 0, none⟩ = some (.int .i64 1) ∧ w'.cell? ⟨w.heap.size, 1, none⟩ = some (.int .i64 (L : Int)) ∧ w'.cell? ⟨w.heap.size, 2, none⟩ = some (.int .i64 s) ∧ w'.cell? ⟨w.heap.size + 1, 0, none⟩ = some (.int .i64 n) ∧ w'.cell? ⟨w.heap.size + 1, 1, none⟩ = some (.string x)) (first | (go_keep; done) | ((try go_split_ands); (repeat' apply And.intro) <;> ((try simp only [World.cell?_drew]); first | assumption | (refine hb.keep ?_; (try simp only [World.cell?_drew]); first | assumption | (simp [*, go_sem]; done)) | (simp [*, go_sem]; done)))) (first | (go_at_call 100; refine (Amount_any _ hn hn' _).mono ?_; rintro e w1 ⟨rfl, rfl⟩) | (go_at_call 99; refine (digits_any _ _ ha.1 ha.2 (by omega) _).mono ?_; rintro e w1 ⟨b, rfl, hA, hbs, hb⟩; obtain ⟨hc, hf⟩ := hb.cells; have hz : w.heap.size + 1 < w1.heap.size := by have h := hb.size; (try simp at h); omega))
  have k0 := Lib.hid (show w1.cell? ⟨w.heap.size, 0, none⟩ = some (.int .i64 1) from hb.keep (by first | (simp; done) | (simp [go_sem]; done)))
  have k1 := Lib.hid (show w1.cell? ⟨w.heap.size, 1, none⟩ = some (.int .i64 L) from hb.keep (by first | (simp; done) | (simp [go_sem]; done)))
  have k3 := Lib.hid (show w1.cell? ⟨w.heap.size + 1, 0, none⟩ = some (.int .i64 n) from hb.keep (by first | (simp; done) | (simp [go_sem]; done)))
  have hbs' : w.heap.size + 2 ≤ b := by have := hbs; simp at this; omega
  have HA := Lib.hid hA
  have hbl := hA.lt
  have hO1 := Lib.hid ((Own.of_arr (B := w.heap.size + 2) (n := L) (m := L) hA hbs' (by rw [dgL_length]; unfold maxLen; omega) (dgL_length _ _) (dgL_length _ _)).alloc (.cells #[.int .i64 (15 - 2 * countI (decide (n < 0)))] 3))
  have hG1 := Lib.hid ((by repeat (first | exact Gr.refl _ | assumption | refine Gr.alloc ?_ _ | refine Gr.drew ?_ | refine Gr.drewN ?_ _ | refine Gr.setCell ?_ (by simp <;> omega) _ | refine Gr.trans ?_ (by assumption))) : Gr w w1)
  have c0 := k0.out
  have c1 := k1.out
  have c3 := k3.out
  clear hb hA hc hf hbs
  go_wp2_with (first
    | (at_builtin; go_loud (refine wp_append_ints _ rfl (.tmp 85) (.tmp 92) 110 3 rfl .i64 i0 8 Try.underlying110 hi hz0 hz1 hz2 (by decide) (w.heap.size + 2) _ (dgL (absI n) L) rfl hO1.out (L + 1) w1.heap.size 1 1 [15 - 2 * countI (decide (n < 0))] rfl rfl (by omega) (one_cell _ _ _ _) (by simp [dgL_length] <;> omega) (by omega) (by simp <;> omega) ?_; intro g2 cap2 w3 hO3 hB3 hgr3 hg2 hg2l))
    | (go_at_call 46; refine (Count_any _ _).mono ?_; rintro e w1 ⟨rfl, rfl, hc0, hc1⟩))
  have hGw := Lib.hid (show Gr w w3 from Below.trans (hG1.out.alloc _) (hB3.mono (by omega)))
  have hPK := Lib.hid (pkH_odd n p L HL.out)
  have hO := Lib.hid (hO3.alloc (.cells (mkz .u8 (p + 1)) 5))
  rw [hPK.out] at hO
  have hA0 := Lib.hid (Arr.made_fl w3 .u8 5 (p + 1) (fun j => if j < 0 then 16 * (pkH n (p + 1)).getD (2 * j) 0 + (pkH n (p + 1)).getD (2 * j + 1) 0 else 0) (fun i hi => by rw [if_neg (by omega)]))
  clear hO3 hgr3 hB3
  go_loopw [10] (fun i wr => ∃ q : Nat, q ≤ p + 1 ∧ i = .int .i64 q ∧ Hid (Own wr (w.heap.size + 2) .i64 3 (.slice (some ⟨g2, 0, none⟩) (L + 1) cap2) (pkH n (p + 1))) ∧ Hid (Arr wr w3.heap.size .u8 5 (fl (p + 1) (fun j => if j < q then 16 * (pkH n (p + 1)).getD (2 * j) 0 + (pkH n (p + 1)).getD (2 * j + 1) 0 else 0))) ∧ Hid (Below w3.heap.size w3 wr)) (fun i _ => p + 1 - (intOf i).toNat)
  case atStart => exact ⟨0, by omega, rfl, hO, hA0, (Below.refl _ _).alloc (Nat.le_refl _) _⟩
  case round =>
    obtain ⟨q, hq, rfl, hX, hY, hB⟩ := hrel
    have hLL := Lib.hid (show L = 2 * p + 1 from HL.out.symm)
    by_cases hlt : q < p + 1
    · have cx0 := hX.out.cell (2 * q) (by unfold pkH; rw [fl_length]; omega)
      have cx1 := hX.out.cell (2 * q + 1) (by unfold pkH; rw [fl_length]; omega)
      have hbd := pkH_bd n (p + 1)
      obtain ⟨x1, hx⟩ : ∃ x, (pkH n (p + 1)).getD (2 * q) 0 = x := ⟨_, rfl⟩
      obtain ⟨y1, hy⟩ : ∃ y, (pkH n (p + 1)).getD (2 * q + 1) 0 = y := ⟨_, rfl⟩
      have hx0 := hbd (2 * q)
      have hy0 := hbd (2 * q + 1)
      rw [hx] at cx0 hx0
      rw [hy] at cx1 hy0
      have HX := Lib.hid hx
      have HY := Lib.hid hy
      clear hx hy hbd
      obtain ⟨v0, hv0⟩ := hY.out.has q hlt
      have hf0 := hY.out.frozen q
      have hw1 : IntKind.i64.wrap (16 * x1) = 16 * x1 := IntWalk.i64_in _ (by omega)
      have hw2 : IntKind.i64.wrap (16 * x1 + y1) = 16 * x1 + y1 := IntWalk.i64_in _ (by omega)
      have hw3 : IntKind.u8.wrap (16 * x1 + y1) = 16 * x1 + y1 := IntWalk.u8_in _ (by omega)
      have hq0 : (0 : Int) ≤ q := by omega
      have hq1 : (q : Int) < (p : Int) + 1 := by omega
      have hq2 : 2 * (q : Int) + 1 < (L + 1 : Int) := by have := hLL.out; omega
      go_wp2
      go_region
      go_wp2
      go_roundw
      case rel =>
        refine ⟨q + 1, by omega, by go_num, Lib.hid (hX.out.below ((Below.refl w3.heap.size _).drew.setCell (by simp) _) (fun z hz => by simp [Value.ownBlock] at hz; omega)), Lib.hid ?_, Lib.hid (hB.out.drew.setCell (by simp) _)⟩
        refine (hY.out.set_fl q (16 * x1 + y1) fun i hi => ?_).drew
        by_cases e : i = q
        · subst e; rw [if_pos (by omega), if_pos rfl, HX.out, HY.out]
        · rw [if_neg e]; by_cases e2 : i < q
          · rw [if_pos e2, if_pos (by omega)]
          · rw [if_neg e2, if_neg (by omega)]
      case measure => simp [intOf]; omega
    · have hs := str_of (n := p + 1) (cap := p + 1) hY.out (fl_length _ _)
      have hqp := Lib.hid (show q = p + 1 by omega)
      go_wp2
      go_ret
      refine ⟨ret_str (congrArg strOfNums (fl_congr fun i hi => ?_)), Gr.trans hGw.out (hB.out.mono (Nat.le_refl _))⟩
      have := hqp.out
      simp [show i < q by omega]

theorem dig_above (a : Int) (i : Nat) (h0 : 0 ≤ a) (h : a < 10 ^ i) : dig a i = 0 := by
  unfold dig; rw [Int.ediv_eq_zero_of_lt h0 h]; rfl

set_option maxHeartbeats 1000000 in
theorem Bytes_any (k l s n : Int) (x : ByteArray) (h : valErr k l s n x = 0) (w : World) :
    Calls Try.prog 54 #[.agg #[.int .i64 k, .int .i64 l, .int .i64 s], .agg #[.int .i64 n, .string x]] w fun e w' => e = .returned (.string (strB k l n x)) ∧ Gr w w' := by
  obtain ⟨h1, h2, l0, l1, n0, n1⟩ := valErr_ok h
  obtain ⟨-, -, l15, k0, k1⟩ := typeErr_len h1 h2
  have hf : k ≠ 0 → absI n < 10 ^ l.toNat := by
    intro hk
    have h3 : fitsB n l = true := by
      by_cases hf : fitsB n l = true
      · exact hf
      · by_cases hx : x.size = 0 <;> simp [valErr, h1, h2, hk, hf, hx] at h
    simp only [fitsB, decide_eq_true_eq] at h3
    unfold most p10 at h3
    unfold absI; split <;> omega
  by_cases e0 : k = 0
  · subst e0; exact (Bytes_char l s n x w).mono fun e w' ⟨a, b⟩ => ⟨by rw [a]; simp [strB], b⟩
  have hF := hf e0
  clear hf
  have l15 := l15 e0
  by_cases e1 : k = 1
  · subst e1
    obtain ⟨p, hp⟩ : ∃ p : Nat, l = ((2 * p : Nat) : Int) ∨ l = ((2 * p + 1 : Nat) : Int) := ⟨(l / 2).toNat, by omega⟩
    rcases hp with hp | hp
    · subst hp
      have hd := dig_above (absI n) (2 * p) (by unfold absI; split <;> omega) (by rw [Int.toNat_natCast] at hF; exact hF)
      refine (Bytes_even s n p x (by omega) (by omega) n0 n1 hd w).mono fun e w' ⟨a, b⟩ => ⟨?_, b⟩
      rw [a]; unfold strB; rw [if_pos rfl, show (sizeI 1 ((2 * p : Nat) : Int)).toNat = p + 1 by unfold sizeI; rw [if_pos rfl]; omega]
    · subst hp
      refine (Bytes_odd s n p x (by omega) n0 n1 w).mono fun e w' ⟨a, b⟩ => ⟨?_, b⟩
      rw [a]; unfold strB; rw [if_pos rfl, show (sizeI 1 ((2 * p + 1 : Nat) : Int)).toNat = p + 1 by unfold sizeI; rw [if_pos rfl]; omega]
  by_cases e2 : k = 2
  · subst e2
    obtain ⟨L, rfl⟩ := Int.eq_ofNat_of_zero_le (show 0 ≤ l by omega)
    exact (Bytes_zoned s n L x (by omega) (by omega) n0 n1 w).mono fun e w' ⟨a, b⟩ => ⟨by rw [a]; simp [strB], b⟩
  obtain rfl : k = 3 := by omega
  have hl : l = 4 ∨ l = 9 := by
    have h' : rightLen 3 l = true := by
      by_cases e : rightLen 3 l = true
      · exact e
      · exfalso; simp [typeErr, e] at h1
    simpa [rightLen] using h'
  rcases hl with rfl | rfl
  · have hf' : absI n < 10000 := hF
    exact (Bytes_bin4 s n x (by unfold absI at hf'; split at hf' <;> omega) (by unfold absI at hf'; split at hf' <;> omega) w).mono fun e w' ⟨a, b⟩ => ⟨by rw [a]; simp [strB, sizeI], b⟩
  · have hf' : absI n < 1000000000 := hF
    exact (Bytes_bin9 s n x (by unfold absI at hf'; split at hf' <;> omega) (by unfold absI at hf'; split at hf' <;> omega) w).mono fun e w' ⟨a, b⟩ => ⟨by rw [a]; simp [strB, sizeI], b⟩

set_option maxHeartbeats 1000000 in
theorem refEncode_any (k l s n : Int) (x : ByteArray) (w : World) :
    Calls Try.prog 25 #[.agg #[.int .i64 k, .int .i64 l, .int .i64 s], .agg #[.int .i64 n, .string x]] w fun e w' => e = .returned (.tuple #[.string (if valErr k l s n x = 0 then strB k l n x else ⟨#[]⟩), .int .i64 (valErr k l s n x)]) ∧ Gr w w' := by
  by_cases he : valErr k l s n x = 0
  · have hb0 : (valErr k l s n x != 0) = false := by simp [he]
    have HE := Lib.hid he
    clear he
    go_enter Try.func25, Try.ntmps25
    go_wp2_with (first | (go_at_call 20; refine (ValueErr_any _ _ _ _ _ _).mono ?_; rintro e w1 ⟨rfl, hb⟩; obtain ⟨hc, hf⟩ := hb.cells; have hz : w.heap.size + 1 < w1.heap.size := (by have h := hb.size; (try simp at h); omega); have hz0 : w.heap.size < w1.heap.size := by omega) | (go_at_call 54; refine (Bytes_any _ _ _ _ _ HE.out _).mono ?_; rintro e w1 ⟨rfl, hb⟩; obtain ⟨hc, hf⟩ := hb.cells; have hz : w.heap.size + 1 < w1.heap.size := (by have h := hb.size; (try simp at h); omega); have hz0 : w.heap.size < w1.heap.size := by omega))
    go_ret2
    exact ⟨by simp [HE.out], (by repeat (first | exact Gr.refl _ | assumption | refine Gr.alloc ?_ _ | refine Gr.drew ?_ | refine Gr.drewN ?_ _ | refine Gr.setCell ?_ (by simp <;> omega) _ | refine Gr.trans ?_ (by assumption)))⟩
  · have hb0 : (valErr k l s n x != 0) = true := by simp [he]
    have HE := Lib.hid he
    clear he
    go_enter Try.func25, Try.ntmps25
    go_wp2_with (go_at_call 20; refine (ValueErr_any _ _ _ _ _ _).mono ?_; rintro e w1 ⟨rfl, hb⟩; obtain ⟨hc, hf⟩ := hb.cells; have hz : w.heap.size + 1 < w1.heap.size := (by have h := hb.size; (try simp at h); omega); have hz0 : w.heap.size < w1.heap.size := by omega)
    go_ret2
    exact ⟨by simp [HE.out], (by repeat (first | exact Gr.refl _ | assumption | refine Gr.alloc ?_ _ | refine Gr.drew ?_ | refine Gr.drewN ?_ _ | refine Gr.setCell ?_ (by simp <;> omega) _ | refine Gr.trans ?_ (by assumption)))⟩
end Go.Proofs.Ytmejhccdiimmlaa
