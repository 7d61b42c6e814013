/- Texts of the walks, merged. -/
import Derived.Test.YtnaflaokhldfnaaGreatQ12
namespace Go.Proofs.YtnaflaokhldfnaaGreat
set_option linter.unusedSimpArgs false
set_option linter.unusedVariables false
open Go.RowKit

theorem two_compl (n : Int) (S : Nat) (hS : S = 2 ∨ S = 4) (i : Nat) (hi : i < S) : (n + 2 ^ (8 * S)) / 256 ^ i % 256 = n / 2 ^ (8 * i) % 256 := by
  rcases hS with rfl | rfl
  · match i, hi with
    | 0, _ => simp; omega
    | 1, _ => simp; omega
  · match i, hi with
    | 0, _ => simp; omega
    | 1, _ => simp; omega
    | 2, _ => simp; omega
    | 3, _ => simp; omega
theorem pow_256 (i : Nat) : (256 : Int) ^ i = 2 ^ (8 * i) := by
  rw [Int.pow_mul]; rfl
theorem bn_eq (n : Int) (S : Nat) : fl S (fun j => n / 256 ^ (S - 1 - j) % 256) = bnB n S := by
  unfold bnB; apply fl_congr; intro i _; rw [pow_256]
theorem bn_neg (n : Int) (S : Nat) (hS : S = 2 ∨ S = 4) : fl S (fun j => (n + 2 ^ (8 * S)) / 256 ^ (S - 1 - j) % 256) = bnB n S := by
  unfold bnB; apply fl_congr; intro i hi; exact two_compl n S hS _ (by omega)

theorem bn_neg2 (n : Int) : fl 2 (fun j => (n + 65536) / 256 ^ (2 - 1 - j) % 256) = bnB n 2 := bn_neg n 2 (.inl rfl)
theorem bn_neg4 (n : Int) : fl 4 (fun j => (n + 4294967296) / 256 ^ (4 - 1 - j) % 256) = bnB n 4 := bn_neg n 4 (.inr rfl)

set_option maxHeartbeats 1000000 in
theorem Bytes_bin4 (s n : Int) (x : ByteArray) (hn : -10000 < n) (hn' : n < 10000) (w : World) :
    Calls Tryz.prog 20 #[.agg #[.int .i64 3, .int .i64 4, .int .i64 s], .agg #[.int .i64 n, .string x]] w fun e w' => e = .returned (.string (strOfNums (bnB n 2))) ∧ Gr w w' := by
  have hsz : sizeI 3 4 = 2 := by decide
  by_cases h0 : n < 0
  all_goals
    go_enter Tryz.func20, Tryz.ntmps20
    go_wp2_with (first | (go_at_call 39; refine (Size_any _ _ _ (by omega) (by omega) (by omega) _).mono ?_; rintro e w1 ⟨rfl, hb⟩; obtain ⟨hc, hf⟩ := hb.cells; have hz : w.heap.size + 1 < w1.heap.size := (by have h := hb.size; (try simp at h); omega); have hz0 : w.heap.size < w1.heap.size := by omega) | (go_at_call 49; refine (BigBytes_any _ 2 (by omega) (by omega) (by omega) _).mono ?_; rintro e w1 ⟨rfl, hb⟩; obtain ⟨hc, hf⟩ := hb.cells; have hz : w.heap.size + 1 < w1.heap.size := (by have h := hb.size; (try simp at h); omega); have hz0 : w.heap.size < w1.heap.size := by omega))
    go_ret
    exact ⟨ret_str (congrArg strOfNums (by first | exact bn_neg2 n | exact bn_eq n 2)), (by repeat (first | (with_reducible exact Gr.refl _) | (with_reducible assumption) | (with_reducible refine Gr.alloc ?_ _) | (with_reducible refine Gr.drew ?_) | (with_reducible refine Gr.drewN ?_ _) | (with_reducible refine Gr.setCell ?_ (by simp <;> omega) _) | (with_reducible refine Gr.trans ?_ (by with_reducible assumption)) | exact Gr.refl _ | assumption | refine Gr.alloc ?_ _ | refine Gr.drew ?_ | refine Gr.drewN ?_ _ | refine Gr.setCell ?_ (by simp <;> omega) _ | refine Gr.trans ?_ (by assumption)))⟩

set_option maxHeartbeats 1000000 in
theorem Bytes_bin9 (s n : Int) (x : ByteArray) (hn : -1000000000 < n) (hn' : n < 1000000000) (w : World) :
    Calls Tryz.prog 20 #[.agg #[.int .i64 3, .int .i64 9, .int .i64 s], .agg #[.int .i64 n, .string x]] w fun e w' => e = .returned (.string (strOfNums (bnB n 4))) ∧ Gr w w' := by
  have hsz : sizeI 3 9 = 4 := by decide
  by_cases h0 : n < 0
  all_goals
    go_enter Tryz.func20, Tryz.ntmps20
    go_wp2_with (first | (go_at_call 39; refine (Size_any _ _ _ (by omega) (by omega) (by omega) _).mono ?_; rintro e w1 ⟨rfl, hb⟩; obtain ⟨hc, hf⟩ := hb.cells; have hz : w.heap.size + 1 < w1.heap.size := (by have h := hb.size; (try simp at h); omega); have hz0 : w.heap.size < w1.heap.size := by omega) | (go_at_call 49; refine (BigBytes_any _ 4 (by omega) (by omega) (by omega) _).mono ?_; rintro e w1 ⟨rfl, hb⟩; obtain ⟨hc, hf⟩ := hb.cells; have hz : w.heap.size + 1 < w1.heap.size := (by have h := hb.size; (try simp at h); omega); have hz0 : w.heap.size < w1.heap.size := by omega))
    go_ret
    exact ⟨ret_str (congrArg strOfNums (by first | exact bn_neg4 n | exact bn_eq n 4)), (by repeat (first | (with_reducible exact Gr.refl _) | (with_reducible assumption) | (with_reducible refine Gr.alloc ?_ _) | (with_reducible refine Gr.drew ?_) | (with_reducible refine Gr.drewN ?_ _) | (with_reducible refine Gr.setCell ?_ (by simp <;> omega) _) | (with_reducible refine Gr.trans ?_ (by with_reducible assumption)) | exact Gr.refl _ | assumption | refine Gr.alloc ?_ _ | refine Gr.drew ?_ | refine Gr.drewN ?_ _ | refine Gr.setCell ?_ (by simp <;> omega) _ | refine Gr.trans ?_ (by assumption)))⟩

theorem Bytes_char (l s n : Int) (x : ByteArray) (w : World) :
    Calls Tryz.prog 20 #[.agg #[.int .i64 0, .int .i64 l, .int .i64 s], .agg #[.int .i64 n, .string x]] w fun e w' => e = .returned (.string x) ∧ Gr w w' := by
  go_enter Tryz.func20, Tryz.ntmps20
  go_wp2
  go_ret
  exact ⟨rfl, (by repeat (first | (with_reducible exact Gr.refl _) | (with_reducible assumption) | (with_reducible refine Gr.alloc ?_ _) | (with_reducible refine Gr.drew ?_) | (with_reducible refine Gr.drewN ?_ _) | (with_reducible refine Gr.setCell ?_ (by simp <;> omega) _) | (with_reducible refine Gr.trans ?_ (by with_reducible assumption)) | exact Gr.refl _ | assumption | refine Gr.alloc ?_ _ | refine Gr.drew ?_ | refine Gr.drewN ?_ _ | refine Gr.setCell ?_ (by simp <;> omega) _ | refine Gr.trans ?_ (by assumption)))⟩

set_option maxHeartbeats 2000000 in
set_option maxRecDepth 100000 in
theorem Bytes_zoned (s n : Int) (L : Nat) (x : ByteArray) (h1 : 1 ≤ L) (h2 : L ≤ 15) (hn : -1000000000000000000 ≤ n) (hn' : n ≤ 1000000000000000000) (w : World) :
    Calls Tryz.prog 20 #[.agg #[.int .i64 2, .int .i64 (L : Int), .int .i64 s], .agg #[.int .i64 n, .string x]] w fun e w' => e = .returned (.string (strOfNums (znB n L))) ∧ Gr w w' := by
  have hmk := mk_bytes L L rfl (by omega)
  have ha : 0 ≤ absI n ∧ absI n ≤ 1000000000000000000 := by unfold absI; split <;> omega
  go_enter Tryz.func20, Tryz.ntmps20
  go_wp2
  go_region_held3 (fun w' => w'.cell? ⟨w.heap.size, 0, none⟩ = some (.int .i64 2) ∧ w'.cell? ⟨w.heap.size, 1, none⟩ = some (.int .i64 (L : Int)) ∧ w'.cell? ⟨w.heap.size, 2, none⟩ = some (.int .i64 s) ∧ w'.cell? ⟨w.heap.size + 1, 0, none⟩ = some (.int .i64 n) ∧ w'.cell? ⟨w.heap.size + 1, 1, none⟩ = some (.string x)) (first | (go_keep; done) | ((try go_split_ands); (repeat' apply And.intro) <;> ((try simp only [World.cell?_drew]); first | (with_reducible assumption) | (refine hb.keep ?_; (try simp only [World.cell?_drew]); first | (with_reducible assumption) | (simp [*, go_sem]; done)) | (simp [*, go_sem]; done)))) (first | (go_at_call 51; refine (Amount_any _ hn hn' _).mono ?_; rintro e w1 ⟨rfl, rfl⟩) | (go_at_call 50; refine (digits_any _ _ ha.1 ha.2 (by omega) _).mono ?_; rintro e w1 ⟨b, rfl, hA, hbs, hb⟩; obtain ⟨hc, hf⟩ := hb.cells; have hz : w.heap.size + 1 < w1.heap.size := by have h := hb.size; (try simp at h); omega))
  have k1 := Lib.hid (show w1.cell? ⟨w.heap.size, 1, none⟩ = some (.int .i64 L) from hb.keep (by first | (simp; done) | (simp [go_sem]; done)))
  have k3 := Lib.hid (show w1.cell? ⟨w.heap.size + 1, 0, none⟩ = some (.int .i64 n) from hb.keep (by first | (simp; done) | (simp [go_sem]; done)))
  have HB := Lib.hid hb
  have HA := Lib.hid hA
  have hA0 := Lib.hid (Arr.made_fl w1 .u8 5 L (fun j => if j < 0 then 240 + dig (absI n) (L - 1 - j) else 0) (fun i hi => by rw [if_neg (by omega)]))
  have hbl := hA.lt
  have hG1 := Lib.hid ((by repeat (first | (with_reducible exact Gr.refl _) | (with_reducible assumption) | (with_reducible refine Gr.alloc ?_ _) | (with_reducible refine Gr.drew ?_) | (with_reducible refine Gr.drewN ?_ _) | (with_reducible refine Gr.setCell ?_ (by simp <;> omega) _) | (with_reducible refine Gr.trans ?_ (by with_reducible assumption)) | exact Gr.refl _ | assumption | refine Gr.alloc ?_ _ | refine Gr.drew ?_ | refine Gr.drewN ?_ _ | refine Gr.setCell ?_ (by simp <;> omega) _ | refine Gr.trans ?_ (by assumption))) : Gr w w1)
  clear hb hA hc hf
  go_wp2
  go_loopw [8] (fun i wr => ∃ q : Nat, q ≤ L ∧ i = .int .i64 q ∧ Hid (Arr wr w1.heap.size .u8 5 (fl L (fun j => if j < q then 240 + dig (absI n) (L - 1 - j) else 0))) ∧ Hid (Below w1.heap.size w1 wr)) (fun i _ => L - (intOf i).toNat)
  case atStart => exact ⟨0, by omega, rfl, hA0, (Below.refl _ _).alloc (Nat.le_refl _) _⟩
  case round =>
    obtain ⟨q, hq, rfl, hA, hB⟩ := hrel
    have c1 : wr.cell? ⟨w.heap.size, 1, none⟩ = some (.int .i64 L) := keepc hB.out (by simp; omega) k1.out
    have c3 : wr.cell? ⟨w.heap.size + 1, 0, none⟩ = some (.int .i64 n) := keepc hB.out (by simp; omega) k3.out
    have hD := Lib.hid (HA.out.below hB.out hbl)
    by_cases hlt : q < L
    · have hd := hD.out.cell q (by unfold dgL; rw [fl_length]; exact hlt)
      have hdb := dig_bd (absI n) (L - 1 - q)
      rw [show (dgL (absI n) L).getD q 0 = dig (absI n) (L - 1 - q) from fl_getD hlt] at hd
      obtain ⟨v0, hv0⟩ := hA.out.has q hlt
      have hf0 := hA.out.frozen q
      go_wp2
      go_roundw
      case rel =>
        refine ⟨q + 1, by omega, by go_num, Lib.hid (hA.out.set_fl _ _ fun i hi => ?_), Lib.hid (hB.out.setCell (by simp) _)⟩
        by_cases e : i = q
        · subst e; rw [if_pos (by omega), if_pos rfl]
        · rw [if_neg e]; by_cases e2 : i < q
          · rw [if_pos e2, if_pos (by omega)]
          · rw [if_neg e2, if_neg (by omega)]
      case measure => simp [intOf]; omega
    · have hqL := Lib.hid (show q = L by omega)
      have hd := hD.out.cell (L - 1) (by unfold dgL; rw [fl_length]; omega)
      have hdb := dig_bd (absI n) 0
      rw [show (dgL (absI n) L).getD (L - 1) 0 = dig (absI n) 0 by rw [show (dgL (absI n) L).getD (L - 1) 0 = dig (absI n) (L - 1 - (L - 1)) from fl_getD (by omega), Nat.sub_self]] at hd
      obtain ⟨v0, hv0⟩ := hA.out.has (L - 1) (by omega)
      have hf0 := hA.out.frozen (L - 1)
      have hLL : (1 : Int) ≤ L := by omega
      by_cases h0 : n < 0
      · have hw208 : IntKind.i64.wrap (208 + dig (absI n) 0) = 208 + dig (absI n) 0 := IntWalk.i64_in _ (by omega)
        have hwu : IntKind.u8.wrap (208 + dig (absI n) 0) = 208 + dig (absI n) 0 := IntWalk.u8_in _ (by omega)
        have hl1 : IntKind.i64.wrap ((L : Int) - 1) = (L : Int) - 1 := IntWalk.i64_in _ (by omega)
        have hs1 := hA.out.set (L - 1) (208 + dig (absI n) 0)
        have hs2 := str_of (n := L) (cap := L) hs1.drew (by simp [fl_length])
        have hs3 := Lib.hid hs1
        clear hs1
        go_wp2
        go_region
        go_wp2
        go_ret
        refine ⟨ret_str (congrArg strOfNums ?_), (Gr.trans hG1.out (hB.out.mono (Nat.le_refl _))).drew.setCell (by simp; omega) _⟩
        rw [fl_set]
        unfold znB
        apply fl_congr
        intro i hi
        have hq' := hqL.out
        by_cases e : i = L - 1
        · simp [e, signI, h0]
        · simp [e, show i < q by omega]
      · have hs2 := str_of (n := L) (cap := L) hA.out (fl_length _ _)
        go_wp2
        go_ret
        refine ⟨ret_str (congrArg strOfNums ?_), Gr.trans hG1.out (hB.out.mono (Nat.le_refl _))⟩
        unfold znB
        apply fl_congr
        intro i hi
        have hq' := hqL.out
        by_cases e : i = L - 1
        · subst e; have hsn : signI n = 15 := by unfold signI; rw [if_neg (by omega)]
          simp [hsn, show L - 1 < q by omega]
        · simp [e, show i < q by omega]
end Go.Proofs.YtnaflaokhldfnaaGreat
namespace Go.Proofs.YtnaflaokhldfnaaGreat
set_option linter.unusedSimpArgs false
set_option linter.unusedVariables false
open Go.RowKit

theorem dgL_length (a : Int) (L : Nat) : (dgL a L).length = L := fl_length _ _

theorem sgn_count (n : Int) : 15 - 2 * countI (decide (n < 0)) = signI n := by
  unfold countI signI; by_cases h : n < 0 <;> simp [h]
theorem pkH_even (n : Int) (p L : Nat) (hL : 2 * p = L) (hz : dig (absI n) (2 * p) = 0) : ([0] ++ dgL (absI n) L) ++ [15 - 2 * countI (decide (n < 0))] = pkH n (p + 1) := by
  rw [sgn_count]
  subst hL
  apply List.ext_getElem
  · simp [pkH, dgL, fl]; omega
  · intro i h1 h2
    have h3 : i < 2 * (p + 1) := by simpa [pkH, fl] using h2
    simp only [pkH, fl, List.getElem_map, List.getElem_range, dgL]
    by_cases e : i = 2 * (p + 1) - 1
    · subst e
      rw [List.getElem_append_right (by simp; omega)]
      simp
    · rw [if_neg e, List.getElem_append_left (by simp; omega)]
      cases i with
      | zero => simp; rw [show 2 * (p + 1) - 2 = 2 * p by omega]; exact hz.symm
      | succ j => simp; congr 1; omega

set_option maxHeartbeats 4000000 in
set_option maxRecDepth 100000 in
theorem Bytes_even (s n : Int) (p : Nat) (x : ByteArray) (h1 : 1 ≤ p) (h2 : p ≤ 7) (hn : -1000000000000000000 ≤ n) (hn' : n ≤ 1000000000000000000) (hz10 : dig (absI n) (2 * p) = 0) (w : World) :
    Calls Tryz.prog 20 #[.agg #[.int .i64 1, .int .i64 ((2 * p : Nat) : Int), .int .i64 s], .agg #[.int .i64 n, .string x]] w fun e w' => e = .returned (.string (strOfNums (pkB n (p + 1)))) ∧ Gr w w' := by
  have ha : 0 ≤ absI n ∧ absI n ≤ 1000000000000000000 := by unfold absI; split <;> omega
  have HZ := Lib.hid hz10
  clear hz10
  obtain ⟨i0, hi, hz0, hz1, hz2⟩ := info_parts info3
  obtain ⟨L, hL⟩ : ∃ L, 2 * p = L := ⟨_, rfl⟩
  rw [hL]
  have HL := Lib.hid hL
  have hL2 : (L : Int) % 2 = 0 := by omega
  have hLb : 2 ≤ L ∧ L ≤ 14 := by omega
  clear hL
  have hL3 : ((L : Int) % 2 == 0) = true := by simp [hL2]
  have hmk := mk_bytes (((L : Int) + 2) / 2) (p + 1) (by have := HL.out; omega) (by omega)
  go_enter Tryz.func20, Tryz.ntmps20
  go_wp2
  go_region_held3 (fun w' => w'.cell? ⟨w.heap.size, 0, none⟩ = some (.int .i64 1) ∧ w'.cell? ⟨w.heap.size, 1, none⟩ = some (.int .i64 (L : Int)) ∧ w'.cell? ⟨w.heap.size, 2, none⟩ = some (.int .i64 s) ∧ w'.cell? ⟨w.heap.size + 1, 0, none⟩ = some (.int .i64 n) ∧ w'.cell? ⟨w.heap.size + 1, 1, none⟩ = some (.string x)) (first | (go_keep; done) | ((try go_split_ands); (repeat' apply And.intro) <;> ((try simp only [World.cell?_drew]); first | (with_reducible assumption) | (refine hb.keep ?_; (try simp only [World.cell?_drew]); first | (with_reducible assumption) | (simp [*, go_sem]; done)) | (simp [*, go_sem]; done)))) (first | (go_at_call 51; refine (Amount_any _ hn hn' _).mono ?_; rintro e w1 ⟨rfl, rfl⟩) | (go_at_call 50; refine (digits_any _ _ ha.1 ha.2 (by omega) _).mono ?_; rintro e w1 ⟨b, rfl, hA, hbs, hb⟩; obtain ⟨hc, hf⟩ := hb.cells; have hz : w.heap.size + 1 < w1.heap.size := by have h := hb.size; (try simp at h); omega))
  have k0 := Lib.hid (show w1.cell? ⟨w.heap.size, 0, none⟩ = some (.int .i64 1) from hb.keep (by first | (simp; done) | (simp [go_sem]; done)))
  have k1 := Lib.hid (show w1.cell? ⟨w.heap.size, 1, none⟩ = some (.int .i64 L) from hb.keep (by first | (simp; done) | (simp [go_sem]; done)))
  have k3 := Lib.hid (show w1.cell? ⟨w.heap.size + 1, 0, none⟩ = some (.int .i64 n) from hb.keep (by first | (simp; done) | (simp [go_sem]; done)))
  have hbs' : w.heap.size + 2 ≤ b := by have := hbs; simp at this; omega
  have HA := Lib.hid hA
  have hbl := hA.lt
  have hO1 := Lib.hid (Own.of_arr (B := w.heap.size + 2) (n := 1) (m := 1) (Arr.new w1 .i64 3 (c := #[.int .i64 0]) (xs := [0]) rfl) (by omega) (by unfold maxLen; simp) rfl rfl)
  have hG1 := Lib.hid ((by repeat (first | (with_reducible exact Gr.refl _) | (with_reducible assumption) | (with_reducible refine Gr.alloc ?_ _) | (with_reducible refine Gr.drew ?_) | (with_reducible refine Gr.drewN ?_ _) | (with_reducible refine Gr.setCell ?_ (by simp <;> omega) _) | (with_reducible refine Gr.trans ?_ (by with_reducible assumption)) | exact Gr.refl _ | assumption | refine Gr.alloc ?_ _ | refine Gr.drew ?_ | refine Gr.drewN ?_ _ | refine Gr.setCell ?_ (by simp <;> omega) _ | refine Gr.trans ?_ (by assumption))) : Gr w w1)
  have c0 := k0.out
  have c1 := k1.out
  have c3 := k3.out
  clear hb hA hc hf hbs
  go_wp2_with (first
    | (at_builtin; (refine wp_append_ints _ rfl (.tmp 82) (.tmp 83) 84 3 rfl .i64 i0 8 Tryz.underlying84 hi hz0 hz1 hz2 (by decide) (w.heap.size + 2) _ [0] rfl hO1.out (L + 1) b L L (dgL (absI n) L) rfl (dgL_length _ _) (by omega) (fun j hj => ((Gr.refl w1).alloc _).keep (HA.out.cell j (by rw [dgL_length]; exact hj))) (by simp; omega) (by omega) (by simp; omega) ?_; intro g1 cap1 w2 hO2 hB2 hgr2 hg1 hg1l; have k0 : w2.cell? ⟨w.heap.size, 0, none⟩ = some (.int .i64 1) := keepc hB2 (by simp) (((Gr.refl w1).alloc _).keep k0.out); have k3 : w2.cell? ⟨w.heap.size + 1, 0, none⟩ = some (.int .i64 n) := keepc hB2 (by simp) (((Gr.refl w1).alloc _).keep k3.out)))
    | (at_builtin; go_loud (refine wp_append_ints _ rfl (.tmp 85) (.tmp 92) 84 3 rfl .i64 i0 8 Tryz.underlying84 hi hz0 hz1 hz2 (by decide) (w.heap.size + 2) _ ([0] ++ dgL (absI n) L) rfl (hO2.alloc _) (L + 2) w2.heap.size 1 1 [15 - 2 * countI (decide (n < 0))] rfl rfl (by omega) (one_cell _ _ _ _) (by simp [dgL_length] <;> omega) (by omega) (by have := hB2.size; simp at this; simp <;> omega) ?_; intro g2 cap2 w3 hO3 hB3 hgr3 hg2 hg2l))
    | (go_at_call 38; refine (Count_any _ _).mono ?_; rintro e w1 ⟨rfl, rfl, hc0, hc1⟩))
  have hGw := Lib.hid (show Gr w w3 from Below.trans ((Below.trans (hG1.out.alloc _) (hB2.mono (by omega))).alloc (by have := hB2.size; simp at this; omega) _) (hB3.mono (by omega)))
  have hPK := Lib.hid (pkH_even n p L HL.out HZ.out)
  have hO := Lib.hid (hO3.alloc (.cells (mkz .u8 (p + 1)) 5))
  rw [hPK.out] at hO
  have hA0 := Lib.hid (Arr.made_fl w3 .u8 5 (p + 1) (fun j => if j < 0 then 16 * (pkH n (p + 1)).getD (2 * j) 0 + (pkH n (p + 1)).getD (2 * j + 1) 0 else 0) (fun i hi => by rw [if_neg (by omega)]))
  clear hO3 hgr3 hB3
  go_loopw [10] (fun i wr => ∃ q : Nat, q ≤ p + 1 ∧ i = .int .i64 q ∧ Hid (Own wr (w.heap.size + 2) .i64 3 (.slice (some ⟨g2, 0, none⟩) (L + 2) cap2) (pkH n (p + 1))) ∧ Hid (Arr wr w3.heap.size .u8 5 (fl (p + 1) (fun j => if j < q then 16 * (pkH n (p + 1)).getD (2 * j) 0 + (pkH n (p + 1)).getD (2 * j + 1) 0 else 0))) ∧ Hid (Below w3.heap.size w3 wr)) (fun i _ => p + 1 - (intOf i).toNat)
  case atStart => exact ⟨0, by omega, rfl, hO, hA0, (Below.refl _ _).alloc (Nat.le_refl _) _⟩
  case round =>
    obtain ⟨q, hq, rfl, hX, hY, hB⟩ := hrel
    have hLL := Lib.hid (show L = 2 * p from HL.out.symm)
    by_cases hlt : q < p + 1
    · have cx0 := hX.out.cell (2 * q) (by unfold pkH; rw [fl_length]; omega)
      have cx1 := hX.out.cell (2 * q + 1) (by unfold pkH; rw [fl_length]; omega)
      have hbd := pkH_bd n (p + 1)
      obtain ⟨x1, hx⟩ : ∃ x, (pkH n (p + 1)).getD (2 * q) 0 = x := ⟨_, rfl⟩
      obtain ⟨y1, hy⟩ : ∃ y, (pkH n (p + 1)).getD (2 * q + 1) 0 = y := ⟨_, rfl⟩
      have hx0 := hbd (2 * q)
      have hy0 := hbd (2 * q + 1)
      rw [hx] at cx0 hx0
      rw [hy] at cx1 hy0
      have HX := Lib.hid hx
      have HY := Lib.hid hy
      clear hx hy hbd
      obtain ⟨v0, hv0⟩ := hY.out.has q hlt
      have hf0 := hY.out.frozen q
      have hw1 : IntKind.i64.wrap (16 * x1) = 16 * x1 := IntWalk.i64_in _ (by omega)
      have hw2 : IntKind.i64.wrap (16 * x1 + y1) = 16 * x1 + y1 := IntWalk.i64_in _ (by omega)
      have hw3 : IntKind.u8.wrap (16 * x1 + y1) = 16 * x1 + y1 := IntWalk.u8_in _ (by omega)
      have hq0 : (0 : Int) ≤ q := by omega
      have hq1 : (q : Int) < (p : Int) + 1 := by omega
      have hq2 : 2 * (q : Int) + 1 < (L + 2 : Int) := by have := hLL.out; omega
      go_wp2
      go_region
      go_wp2
      go_roundw
      case rel =>
        refine ⟨q + 1, by omega, by go_num, Lib.hid (hX.out.below ((Below.refl w3.heap.size _).drew.setCell (by simp) _) (fun z hz => by simp [Value.ownBlock] at hz; omega)), Lib.hid ?_, Lib.hid (hB.out.drew.setCell (by simp) _)⟩
        refine (hY.out.set_fl q (16 * x1 + y1) fun i hi => ?_).drew
        by_cases e : i = q
        · subst e; rw [if_pos (by omega), if_pos rfl, HX.out, HY.out]
        · rw [if_neg e]; by_cases e2 : i < q
          · rw [if_pos e2, if_pos (by omega)]
          · rw [if_neg e2, if_neg (by omega)]
      case measure => simp [intOf]; omega
    · have hs := str_of (n := p + 1) (cap := p + 1) hY.out (fl_length _ _)
      have hqp := Lib.hid (show q = p + 1 by omega)
      go_wp2
      go_ret
      refine ⟨ret_str (congrArg strOfNums (fl_congr fun i hi => ?_)), Gr.trans hGw.out (hB.out.mono (Nat.le_refl _))⟩
      have := hqp.out
      simp [show i < q by omega]
end Go.Proofs.YtnaflaokhldfnaaGreat
namespace Go.Proofs.YtnaflaokhldfnaaGreat
set_option linter.unusedSimpArgs false
set_option linter.unusedVariables false
open Go.RowKit

theorem pkH_odd (n : Int) (p L : Nat) (hL : 2 * p + 1 = L) : dgL (absI n) L ++ [15 - 2 * countI (decide (n < 0))] = pkH n (p + 1) := by
  rw [sgn_count]
  subst hL
  apply List.ext_getElem
  · simp [pkH, dgL, fl]; omega
  · intro i h1 h2
    have h3 : i < 2 * (p + 1) := by simpa [pkH, fl] using h2
    simp only [pkH, fl, List.getElem_map, List.getElem_range, dgL]
    by_cases e : i = 2 * (p + 1) - 1
    · subst e
      rw [List.getElem_append_right (by simp; omega)]
      simp
    · rw [if_neg e, List.getElem_append_left (by simp; omega)]
      simp
      first | done | (congr 1; done) | (congr 1; omega)

set_option maxHeartbeats 4000000 in
set_option maxRecDepth 100000 in
theorem Bytes_odd (s n : Int) (p : Nat) (x : ByteArray) (h2 : p ≤ 7) (hn : -1000000000000000000 ≤ n) (hn' : n ≤ 1000000000000000000) (w : World) :
    Calls Tryz.prog 20 #[.agg #[.int .i64 1, .int .i64 ((2 * p + 1 : Nat) : Int), .int .i64 s], .agg #[.int .i64 n, .string x]] w fun e w' => e = .returned (.string (strOfNums (pkB n (p + 1)))) ∧ Gr w w' := by
  have ha : 0 ≤ absI n ∧ absI n ≤ 1000000000000000000 := by unfold absI; split <;> omega
  obtain ⟨i0, hi, hz0, hz1, hz2⟩ := info_parts info3
  obtain ⟨L, hL⟩ : ∃ L, 2 * p + 1 = L := ⟨_, rfl⟩
  rw [hL]
  have HL := Lib.hid hL
  have hL2 : (L : Int) % 2 = 1 := by omega
  have hLb : 1 ≤ L ∧ L ≤ 15 := by omega
  clear hL
  have hL3 : ((L : Int) % 2 == 0) = false := by simp [hL2]
  have hmk := mk_bytes (((L : Int) + 1) / 2) (p + 1) (by have := HL.out; omega) (by omega)
  go_enter Tryz.func20, Tryz.ntmps20
  go_wp2
  go_region_held3 (fun w' => w'.cell? ⟨w.heap.size, 0, none⟩ = some (.int .i64 1) ∧ w'.cell? ⟨w.heap.size, 1, none⟩ = some (.int .i64 (L : Int)) ∧ w'.cell? ⟨w.heap.size, 2, none⟩ = some (.int .i64 s) ∧ w'.cell? ⟨w.heap.size + 1, 0, none⟩ = some (.int .i64 n) ∧ w'.cell? ⟨w.heap.size + 1, 1, none⟩ = some (.string x)) (first | (go_keep; done) | ((try go_split_ands); (repeat' apply And.intro) <;> ((try simp only [World.cell?_drew]); first | (with_reducible assumption) | (refine hb.keep ?_; (try simp only [World.cell?_drew]); first | (with_reducible assumption) | (simp [*, go_sem]; done)) | (simp [*, go_sem]; done)))) (first | (go_at_call 51; refine (Amount_any _ hn hn' _).mono ?_; rintro e w1 ⟨rfl, rfl⟩) | (go_at_call 50; refine (digits_any _ _ ha.1 ha.2 (by omega) _).mono ?_; rintro e w1 ⟨b, rfl, hA, hbs, hb⟩; obtain ⟨hc, hf⟩ := hb.cells; have hz : w.heap.size + 1 < w1.heap.size := by have h := hb.size; (try simp at h); omega))
  have k0 := Lib.hid (show w1.cell? ⟨w.heap.size, 0, none⟩ = some (.int .i64 1) from hb.keep (by first | (simp; done) | (simp [go_sem]; done)))
  have k1 := Lib.hid (show w1.cell? ⟨w.heap.size, 1, none⟩ = some (.int .i64 L) from hb.keep (by first | (simp; done) | (simp [go_sem]; done)))
  have k3 := Lib.hid (show w1.cell? ⟨w.heap.size + 1, 0, none⟩ = some (.int .i64 n) from hb.keep (by first | (simp; done) | (simp [go_sem]; done)))
  have hbs' : w.heap.size + 2 ≤ b := by have := hbs; simp at this; omega
  have HA := Lib.hid hA
  have hbl := hA.lt
  have hO1 := Lib.hid ((Own.of_arr (B := w.heap.size + 2) (n := L) (m := L) hA hbs' (by rw [dgL_length]; unfold maxLen; omega) (dgL_length _ _) (dgL_length _ _)).alloc (.cells #[.int .i64 (15 - 2 * countI (decide (n < 0)))] 3))
  have hG1 := Lib.hid ((by repeat (first | (with_reducible exact Gr.refl _) | (with_reducible assumption) | (with_reducible refine Gr.alloc ?_ _) | (with_reducible refine Gr.drew ?_) | (with_reducible refine Gr.drewN ?_ _) | (with_reducible refine Gr.setCell ?_ (by simp <;> omega) _) | (with_reducible refine Gr.trans ?_ (by with_reducible assumption)) | exact Gr.refl _ | assumption | refine Gr.alloc ?_ _ | refine Gr.drew ?_ | refine Gr.drewN ?_ _ | refine Gr.setCell ?_ (by simp <;> omega) _ | refine Gr.trans ?_ (by assumption))) : Gr w w1)
  have c0 := k0.out
  have c1 := k1.out
  have c3 := k3.out
  clear hb hA hc hf hbs
  go_wp2_with (first
    | (at_builtin; go_loud (refine wp_append_ints _ rfl (.tmp 85) (.tmp 92) 84 3 rfl .i64 i0 8 Tryz.underlying84 hi hz0 hz1 hz2 (by decide) (w.heap.size + 2) _ (dgL (absI n) L) rfl hO1.out (L + 1) w1.heap.size 1 1 [15 - 2 * countI (decide (n < 0))] rfl rfl (by omega) (one_cell _ _ _ _) (by simp [dgL_length] <;> omega) (by omega) (by simp <;> omega) ?_; intro g2 cap2 w3 hO3 hB3 hgr3 hg2 hg2l))
    | (go_at_call 38; refine (Count_any _ _).mono ?_; rintro e w1 ⟨rfl, rfl, hc0, hc1⟩))
  have hGw := Lib.hid (show Gr w w3 from Below.trans (hG1.out.alloc _) (hB3.mono (by omega)))
  have hPK := Lib.hid (pkH_odd n p L HL.out)
  have hO := Lib.hid (hO3.alloc (.cells (mkz .u8 (p + 1)) 5))
  rw [hPK.out] at hO
  have hA0 := Lib.hid (Arr.made_fl w3 .u8 5 (p + 1) (fun j => if j < 0 then 16 * (pkH n (p + 1)).getD (2 * j) 0 + (pkH n (p + 1)).getD (2 * j + 1) 0 else 0) (fun i hi => by rw [if_neg (by omega)]))
  clear hO3 hgr3 hB3
  go_loopw [10] (fun i wr => ∃ q : Nat, q ≤ p + 1 ∧ i = .int .i64 q ∧ Hid (Own wr (w.heap.size + 2) .i64 3 (.slice (some ⟨g2, 0, none⟩) (L + 1) cap2) (pkH n (p + 1))) ∧ Hid (Arr wr w3.heap.size .u8 5 (fl (p + 1) (fun j => if j < q then 16 * (pkH n (p + 1)).getD (2 * j) 0 + (pkH n (p + 1)).getD (2 * j + 1) 0 else 0))) ∧ Hid (Below w3.heap.size w3 wr)) (fun i _ => p + 1 - (intOf i).toNat)
  case atStart => exact ⟨0, by omega, rfl, hO, hA0, (Below.refl _ _).alloc (Nat.le_refl _) _⟩
  case round =>
    obtain ⟨q, hq, rfl, hX, hY, hB⟩ := hrel
    have hLL := Lib.hid (show L = 2 * p + 1 from HL.out.symm)
    by_cases hlt : q < p + 1
    · have cx0 := hX.out.cell (2 * q) (by unfold pkH; rw [fl_length]; omega)
      have cx1 := hX.out.cell (2 * q + 1) (by unfold pkH; rw [fl_length]; omega)
      have hbd := pkH_bd n (p + 1)
      obtain ⟨x1, hx⟩ : ∃ x, (pkH n (p + 1)).getD (2 * q) 0 = x := ⟨_, rfl⟩
      obtain ⟨y1, hy⟩ : ∃ y, (pkH n (p + 1)).getD (2 * q + 1) 0 = y := ⟨_, rfl⟩
      have hx0 := hbd (2 * q)
      have hy0 := hbd (2 * q + 1)
      rw [hx] at cx0 hx0
      rw [hy] at cx1 hy0
      have HX := Lib.hid hx
      have HY := Lib.hid hy
      clear hx hy hbd
      obtain ⟨v0, hv0⟩ := hY.out.has q hlt
      have hf0 := hY.out.frozen q
      have hw1 : IntKind.i64.wrap (16 * x1) = 16 * x1 := IntWalk.i64_in _ (by omega)
      have hw2 : IntKind.i64.wrap (16 * x1 + y1) = 16 * x1 + y1 := IntWalk.i64_in _ (by omega)
      have hw3 : IntKind.u8.wrap (16 * x1 + y1) = 16 * x1 + y1 := IntWalk.u8_in _ (by omega)
      have hq0 : (0 : Int) ≤ q := by omega
      have hq1 : (q : Int) < (p : Int) + 1 := by omega
      have hq2 : 2 * (q : Int) + 1 < (L + 1 : Int) := by have := hLL.out; omega
      go_wp2
      go_region
      go_wp2
      go_roundw
      case rel =>
        refine ⟨q + 1, by omega, by go_num, Lib.hid (hX.out.below ((Below.refl w3.heap.size _).drew.setCell (by simp) _) (fun z hz => by simp [Value.ownBlock] at hz; omega)), Lib.hid ?_, Lib.hid (hB.out.drew.setCell (by simp) _)⟩
        refine (hY.out.set_fl q (16 * x1 + y1) fun i hi => ?_).drew
        by_cases e : i = q
        · subst e; rw [if_pos (by omega), if_pos rfl, HX.out, HY.out]
        · rw [if_neg e]; by_cases e2 : i < q
          · rw [if_pos e2, if_pos (by omega)]
          · rw [if_neg e2, if_neg (by omega)]
      case measure => simp [intOf]; omega
    · have hs := str_of (n := p + 1) (cap := p + 1) hY.out (fl_length _ _)
      have hqp := Lib.hid (show q = p + 1 by omega)
      go_wp2
      go_ret
      refine ⟨ret_str (congrArg strOfNums (fl_congr fun i hi => ?_)), Gr.trans hGw.out (hB.out.mono (Nat.le_refl _))⟩
      have := hqp.out
      simp [show i < q by omega]

theorem dig_above (a : Int) (i : Nat) (h0 : 0 ≤ a) (h : a < 10 ^ i) : dig a i = 0 := by
  unfold dig; rw [Int.ediv_eq_zero_of_lt h0 h]; rfl

set_option maxHeartbeats 1000000 in
theorem Bytes_any (k l s n : Int) (x : ByteArray) (h : valErr k l s n x = 0) (w : World) :
    Calls Tryz.prog 20 #[.agg #[.int .i64 k, .int .i64 l, .int .i64 s], .agg #[.int .i64 n, .string x]] w fun e w' => e = .returned (.string (strB k l n x)) ∧ Gr w w' := by
  obtain ⟨h1, h2, l0, l1, n0, n1⟩ := valErr_ok h
  obtain ⟨-, -, l15, k0, k1⟩ := typeErr_len h1 h2
  have hf : k ≠ 0 → absI n < 10 ^ l.toNat := by
    intro hk
    have h3 : fitsB n l = true := by
      by_cases hf : fitsB n l = true
      · exact hf
      · by_cases hx : x.size = 0 <;> simp [valErr, h1, h2, hk, hf, hx] at h
    simp only [fitsB, decide_eq_true_eq] at h3
    unfold most p10 at h3
    unfold absI; split <;> omega
  by_cases e0 : k = 0
  · subst e0; exact (Bytes_char l s n x w).mono fun e w' ⟨a, b⟩ => ⟨by rw [a]; simp [strB], b⟩
  have hF := hf e0
  clear hf
  have l15 := l15 e0
  by_cases e1 : k = 1
  · subst e1
    obtain ⟨p, hp⟩ : ∃ p : Nat, l = ((2 * p : Nat) : Int) ∨ l = ((2 * p + 1 : Nat) : Int) := ⟨(l / 2).toNat, by omega⟩
    rcases hp with hp | hp
    · subst hp
      have hd := dig_above (absI n) (2 * p) (by unfold absI; split <;> omega) (by rw [Int.toNat_natCast] at hF; exact hF)
      refine (Bytes_even s n p x (by omega) (by omega) n0 n1 hd w).mono fun e w' ⟨a, b⟩ => ⟨?_, b⟩
      rw [a]; unfold strB; rw [if_pos rfl, show (sizeI 1 ((2 * p : Nat) : Int)).toNat = p + 1 by unfold sizeI; rw [if_pos rfl]; omega]
    · subst hp
      refine (Bytes_odd s n p x (by omega) n0 n1 w).mono fun e w' ⟨a, b⟩ => ⟨?_, b⟩
      rw [a]; unfold strB; rw [if_pos rfl, show (sizeI 1 ((2 * p + 1 : Nat) : Int)).toNat = p + 1 by unfold sizeI; rw [if_pos rfl]; omega]
  by_cases e2 : k = 2
  · subst e2
    obtain ⟨L, rfl⟩ := Int.eq_ofNat_of_zero_le (show 0 ≤ l by omega)
    exact (Bytes_zoned s n L x (by omega) (by omega) n0 n1 w).mono fun e w' ⟨a, b⟩ => ⟨by rw [a]; simp [strB], b⟩
  obtain rfl : k = 3 := by omega
  have hl : l = 4 ∨ l = 9 := by
    have h' : rightLen 3 l = true := by
      by_cases e : rightLen 3 l = true
      · exact e
      · exfalso; simp [typeErr, e] at h1
    simpa [rightLen] using h'
  rcases hl with rfl | rfl
  · have hf' : absI n < 10000 := hF
    exact (Bytes_bin4 s n x (by unfold absI at hf'; split at hf' <;> omega) (by unfold absI at hf'; split at hf' <;> omega) w).mono fun e w' ⟨a, b⟩ => ⟨by rw [a]; simp [strB, sizeI], b⟩
  · have hf' : absI n < 1000000000 := hF
    exact (Bytes_bin9 s n x (by unfold absI at hf'; split at hf' <;> omega) (by unfold absI at hf'; split at hf' <;> omega) w).mono fun e w' ⟨a, b⟩ => ⟨by rw [a]; simp [strB, sizeI], b⟩

end Go.Proofs.YtnaflaokhldfnaaGreat
