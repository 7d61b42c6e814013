import Derived.Test.YtmejhccdiimmlaaEc
import Derived.Test.YtmejhccdiimmlaaF0
namespace Go.Proofs.Ytmejhccdiimmlaa
set_option linter.unusedSimpArgs false
set_option linter.unusedVariables false
open Go.RowKit

theorem two_compl (n : Int) (S : Nat) (hS : S = 2 ∨ S = 4) (i : Nat) (hi : i < S) : (n + 2 ^ (8 * S)) / 256 ^ i % 256 = n / 2 ^ (8 * i) % 256 := by
  rcases hS with rfl | rfl
  · match i, hi with
    | 0, _ => simp; omega
    | 1, _ => simp; omega
  · match i, hi with
    | 0, _ => simp; omega
    | 1, _ => simp; omega
    | 2, _ => simp; omega
    | 3, _ => simp; omega
theorem pow_256 (i : Nat) : (256 : Int) ^ i = 2 ^ (8 * i) := by
  rw [Int.pow_mul]; rfl
theorem bn_eq (n : Int) (S : Nat) : fl S (fun j => n / 256 ^ (S - 1 - j) % 256) = bnB n S := by
  unfold bnB; apply fl_congr; intro i _; rw [pow_256]
theorem bn_neg (n : Int) (S : Nat) (hS : S = 2 ∨ S = 4) : fl S (fun j => (n + 2 ^ (8 * S)) / 256 ^ (S - 1 - j) % 256) = bnB n S := by
  unfold bnB; apply fl_congr; intro i hi; exact two_compl n S hS _ (by omega)

theorem bn_neg2 (n : Int) : fl 2 (fun j => (n + 65536) / 256 ^ (2 - 1 - j) % 256) = bnB n 2 := bn_neg n 2 (.inl rfl)
theorem bn_neg4 (n : Int) : fl 4 (fun j => (n + 4294967296) / 256 ^ (4 - 1 - j) % 256) = bnB n 4 := bn_neg n 4 (.inr rfl)

set_option maxHeartbeats 1000000 in
theorem Bytes_bin4 (s n : Int) (x : ByteArray) (hn : -10000 < n) (hn' : n < 10000) (w : World) :
    Calls Try.prog 54 #[.agg #[.int .i64 3, .int .i64 4, .int .i64 s], .agg #[.int .i64 n, .string x]] w fun e w' => e = .returned (.string (strOfNums (bnB n 2))) ∧ Gr w w' := by
  have hsz : sizeI 3 4 = 2 := by decide
  by_cases h0 : n < 0
  all_goals
    go_enter Try.func54, Try.ntmps54
    go_wp2_with (first | (go_at_call 21; refine (Size_any _ _ _ (by omega) (by omega) (by omega) _).mono ?_; rintro e w1 ⟨rfl, hb⟩; obtain ⟨hc, hf⟩ := hb.cells; have hz : w.heap.size + 1 < w1.heap.size := (by have h := hb.size; (try simp at h); omega); have hz0 : w.heap.size < w1.heap.size := by omega) | (go_at_call 98; refine (BigBytes_any _ 2 (by omega) (by omega) (by omega) _).mono ?_; rintro e w1 ⟨rfl, hb⟩; obtain ⟨hc, hf⟩ := hb.cells; have hz : w.heap.size + 1 < w1.heap.size := (by have h := hb.size; (try simp at h); omega); have hz0 : w.heap.size < w1.heap.size := by omega))
    go_ret
    exact ⟨ret_str (congrArg strOfNums (by first | exact bn_neg2 n | exact bn_eq n 2)), (by repeat (first | exact Gr.refl _ | assumption | refine Gr.alloc ?_ _ | refine Gr.drew ?_ | refine Gr.drewN ?_ _ | refine Gr.setCell ?_ (by simp <;> omega) _ | refine Gr.trans ?_ (by assumption)))⟩

set_option maxHeartbeats 1000000 in
theorem Bytes_bin9 (s n : Int) (x : ByteArray) (hn : -1000000000 < n) (hn' : n < 1000000000) (w : World) :
    Calls Try.prog 54 #[.agg #[.int .i64 3, .int .i64 9, .int .i64 s], .agg #[.int .i64 n, .string x]] w fun e w' => e = .returned (.string (strOfNums (bnB n 4))) ∧ Gr w w' := by
  have hsz : sizeI 3 9 = 4 := by decide
  by_cases h0 : n < 0
  all_goals
    go_enter Try.func54, Try.ntmps54
    go_wp2_with (first | (go_at_call 21; refine (Size_any _ _ _ (by omega) (by omega) (by omega) _).mono ?_; rintro e w1 ⟨rfl, hb⟩; obtain ⟨hc, hf⟩ := hb.cells; have hz : w.heap.size + 1 < w1.heap.size := (by have h := hb.size; (try simp at h); omega); have hz0 : w.heap.size < w1.heap.size := by omega) | (go_at_call 98; refine (BigBytes_any _ 4 (by omega) (by omega) (by omega) _).mono ?_; rintro e w1 ⟨rfl, hb⟩; obtain ⟨hc, hf⟩ := hb.cells; have hz : w.heap.size + 1 < w1.heap.size := (by have h := hb.size; (try simp at h); omega); have hz0 : w.heap.size < w1.heap.size := by omega))
    go_ret
    exact ⟨ret_str (congrArg strOfNums (by first | exact bn_neg4 n | exact bn_eq n 4)), (by repeat (first | exact Gr.refl _ | assumption | refine Gr.alloc ?_ _ | refine Gr.drew ?_ | refine Gr.drewN ?_ _ | refine Gr.setCell ?_ (by simp <;> omega) _ | refine Gr.trans ?_ (by assumption)))⟩

theorem Bytes_char (l s n : Int) (x : ByteArray) (w : World) :
    Calls Try.prog 54 #[.agg #[.int .i64 0, .int .i64 l, .int .i64 s], .agg #[.int .i64 n, .string x]] w fun e w' => e = .returned (.string x) ∧ Gr w w' := by
  go_enter Try.func54, Try.ntmps54
  go_wp2
  go_ret
  exact ⟨rfl, (by repeat (first | exact Gr.refl _ | assumption | refine Gr.alloc ?_ _ | refine Gr.drew ?_ | refine Gr.drewN ?_ _ | refine Gr.setCell ?_ (by simp <;> omega) _ | refine Gr.trans ?_ (by assumption)))⟩

set_option maxHeartbeats 2000000 in
set_option maxRecDepth 100000 in
theorem Bytes_zoned (s n : Int) (L : Nat) (x : ByteArray) (h1 : 1 ≤ L) (h2 : L ≤ 15) (hn : -1000000000000000000 ≤ n) (hn' : n ≤ 1000000000000000000) (w : World) :
    Calls Try.prog 54 #[.agg #[.int .i64 2, .int .i64 (L : Int), .int .i64 s], .agg #[.int .i64 n, .string x]] w fun e w' => e = .returned (.string (strOfNums (znB n L))) ∧ Gr w w' := by
  have hmk := mk_bytes L L rfl (by omega)
  have ha : 0 ≤ absI n ∧ absI n ≤ 1000000000000000000 := by unfold absI; split <;> omega
  go_enter Try.func54, Try.ntmps54
  go_wp2
  go_region_held3 (fun w' => w'.cell? ⟨w.heap.size, 0, none⟩ = some (.int .i64 2) ∧ w'.cell? ⟨w.heap.size, 1, none⟩ = some (.int .i64 (L : Int)) ∧ w'.cell? ⟨w.heap.size, 2, none⟩ = some (.int .i64 s) ∧ w'.cell? ⟨w.heap.size + 1, 0, none⟩ = some (.int .i64 n) ∧ w'.cell? ⟨w.heap.size + 1, 1, none⟩ = some (.string x)) (first | (go_keep; done) | ((try go_split_ands); (repeat' apply And.intro) <;> ((try simp only [World.cell?_drew]); first | assumption | (refine hb.keep ?_; (try simp only [World.cell?_drew]); first | assumption | (simp [*, go_sem]; done)) | (simp [*, go_sem]; done)))) (first | (go_at_call 100; refine (Amount_any _ hn hn' _).mono ?_; rintro e w1 ⟨rfl, rfl⟩) | (go_at_call 99; refine (digits_any _ _ ha.1 ha.2 (by omega) _).mono ?_; rintro e w1 ⟨b, rfl, hA, hbs, hb⟩; obtain ⟨hc, hf⟩ := hb.cells; have hz : w.heap.size + 1 < w1.heap.size := by have h := hb.size; (try simp at h); omega))
  have k1 := Lib.hid (show w1.cell? ⟨w.heap.size, 1, none⟩ = some (.int .i64 L) from hb.keep (by first | (simp; done) | (simp [go_sem]; done)))
  have k3 := Lib.hid (show w1.cell? ⟨w.heap.size + 1, 0, none⟩ = some (.int .i64 n) from hb.keep (by first | (simp; done) | (simp [go_sem]; done)))
  have HB := Lib.hid hb
  have HA := Lib.hid hA
  have hA0 := Lib.hid (Arr.made_fl w1 .u8 5 L (fun j => if j < 0 then 240 + dig (absI n) (L - 1 - j) else 0) (fun i hi => by rw [if_neg (by omega)]))
  have hbl := hA.lt
  have hG1 := Lib.hid ((by repeat (first | exact Gr.refl _ | assumption | refine Gr.alloc ?_ _ | refine Gr.drew ?_ | refine Gr.drewN ?_ _ | refine Gr.setCell ?_ (by simp <;> omega) _ | refine Gr.trans ?_ (by assumption))) : Gr w w1)
  clear hb hA hc hf
  go_wp2
  go_loopw [8] (fun i wr => ∃ q : Nat, q ≤ L ∧ i = .int .i64 q ∧ Hid (Arr wr w1.heap.size .u8 5 (fl L (fun j => if j < q then 240 + dig (absI n) (L - 1 - j) else 0))) ∧ Hid (Below w1.heap.size w1 wr)) (fun i _ => L - (intOf i).toNat)
  case atStart => exact ⟨0, by omega, rfl, hA0, (Below.refl _ _).alloc (Nat.le_refl _) _⟩
  case round =>
    obtain ⟨q, hq, rfl, hA, hB⟩ := hrel
    have c1 : wr.cell? ⟨w.heap.size, 1, none⟩ = some (.int .i64 L) := keepc hB.out (by simp; omega) k1.out
    have c3 : wr.cell? ⟨w.heap.size + 1, 0, none⟩ = some (.int .i64 n) := keepc hB.out (by simp; omega) k3.out
    have hD := Lib.hid (HA.out.below hB.out hbl)
    by_cases hlt : q < L
    · have hd := hD.out.cell q (by unfold dgL; rw [fl_length]; exact hlt)
      have hdb := dig_bd (absI n) (L - 1 - q)
      rw [show (dgL (absI n) L).getD q 0 = dig (absI n) (L - 1 - q) from fl_getD hlt] at hd
      obtain ⟨v0, hv0⟩ := hA.out.has q hlt
      have hf0 := hA.out.frozen q
      go_wp2
      go_roundw
      case rel =>
        refine ⟨q + 1, by omega, by go_num, Lib.hid (hA.out.set_fl _ _ fun i hi => ?_), Lib.hid (hB.out.setCell (by simp) _)⟩
        by_cases e : i = q
        · subst e; rw [if_pos (by omega), if_pos rfl]
        · rw [if_neg e]; by_cases e2 : i < q
          · rw [if_pos e2, if_pos (by omega)]
          · rw [if_neg e2, if_neg (by omega)]
      case measure => simp [intOf]; omega
    · have hqL := Lib.hid (show q = L by omega)
      have hd := hD.out.cell (L - 1) (by unfold dgL; rw [fl_length]; omega)
      have hdb := dig_bd (absI n) 0
      rw [show (dgL (absI n) L).getD (L - 1) 0 = dig (absI n) 0 by rw [show (dgL (absI n) L).getD (L - 1) 0 = dig (absI n) (L - 1 - (L - 1)) from fl_getD (by omega), Nat.sub_self]] at hd
      obtain ⟨v0, hv0⟩ := hA.out.has (L - 1) (by omega)
      have hf0 := hA.out.frozen (L - 1)
      have hLL : (1 : Int) ≤ L := by omega
      by_cases h0 : n < 0
      · have hw208 : IntKind.i64.wrap (208 + dig (absI n) 0) = 208 + dig (absI n) 0 := IntWalk.i64_in _ (by omega)
        have hwu : IntKind.u8.wrap (208 + dig (absI n) 0) = 208 + dig (absI n) 0 := IntWalk.u8_in _ (by omega)
        have hl1 : IntKind.i64.wrap ((L : Int) - 1) = (L : Int) - 1 := IntWalk.i64_in _ (by omega)
        have hs1 := hA.out.set (L - 1) (208 + dig (absI n) 0)
        have hs2 := str_of (n := L) (cap := L) hs1.drew (by simp [fl_length])
        have hs3 := Lib.hid hs1
        clear hs1
        go_wp2
        go_region
        go_wp2
        go_ret
        refine ⟨ret_str (congrArg strOfNums ?_), (Gr.trans hG1.out (hB.out.mono (Nat.le_refl _))).drew.setCell (by simp; omega) _⟩
        rw [fl_set]
        unfold znB
        apply fl_congr
        intro i hi
        have hq' := hqL.out
        by_cases e : i = L - 1
        · simp [e, signI, h0]
        · simp [e, show i < q by omega]
      · have hs2 := str_of (n := L) (cap := L) hA.out (fl_length _ _)
        go_wp2
        go_ret
        refine ⟨ret_str (congrArg strOfNums ?_), Gr.trans hG1.out (hB.out.mono (Nat.le_refl _))⟩
        unfold znB
        apply fl_congr
        intro i hi
        have hq' := hqL.out
        by_cases e : i = L - 1
        · subst e; have hsn : signI n = 15 := by unfold signI; rw [if_neg (by omega)]
          simp [hsn, show L - 1 < q by omega]
        · simp [e, show i < q by omega]
end Go.Proofs.Ytmejhccdiimmlaa
