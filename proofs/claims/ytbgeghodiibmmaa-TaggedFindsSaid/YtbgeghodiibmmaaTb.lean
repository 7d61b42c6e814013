/- Numbers in bytes, and back. -/
import Derived.Test.YtbgeghodiibmmaaG
import Derived.Test.YtbgeghodiibmmaaTa
namespace Go.Proofs.Ytbgeghodiibmmaa
set_option linter.unusedSimpArgs false
set_option linter.unusedVariables false
open Go.RowKit

set_option maxHeartbeats 1000000 in
theorem numberBytes_any (n : Int) (N : Int) (S : Nat) (hN : N = S) (hn : 0 ≤ n) (hs : S ≤ 7) (w : World) :
    Calls Try.prog 66 #[.int .i64 n, .int .i64 N] w fun e w' => e = .returned (.string (strOfNums (nB n S))) ∧ Gr w w' := by
  subst hN
  have hmk := mk_bs S S rfl (by omega)
  go_enter Try.func66, Try.ntmps66
  go_wp2
  have hA0 := Lib.hid (Arr.made_fl w .u8 5 S (fun j => if S - 0 ≤ j then n / 2 ^ (8 * (S - 1 - j)) % 256 else 0) (fun i hi => by rw [if_neg (by omega)]))
  go_loopw [10] (fun i wr => ∃ q : Nat, q ≤ S ∧ i = .int .i64 q ∧ Hid (Arr wr w.heap.size .u8 5 (fl S (fun j => if S - q ≤ j then n / 2 ^ (8 * (S - 1 - j)) % 256 else 0))) ∧ Hid (Gr w wr)) (fun i _ => S - (intOf i).toNat)
  case atStart => exact ⟨0, by omega, rfl, hA0, (Gr.refl _).alloc _⟩
  case round =>
    obtain ⟨q, hq, rfl, hA, hG⟩ := hrel
    by_cases hlt : q < S
    · obtain ⟨v0, hv0⟩ := hA.out.has (S - 1 - q) (by omega)
      have hf0 := hA.out.frozen (S - 1 - q)
      go_wp2
      go_roundw
      case rel =>
        refine ⟨q + 1, by omega, by go_num, Lib.hid (hA.out.set_fl _ _ fun i hi => ?_), Lib.hid (hG.out.setCell (by simp) _)⟩
        by_cases e : i = S - 1 - q
        · rw [if_pos (by omega), if_pos e, show S - 1 - i = q from by omega]
        · rw [if_neg e]; by_cases e2 : S - q ≤ i
          · rw [if_pos e2, if_pos (by omega)]
          · rw [if_neg e2, if_neg (by omega)]
      case measure => simp [intOf]; omega
    · have hqS := Lib.hid (show q = S by omega)
      have hs := str_bs (n := S) (cap := S) hA.out (fl_length _ _)
      go_wp2
      go_ret
      refine ⟨ret_str (congrArg strOfNums (fl_congr fun i hi => ?_)), hG.out⟩
      have := hqS.out
      simp [show S - q ≤ i by omega]

set_option maxHeartbeats 1000000 in
theorem BigBytes_any (n : Int) (N : Int) (S : Nat) (hN : N = S) (hn : 0 ≤ n) (hn' : n ≤ 9223372036854775807) (hs : S ≤ 7) (w : World) :
    Calls Try.prog 46 #[.int .i64 n, .int .i64 N] w fun e w' => e = .returned (.string (strOfNums (nB n S))) ∧ Gr w w' := by
  subst hN
  have hmk := mk_bs S S rfl (by omega)
  have HN := Lib.hid hn
  go_enter Try.func46, Try.ntmps46
  go_wp2
  have hA0 := Lib.hid (Arr.made_fl w .u8 5 S (fun j => if S - 0 ≤ j then n / 2 ^ (8 * (S - 1 - j)) % 256 else 0) (fun i hi => by rw [if_neg (by omega)]))
  go_loopw [0, 6] (fun x i wr => ∃ q : Nat, q ≤ S ∧ i = .int .i64 q ∧ x = .int .i64 (n / 2 ^ (8 * q)) ∧ Hid (Arr wr w.heap.size .u8 5 (fl S (fun j => if S - q ≤ j then n / 2 ^ (8 * (S - 1 - j)) % 256 else 0))) ∧ Hid (Gr w wr)) (fun _ i _ => S - (intOf i).toNat)
  case atStart => exact ⟨0, by omega, rfl, by simp, hA0, (Gr.refl _).alloc _⟩
  case round =>
    obtain ⟨q, hq, rfl, rfl, hA, hG⟩ := hrel
    obtain ⟨r, hr⟩ : ∃ r, n / 2 ^ (8 * q) = r := ⟨_, rfl⟩
    have hrb := nB_pos n q HN.out
    have hrb' : n / 2 ^ (8 * q) ≤ 9223372036854775807 := by omega
    have hrb0 := hrb.1
    have hst := Lib.hid (nB_div n q)
    rw [hr] at hrb hst hrb' hrb0 ⊢
    have hr' := Lib.hid hr
    clear hr
    by_cases hlt : q < S
    · obtain ⟨v0, hv0⟩ := hA.out.has (S - 1 - q) (by omega)
      have hf0 := hA.out.frozen (S - 1 - q)
      go_wp2
      go_roundw
      case rel =>
        refine ⟨q + 1, by omega, by go_num, by rw [← hst.out], Lib.hid (hA.out.set_fl _ _ fun i hi => ?_), Lib.hid (hG.out.setCell (by simp) _)⟩
        by_cases e : i = S - 1 - q
        · rw [if_pos (by omega), if_pos e, show S - 1 - i = q from by omega, hr'.out]
        · rw [if_neg e]; by_cases e2 : S - q ≤ i
          · rw [if_pos e2, if_pos (by omega)]
          · rw [if_neg e2, if_neg (by omega)]
      case measure => simp [intOf]; omega
    · have hqS := Lib.hid (show q = S by omega)
      have hs := str_bs (n := S) (cap := S) hA.out (fl_length _ _)
      go_wp2
      go_ret
      refine ⟨ret_str (congrArg strOfNums (fl_congr fun i hi => ?_)), hG.out⟩
      have := hqS.out
      simp [show S - q ≤ i by omega]

theorem numberIn_any (x : ByteArray) (hx : x.size ≤ 6) (w : World) :
    Calls Try.prog 49 #[.string x] w fun e w' => e = .returned (.int .i64 (nm (bAt x) x.size)) ∧ w = w' := by
  go_enter Try.func49, Try.ntmps49
  go_wp2
  go_loop [3, 7] (fun v i => ∃ q : Nat, q ≤ x.size ∧ i = .int .i64 q ∧ v = .int .i64 (nm (bAt x) q)) (fun _ i => x.size - (intOf i).toNat)
  case atStart => exact ⟨0, by omega, rfl, rfl⟩
  case round =>
    obtain ⟨q, hq, rfl, rfl⟩ := hrel
    have hsb := nm_bd (f := bAt x) (bAt_bd x) q (by omega)
    obtain ⟨v, hv⟩ : ∃ v, nm (bAt x) q = v := ⟨_, rfl⟩
    rw [hv] at hsb ⊢
    have HV := Lib.hid hv
    clear hv
    by_cases hlt : q < x.size
    · have hby := bAt_eq x q hlt
      have hbb := bAt_bd x q
      have hor := or_lo v (bAt x q) (by omega) (by omega) (by omega) (by omega)
      go_wp2
      go_round
      case rel => exact ⟨q + 1, by omega, by go_num, by rw [nm, HV.out]⟩
      case measure => simp [intOf]; omega
    · have hqS := Lib.hid (show q = x.size by omega)
      go_wp2
      go_ret
      exact ⟨ret_int (by rw [← HV.out, hqS.out]), rfl⟩

theorem Big_any (x : ByteArray) (a n : Nat) (A N : Int) (hA : A = a) (hN : N = n) (hx : a + n ≤ x.size) (hm : x.size ≤ maxLen) (hn : n ≤ 6) (w : World) :
    Calls Try.prog 50 #[.string x, .int .i64 A, .int .i64 N] w fun e w' => e = .returned (.int .i64 (nm (fun i => bAt x (a + i)) n)) ∧ w = w' := by
  subst hA hN
  unfold maxLen at hm
  go_enter Try.func50, Try.ntmps50
  go_wp2
  go_loop [7, 8] (fun v i => ∃ q : Nat, q ≤ n ∧ i = .int .i64 q ∧ v = .int .i64 (nm (fun i => bAt x (a + i)) q)) (fun _ i => n - (intOf i).toNat)
  case atStart => exact ⟨0, by omega, rfl, rfl⟩
  case round =>
    obtain ⟨q, hq, rfl, rfl⟩ := hrel
    have hsb := nm_bd (f := fun i => bAt x (a + i)) (fun i => bAt_bd x (a + i)) q (by omega)
    obtain ⟨v, hv⟩ : ∃ v, nm (fun i => bAt x (a + i)) q = v := ⟨_, rfl⟩
    rw [hv] at hsb ⊢
    have HV := Lib.hid hv
    clear hv
    by_cases hlt : q < n
    · have hlt' : a + q < x.size := by omega
      have hby := bAt_eq x (a + q) hlt'
      have hbb := bAt_bd x (a + q)
      go_wp2
      go_round
      case rel => exact ⟨q + 1, by omega, by go_num, by rw [nm, HV.out]⟩
      case measure => simp [intOf]; omega
    · have hqS := Lib.hid (show q = n by omega)
      go_wp2
      go_ret
      exact ⟨ret_int (by rw [← HV.out, hqS.out]), rfl⟩
end Go.Proofs.Ytbgeghodiibmmaa
