import Derived.Test.YtmejhccdiimmlaaEb
namespace Go.Proofs.Ytmejhccdiimmlaa
set_option linter.unusedSimpArgs false
set_option linter.unusedVariables false
open Go.RowKit
/-- The digits of an amount, the highest one first. -/
def dgL (a : Int) (L : Nat) : List Int := fl L (fun j => dig a (L - 1 - j))

set_option maxHeartbeats 1000000 in
theorem digits_any (a : Int) (L : Nat) (ha : 0 ≤ a) (ha' : a ≤ 1000000000000000000) (h1 : L ≤ 256) (w : World) :
    Calls Try.prog 99 #[.int .i64 a, .int .i64 L] w fun e w' => ∃ b, e = .returned (.slice (some ⟨b, 0, none⟩) L L) ∧ Arr w' b .i64 3 (dgL a L) ∧ w.heap.size ≤ b ∧ Gr w w' := by
  have hmk := mk_ints L L rfl (by omega)
  have hA0 := Lib.hid (Arr.made_fl w .i64 3 L (fun j => if L - 0 ≤ j then dig a (L - 1 - j) else 0) (fun i hi => by rw [if_neg (by omega)]))
  have HA := Lib.hid ha
  go_enter Try.func99, Try.ntmps99
  go_wp2
  go_loopw [0, 6] (fun r i wr => ∃ q : Nat, q ≤ L ∧ i = .int .i64 ((L : Int) - 1 - q) ∧ r = .int .i64 (a / 10 ^ q) ∧ Hid (Arr wr w.heap.size .i64 3 (fl L (fun j => if L - q ≤ j then dig a (L - 1 - j) else 0))) ∧ Hid (Gr w wr)) (fun _ i _ => (intOf i + 1).toNat)
  case atStart => exact ⟨0, by omega, by simp, by simp, hA0, (Gr.refl _).alloc _⟩
  case round =>
    obtain ⟨q, hq, rfl, rfl, hA, hG⟩ := hrel
    obtain ⟨r, hr⟩ : ∃ r, a / 10 ^ q = r := ⟨_, rfl⟩
    have hrb := div_bd a q HA.out
    have hst := Lib.hid (div_step a q)
    rw [hr] at hrb hst ⊢
    have hr' := Lib.hid hr
    clear hr
    by_cases hlt : q < L
    · obtain ⟨v0, hv0⟩ := hA.out.has (L - 1 - q) (by omega)
      have hf0 := hA.out.frozen (L - 1 - q)
      go_wp2
      go_roundw
      case rel =>
        refine ⟨q + 1, by omega, by go_num, by rw [← hst.out], Lib.hid (hA.out.set_fl _ _ fun i hi => ?_), Lib.hid (hG.out.setCell (by simp) _)⟩
        by_cases e : i = L - 1 - q
        · rw [if_pos (by omega), if_pos e, show L - 1 - i = q from by omega]; unfold dig; rw [hr'.out]
        · rw [if_neg e]; by_cases e2 : L - q ≤ i
          · rw [if_pos e2, if_pos (by omega)]
          · rw [if_neg e2, if_neg (by omega)]
      case measure => simp [intOf]; omega
    · have hqL := Lib.hid (show q = L by omega)
      go_wp2
      go_ret
      refine ⟨w.heap.size, rfl, ?_, Nat.le_refl _, hG.out⟩
      have := hA.out
      rw [fl_congr (g := fun j => dig a (L - 1 - j))] at this
      · exact this
      · intro i hi; have := hqL.out; rw [if_pos (by omega)]

set_option maxHeartbeats 1000000 in
theorem BigBytes_any (a : Int) (L : Nat) (ha : 0 ≤ a) (ha' : a ≤ 1000000000000000000) (h1 : L ≤ 256) (w : World) :
    Calls Try.prog 98 #[.int .i64 a, .int .i64 L] w fun e w' => e = .returned (.string (strOfNums (fl L (fun j => a / 256 ^ (L - 1 - j) % 256)))) ∧ Gr w w' := by
  have hmk := mk_bytes L L rfl (by omega)
  have hA0 := Lib.hid (Arr.made_fl w .u8 5 L (fun j => if L - 0 ≤ j then a / 256 ^ (L - 1 - j) % 256 else 0) (fun i hi => by rw [if_neg (by omega)]))
  have HA := Lib.hid ha
  go_enter Try.func98, Try.ntmps98
  go_wp2
  go_loopw [0, 6] (fun r i wr => ∃ q : Nat, q ≤ L ∧ i = .int .i64 q ∧ r = .int .i64 (a / 256 ^ q) ∧ Hid (Arr wr w.heap.size .u8 5 (fl L (fun j => if L - q ≤ j then a / 256 ^ (L - 1 - j) % 256 else 0))) ∧ Hid (Gr w wr)) (fun _ i _ => L - (intOf i).toNat)
  case atStart => exact ⟨0, by omega, by simp, by simp, hA0, (Gr.refl _).alloc _⟩
  case round =>
    obtain ⟨q, hq, rfl, rfl, hA, hG⟩ := hrel
    obtain ⟨r, hr⟩ : ∃ r, a / 256 ^ q = r := ⟨_, rfl⟩
    have hrb : 0 ≤ a / 256 ^ q ∧ a / 256 ^ q ≤ a := ⟨Int.ediv_nonneg HA.out (Int.le_of_lt (Int.pow_pos (by omega))), Int.ediv_le_self _ HA.out⟩
    have hst : a / 256 ^ q / 256 = a / 256 ^ (q + 1) := by rw [Int.pow_succ, Int.ediv_ediv_of_nonneg (Int.le_of_lt (Int.pow_pos (by omega)))]
    rw [hr] at hrb hst ⊢
    have hst' := Lib.hid hst
    have hr' := Lib.hid hr
    clear hr hst
    by_cases hlt : q < L
    · obtain ⟨v0, hv0⟩ := hA.out.has (L - 1 - q) (by omega)
      have hf0 := hA.out.frozen (L - 1 - q)
      go_wp2
      go_roundw
      case rel =>
        refine ⟨q + 1, by omega, by go_num, by rw [← hst'.out], Lib.hid (hA.out.set_fl _ _ fun i hi => ?_), Lib.hid (hG.out.setCell (by simp) _)⟩
        by_cases e : i = L - 1 - q
        · rw [if_pos (by omega), if_pos e, show L - 1 - i = q from by omega, hr'.out]
        · rw [if_neg e]; by_cases e2 : L - q ≤ i
          · rw [if_pos e2, if_pos (by omega)]
          · rw [if_neg e2, if_neg (by omega)]
      case measure => simp [intOf]; omega
    · have hqL := Lib.hid (show q = L by omega)
      have hs := str_of (n := L) (cap := L) hA.out (fl_length _ _)
      go_wp2
      go_ret
      refine ⟨ret_str (congrArg strOfNums (fl_congr fun i hi => ?_)), hG.out⟩
      have := hqL.out
      simp [show L - q ≤ i by omega]
end Go.Proofs.Ytmejhccdiimmlaa
