/- Walks: the reference's Decode. -/
import Derived.Test.YtfnlmkloagpnhaaL
namespace Go.Proofs.Ytfnlmkloagpnhaa
set_option linter.unusedSimpArgs false
set_option linter.unusedVariables false
open Go.RowKit

def sgnN (n h : Int) : Int := if isNegB h then -n else n
theorem signed_any (n h : Int) (h0 : -1000000000000000000 ≤ n) (h1 : n ≤ 1000000000000000000) (w : World) :
    Calls Try.prog 102 #[.int .i64 n, .int .i64 h] w fun e w' => e = .returned (.tuple #[.int .i64 (sgnN n h), .bool (decide (10 ≤ h))]) ∧ w = w' := by
  by_cases h11 : h = 11
  · subst h11
    go_enter Try.func102, Try.ntmps102
    go_wp2
    go_ret2
    exact ⟨by simp [sgnN, isNegB], rfl⟩
  · by_cases h13 : h = 13
    · subst h13
      go_enter Try.func102, Try.ntmps102
      go_wp2
      go_ret2
      exact ⟨by simp [sgnN, isNegB], rfl⟩
    · have b1 : (h == 11) = false := by simp [h11]
      have b2 : (h == 13) = false := by simp [h13]
      have H := Lib.hid (show sgnN n h = n by simp [sgnN, isNegB, h11, h13])
      clear h11 h13
      go_enter Try.func102, Try.ntmps102
      go_wp2
      go_ret2
      exact ⟨by rw [H.out]; rfl, rfl⟩

def bgB (x : ByteArray) : Nat → Int
  | 0 => 0
  | k + 1 => bgB x k * 256 + byteAt x k
theorem bgB_bd (x : ByteArray) : ∀ k, k ≤ 4 → 0 ≤ bgB x k ∧ bgB x k ≤ 4294967295
  | 0, _ => by simp [bgB]
  | 1, _ => by have := byteAt_bd x 0; simp only [bgB, Nat.zero_add, Nat.reduceAdd]; omega
  | 2, _ => by have := byteAt_bd x 0; have := byteAt_bd x 1; simp only [bgB, Nat.zero_add, Nat.reduceAdd]; omega
  | 3, _ => by have := byteAt_bd x 0; have := byteAt_bd x 1; have := byteAt_bd x 2; simp only [bgB, Nat.zero_add, Nat.reduceAdd]; omega
  | 4, _ => by have := byteAt_bd x 0; have := byteAt_bd x 1; have := byteAt_bd x 2; have := byteAt_bd x 3; simp only [bgB, Nat.zero_add, Nat.reduceAdd]; omega

set_option maxHeartbeats 1000000 in
theorem Big_any (x : ByteArray) (S : Nat) (hS : x.size = S) (h4 : S ≤ 4) (w : World) :
    Calls Try.prog 59 #[.string x, .int .i64 0, .int .i64 S] w fun e w' => e = .returned (.int .i64 (bgB x S)) ∧ w = w' := by
  have HS := Lib.hid hS
  clear hS
  go_enter Try.func59, Try.ntmps59
  go_wp2
  go_loop [7, 8] (fun v i => ∃ q : Nat, q ≤ S ∧ i = .int .i64 q ∧ v = .int .i64 (bgB x q)) (fun _ i => S - (intOf i).toNat)
  case atStart => exact ⟨0, by omega, rfl, rfl⟩
  case round =>
    obtain ⟨q, hq, rfl, rfl⟩ := hrel
    have hsb := bgB_bd x q (by omega)
    by_cases hlt : q < S
    · have hq1 : q < x.size := by have := HS.out; omega
      have hby1 := byteAt_eq x q hq1
      have hbb1 := byteAt_bd x q
      have hsb1 := bgB_bd x (q + 1) (by omega)
      rw [bgB] at hsb1
      go_wp2
      go_round
      case rel => exact ⟨q + 1, by omega, by go_num, by rw [bgB]⟩
      case measure => simp [intOf] <;> omega
    · go_wp2
      go_ret
      exact ⟨ret_int (by congr 1; omega), rfl⟩

theorem zd_digit {x : ByteArray} {q : Nat} (hq : q < x.size) (h : 9 < znH x q) (hle : ∀ j, j < q → znH x j ≤ 9) : zdN x = 0 ∧ zdAt x = q ∧ zdErr x = 21 := by
  have hb := badAt_some (h := znH x) (m := fun _ => 9) (i := q) h hle x.size hq
  refine ⟨?_, ?_, ?_⟩
  · simp [zdN, rdN, hb]
  · simp [zdAt, rdAt, hb]
  · simp [zdErr, rdErr, hb]
theorem zd_sign {x : ByteArray} {S : Nat} (hS : x.size = S + 1) (hle : ∀ j, j < S → znH x j ≤ 9) (h : byteAt x S / 16 < 10) : zdN x = 0 ∧ zdAt x = S ∧ zdErr x = 21 := by
  by_cases hd : 9 < znH x S
  · exact zd_digit (by omega) hd hle
  · have hb := badAt_none (h := znH x) (m := fun _ => 9) (S + 1) (fun j hj => by
      by_cases e : j = S
      · subst e; omega
      · exact hle j (by omega))
    refine ⟨?_, ?_, ?_⟩
    · simp [zdN, rdN, hS, h]
    · simp [zdAt, rdAt, hS, hb, h]
    · simp [zdErr, rdErr, hS, h]
theorem zd_good {x : ByteArray} {S : Nat} (hS : x.size = S + 1) (hle : ∀ j, j < S + 1 → znH x j ≤ 9) (h : 10 ≤ byteAt x S / 16) : zdN x = sgnN (numOf (znH x) (S + 1)) (byteAt x S / 16) ∧ zdAt x = 0 ∧ zdErr x = 0 := by
  have hb := badAt_none (h := znH x) (m := fun _ => 9) (S + 1) hle
  have h' : ¬ byteAt x S / 16 < 10 := by omega
  refine ⟨?_, ?_, ?_⟩
  · simp [zdN, rdN, hS, hb, eq_false h', sgnN]
  · simp [zdAt, rdAt, hS, hb, eq_false h']
  · simp [zdErr, rdErr, hS, hb, eq_false h']

set_option maxHeartbeats 4000000 in
set_option maxRecDepth 100000 in
theorem decodeZoned_any (x : ByteArray) (S : Nat) (hS : x.size = S + 1) (h4 : S ≤ 16) (w : World) :
    Calls Try.prog 60 #[.string x] w fun e w' =>
      e = .returned (.tuple #[.agg #[.int .i64 (zdN x), .string ⟨#[]⟩], .int .i64 (zdAt x), .int .i64 (zdErr x)]) ∧ Gr w w' := by
  go_enter Try.func60, Try.ntmps60
  go_wp2
  go_loopw [5, 6, 7] (fun v sg i wr => ∃ q : Nat, q ≤ S + 1 ∧ i = .int .i64 q ∧ v = .int .i64 (numOf (znH x) q) ∧ sg = .int .i64 (if q = S + 1 then byteAt x S / 16 else 15) ∧ Hid (∀ j, j < q → znH x j ≤ 9) ∧ Hid (q = S + 1 → 10 ≤ byteAt x S / 16) ∧ Hid (wr = w.alloc (.cells #[.int .i64 0, .string ⟨#[]⟩] 25))) (fun _ _ i _ => S + 1 - (intOf i).toNat)
  case atStart => exact ⟨0, by omega, rfl, rfl, by rw [if_neg (by omega)], Lib.hid (fun j hj => by omega), Lib.hid (fun h => by omega), rfl⟩
  case round =>
    obtain ⟨q, hq, rfl, rfl, rfl, hle, hlast, hw⟩ := hrel
    obtain rfl := hw.out
    clear hw
    have hnb := numOf_bd (znH x) q (fun i hi => ⟨by have := byteAt_bd x i; unfold znH; omega, hle.out i hi⟩)
    have hpb := pow_bd q (by omega)
    obtain ⟨N, hN⟩ : ∃ N, numOf (znH x) q = N := ⟨_, rfl⟩
    rw [hN] at hnb ⊢
    have HN := Lib.hid hN
    clear hN
    by_cases hlt : q < S + 1
    · rw [if_neg (by omega)]
      have hq1 : q < x.size := by omega
      have hby1 := byteAt_eq x q hq1
      have hbb1 := byteAt_bd x q
      have hp1 := pow_bd (q + 1) (by omega)
      rw [Int.pow_succ] at hp1
      have hq16 : znH x q = byteAt x q % 16 := rfl
      have HQ := Lib.hid hq16
      clear hq16
      by_cases hl : q = S
      · subst hl
        by_cases hsg : byteAt x q / 16 < 10
        · have Z := Lib.hid (zd_sign hS hle.out hsg)
          go_wp2
          refine bodyPost_ret (v := .tuple #[.agg #[.int .i64 0, .string ⟨#[]⟩], .int .i64 q, .int .i64 21]) (by simp [results, Try.results60, go_sem, *]) rfl ⟨by rw [Z.out.1, Z.out.2.1, Z.out.2.2], (by repeat (first | exact Gr.refl _ | assumption | refine Gr.alloc ?_ _ | refine Gr.drew ?_ | refine Gr.drewN ?_ _ | refine Gr.setCell ?_ (by simp <;> omega) _ | refine Gr.trans ?_ (by assumption)))⟩
        · by_cases hdg : 9 < byteAt x q % 16
          · have Z := Lib.hid (zd_digit hq1 (by rw [HQ.out]; exact hdg) hle.out)
            have hsg2 : 10 ≤ byteAt x q / 16 := by omega
            go_wp2
            refine bodyPost_ret (v := .tuple #[.agg #[.int .i64 0, .string ⟨#[]⟩], .int .i64 q, .int .i64 21]) (by simp [results, Try.results60, go_sem, *]) rfl ⟨by rw [Z.out.1, Z.out.2.1, Z.out.2.2], (by repeat (first | exact Gr.refl _ | assumption | refine Gr.alloc ?_ _ | refine Gr.drew ?_ | refine Gr.drewN ?_ _ | refine Gr.setCell ?_ (by simp <;> omega) _ | refine Gr.trans ?_ (by assumption)))⟩
          · have hsg2 : 10 ≤ byteAt x q / 16 := by omega
            go_wp2
            go_roundw
            case rel =>
              refine ⟨q + 1, by omega, by go_num, by rw [numOf, HN.out, HQ.out], by rw [if_pos rfl], Lib.hid (fun j hj => ?_), Lib.hid (fun _ => hsg2), Lib.hid trivial⟩
              by_cases e : j = q
              · subst e; rw [HQ.out]; omega
              · exact hle.out j (by omega)
            case measure => simp [intOf] <;> omega
      · have hl2 : ((q : Int) == (S : Int)) = false := by rw [beq_eq_false_iff_ne]; omega
        by_cases hdg : 9 < byteAt x q % 16
        · have Z := Lib.hid (zd_digit hq1 (by rw [HQ.out]; exact hdg) hle.out)
          go_wp2
          refine bodyPost_ret (v := .tuple #[.agg #[.int .i64 0, .string ⟨#[]⟩], .int .i64 q, .int .i64 21]) (by simp [results, Try.results60, go_sem, *]) rfl ⟨by rw [Z.out.1, Z.out.2.1, Z.out.2.2], (by repeat (first | exact Gr.refl _ | assumption | refine Gr.alloc ?_ _ | refine Gr.drew ?_ | refine Gr.drewN ?_ _ | refine Gr.setCell ?_ (by simp <;> omega) _ | refine Gr.trans ?_ (by assumption)))⟩
        · go_wp2
          go_roundw
          case rel =>
            refine ⟨q + 1, by omega, by go_num, by rw [numOf, HN.out, HQ.out], by rw [if_neg (by omega)], Lib.hid (fun j hj => ?_), Lib.hid (fun h => by omega), Lib.hid trivial⟩
            by_cases e : j = q
            · subst e; rw [HQ.out]; omega
            · exact hle.out j (by omega)
          case measure => simp [intOf] <;> omega
    · have hqS := Lib.hid (show q = S + 1 by omega)
      rw [if_pos hqS.out]
      have hs10 := hlast.out hqS.out
      have Z := Lib.hid (zd_good hS (fun j hj => hle.out j (by have := hqS.out; omega)) hs10)
      go_wp2_with (go_at_call 102; refine (signed_any _ _ (by omega) (by omega) _).mono ?_; rintro e w1 ⟨rfl, rfl⟩)
      refine bodyPost_ret (v := .tuple #[.agg #[.int .i64 (sgnN N (byteAt x S / 16)), .string ⟨#[]⟩], .int .i64 0, .int .i64 0]) (by simp [results, Try.results60, go_sem, *]) rfl ⟨by rw [Z.out.1, Z.out.2.1, Z.out.2.2, ← HN.out, hqS.out], (by repeat (first | exact Gr.refl _ | assumption | refine Gr.alloc ?_ _ | refine Gr.drew ?_ | refine Gr.drewN ?_ _ | refine Gr.setCell ?_ (by simp <;> omega) _ | refine Gr.trans ?_ (by assumption)))⟩

theorem pd_bad {l : Int} {x : ByteArray} {q : Nat} (hS : 1 ≤ x.size) (hq : q < 2 * x.size - 1) (h : pkM l q < halfOf x q) (hle : ∀ j, j < q → halfOf x j ≤ pkM l j) : pdN l x = 0 ∧ pdAt l x = halfAt q ∧ pdErr l x = 21 := by
  have hb := badAt_some (h := halfOf x) (m := pkM l) (i := q) h hle (2 * x.size - 1) hq
  refine ⟨?_, ?_, ?_⟩
  · simp [pdN, rdN, hb]
  · simp [pdAt, rdAt, hb]
  · simp [pdErr, rdErr, hb]
theorem pd_sign {l : Int} {x : ByteArray} (hle : ∀ j, j < 2 * x.size - 1 → halfOf x j ≤ pkM l j) (h : halfOf x (2 * x.size - 1) < 10) : pdN l x = 0 ∧ pdAt l x = (x.size : Int) - 1 ∧ pdErr l x = 21 := by
  have hb := badAt_none (h := halfOf x) (m := pkM l) (2 * x.size - 1) hle
  refine ⟨?_, ?_, ?_⟩
  · simp [pdN, rdN, h]
  · simp [pdAt, rdAt, hb, h]
  · simp [pdErr, rdErr, h]
theorem pd_good {l : Int} {x : ByteArray} (hle : ∀ j, j < 2 * x.size - 1 → halfOf x j ≤ pkM l j) (h : 10 ≤ halfOf x (2 * x.size - 1)) : pdN l x = sgnN (numOf (halfOf x) (2 * x.size - 1)) (halfOf x (2 * x.size - 1)) ∧ pdAt l x = 0 ∧ pdErr l x = 0 := by
  have hb := badAt_none (h := halfOf x) (m := pkM l) (2 * x.size - 1) hle
  have h' : ¬ halfOf x (2 * x.size - 1) < 10 := by omega
  refine ⟨?_, ?_, ?_⟩
  · simp [pdN, rdN, hb, eq_false h', sgnN]
  · simp [pdAt, rdAt, hb, eq_false h']
  · simp [pdErr, rdErr, hb, eq_false h']

end Go.Proofs.Ytfnlmkloagpnhaa
