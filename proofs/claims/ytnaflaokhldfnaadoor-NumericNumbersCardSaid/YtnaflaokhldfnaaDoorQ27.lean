/- Texts of the walks, merged. -/
import Derived.Test.YtnaflaokhldfnaaDoorQ09
namespace Go.Proofs.YtnaflaokhldfnaaDoor
set_option linter.unusedSimpArgs false
set_option linter.unusedVariables false
open Go.RowKit

/-- The digits' number. -/
def numOf (h : Nat → Int) : Nat → Int
  | 0 => 0
  | n + 1 => 10 * numOf h n + h n
theorem numOf_bd (h : Nat → Int) : ∀ n, (∀ i, i < n → 0 ≤ h i ∧ h i ≤ 9) → 0 ≤ numOf h n ∧ numOf h n < 10 ^ n
  | 0, _ => by simp [numOf]
  | n + 1, hh => by
    have ih := numOf_bd h n (fun i hi => hh i (by omega))
    have := hh n (by omega)
    rw [numOf, Int.pow_succ]; omega
/-- The first digit that is wrong. -/
def badAt (h m : Nat → Int) : Nat → Option Nat
  | 0 => none
  | n + 1 => match badAt h m n with
    | some i => some i
    | none => if m n < h n then some n else none
theorem badAt_none {h m : Nat → Int} : ∀ n, (∀ i, i < n → h i ≤ m i) → badAt h m n = none
  | 0, _ => rfl
  | n + 1, hh => by
    rw [badAt, badAt_none n (fun i hi => hh i (by omega))]
    have := hh n (by omega)
    simp; omega
theorem badAt_some {h m : Nat → Int} {i : Nat} (hi : m i < h i) (hl : ∀ j, j < i → h j ≤ m j) : ∀ n, i < n → badAt h m n = some i
  | 0, hn => by omega
  | n + 1, hn => by
    by_cases e : i = n
    · subst e; rw [badAt, badAt_none i hl]; simp [hi]
    · rw [badAt, badAt_some hi hl n (by omega)]
def isNegB (x : Int) : Bool := decide (x = 11) || decide (x = 13)
/-- What a decimal number is read az: N, the offset, the error. -/
def rdN (h m : Nat → Int) (n : Nat) (hs : Int) : Int := if badAt h m n ≠ none ∨ hs < 10 then 0 else if isNegB hs then - numOf h n else numOf h n
def rdAt (h m a : Nat → Int) (n : Nat) (hs az : Int) : Int := match badAt h m n with | some i => a i | none => if hs < 10 then az else 0
def rdErr (h m : Nat → Int) (n : Nat) (hs : Int) : Int := if badAt h m n ≠ none ∨ hs < 10 then 21 else 0

theorem isNegative_any (x : Int) (w : World) :
    Calls Tryd.prog 63 #[.int .u8 x] w fun e w' => e = .returned (.bool (isNegB x)) ∧ w = w' := by
  go_enter Tryd.func63, Tryd.ntmps63
  go_wp2
  all_goals (go_ret; exact ⟨ret_bool (by grind [isNegB]), rfl⟩)

set_option maxHeartbeats 2000000 in
set_option maxRecDepth 100000 in
theorem readDecimal_any (b n cap : Nat) (h m a : Nat → Int) (hs ms az : Int) (hn : n ≤ 18) (hb9 : ∀ i, i < n → 0 ≤ h i ∧ m i ≤ 9) (w : World) (hbw : b < w.heap.size)
    (hc : ∀ i, i < n → w.cell? ⟨b, i * 3, none⟩ = some (.int .u8 (h i)) ∧ w.cell? ⟨b, i * 3 + 1, none⟩ = some (.int .u8 (m i)) ∧ w.cell? ⟨b, i * 3 + 2, none⟩ = some (.int .i64 (a i))) :
    Calls Tryd.prog 34 #[.slice (some ⟨b, 0, none⟩) n cap, .agg #[.int .u8 hs, .int .u8 ms, .int .i64 az]] w fun e w' =>
      e = .returned (.tuple #[.agg #[.int .i64 (rdN h m n hs), .string ⟨#[]⟩], .int .i64 (rdAt h m a n hs az), .int .i64 (rdErr h m n hs)]) ∧ Gr w w' := by
  have HC := Lib.hid hc
  have H9 := Lib.hid hb9
  clear hc hb9
  go_enter Tryd.func34, Tryd.ntmps34
  go_wp2
  go_outline
  go_loopw [7, 12] (fun r i wr => ∃ q : Nat, q ≤ n ∧ i = .int .i64 q ∧ r = .int .i64 (numOf h q) ∧ Hid (∀ j, j < q → h j ≤ m j) ∧ Hid (Below (w.heap.size + 2) ((w.alloc (.cells #[.int .u8 hs, .int .u8 ms, .int .i64 az] 72)).alloc (.cells #[.int .i64 0, .string ⟨#[]⟩] 41)) wr)) (fun _ i _ => n - (intOf i).toNat)
  case atStart => exact ⟨0, by omega, rfl, rfl, Lib.hid (fun j hj => by omega), Below.refl _ _⟩
  case round =>
    obtain ⟨q, hq, rfl, rfl, hle, hB⟩ := hrel
    have hbs : w.heap.size + 1 < wr.heap.size := by have := hB.out.size; simp at this; omega
    have hbs0 : w.heap.size < wr.heap.size := by omega
    have z0 : wr.cell? ⟨w.heap.size, 0, none⟩ = some (.int .u8 hs) := keepc hB.out (by simp <;> omega) (by first | (simp; done) | (simp [go_sem]; done))
    have z2 : wr.cell? ⟨w.heap.size, 2, none⟩ = some (.int .i64 az) := keepc hB.out (by simp <;> omega) (by first | (simp; done) | (simp [go_sem]; done))
    have v0 : wr.cell? ⟨w.heap.size + 1, 0, none⟩ = some (.int .i64 0) := keepc hB.out (by simp) (by first | (simp; done) | (simp [go_sem]; done))
    have v1 : wr.cell? ⟨w.heap.size + 1, 1, none⟩ = some (.string ⟨#[]⟩) := keepc hB.out (by simp) (by first | (simp; done) | (simp [go_sem]; done))
    have f0 : wr.frozen? ⟨w.heap.size + 1, 0, none⟩ = false := by rw [Below.frozen hB.out (p := ⟨w.heap.size + 1, 0, none⟩) (by simp)] <;> first | (simp; done) | (simp [go_sem]; done)
    have f1 : wr.frozen? ⟨w.heap.size + 1, 1, none⟩ = false := by rw [Below.frozen hB.out (p := ⟨w.heap.size + 1, 1, none⟩) (by simp)] <;> first | (simp; done) | (simp [go_sem]; done)
    have hnb := numOf_bd h q (fun i hi => ⟨(H9.out i (by omega)).1, Int.le_trans (hle.out i hi) (H9.out i (by omega)).2⟩)
    have hpb := pow_bd q (by omega)
    obtain ⟨N, hN⟩ : ∃ N, numOf h q = N := ⟨_, rfl⟩
    rw [hN] at hnb ⊢
    have HN := Lib.hid hN
    clear hN
    by_cases hlt : q < n
    · obtain ⟨x0, x1, x2⟩ := HC.out q hlt
      have hg : Gr w wr := Gr.trans (((Gr.refl w).alloc _).alloc _) (hB.out.mono (by simp))
      have y0 := hg.keep x0
      have y1 := hg.keep x1
      have y2 := hg.keep x2
      have HG := Lib.hid hg
      have h9 := H9.out q hlt
      clear x0 x1 x2 hg
      by_cases hbad : m q < h q
      · go_wp2
        go_region
        go_wp2
        have HR := Lib.hid (badAt_some hbad hle.out n hlt)
        refine bodyPost_ret (v := .tuple #[.agg #[.int .i64 0, .string ⟨#[]⟩], .int .i64 (a q), .int .i64 21]) ?_ rfl ⟨?_, ?_⟩
        · simp [results, Tryd.results34, go_sem, *]
        · simp [rdN, rdAt, rdErr, HR.out]
        · exact (((HG.out.setCell (by show w.heap.size ≤ w.heap.size + 1; omega) _).setCell (by show w.heap.size ≤ w.heap.size + 1; omega) _).alloc _).drew
      · have hp1 := pow_bd (q + 1) (by omega)
        rw [Int.pow_succ] at hp1
        go_wp2
        go_roundw
        case rel =>
          refine ⟨q + 1, by omega, by go_num, ?_, Lib.hid (fun j hj => ?_), Lib.hid ?_⟩
          · rw [numOf, HN.out]
          · by_cases e : j = q
            · subst e; omega
            · exact hle.out j (by omega)
          · exact hB.out.alloc (by omega) _
        case measure => simp [intOf]; omega
    · have hqn := Lib.hid (show q = n by omega)
      have HR := Lib.hid (badAt_none (h := h) (m := m) n (fun j hj => hle.out j (by have := hqn.out; omega)))
      have hg := Lib.hid (show Gr w wr from Gr.trans (((Gr.refl w).alloc _).alloc _) (hB.out.mono (by simp)))
      by_cases hs10 : hs < 10
      · go_wp2
        go_region
        go_wp2
        refine bodyPost_ret (v := .tuple #[.agg #[.int .i64 0, .string ⟨#[]⟩], .int .i64 az, .int .i64 21]) ?_ rfl ⟨?_, ?_⟩
        · simp [results, Tryd.results34, go_sem, *]
        · simp [rdN, rdAt, rdErr, HR.out, hs10]
        · exact (((hg.out.drew).setCell (by show w.heap.size ≤ w.heap.size + 1; omega) _).setCell (by show w.heap.size ≤ w.heap.size + 1; omega) _)
      · by_cases hng : isNegB hs = true
        · go_wp2_with (go_at_call 63; refine (isNegative_any _ _).mono ?_; rintro e w1 ⟨rfl, rfl⟩)
          refine bodyPost_ret (v := .tuple #[.agg #[.int .i64 (-N), .string ⟨#[]⟩], .int .i64 0, .int .i64 0]) ?_ rfl ⟨?_, ?_⟩
          · simp [results, Tryd.results34, go_sem, *]
          · have e := HN.out; rw [hqn.out] at e; simp [rdN, rdAt, rdErr, HR.out, eq_false (show ¬ hs < 10 by omega), hng, e]
          · exact ((hg.out.setCell (by show w.heap.size ≤ w.heap.size + 1; omega) _).setCell (by show w.heap.size ≤ w.heap.size + 1; omega) _)
        · go_wp2_with (go_at_call 63; refine (isNegative_any _ _).mono ?_; rintro e w1 ⟨rfl, rfl⟩)
          refine bodyPost_ret (v := .tuple #[.agg #[.int .i64 N, .string ⟨#[]⟩], .int .i64 0, .int .i64 0]) ?_ rfl ⟨?_, ?_⟩
          · simp [results, Tryd.results34, go_sem, *]
          · have e := HN.out; rw [hqn.out] at e; simp [rdN, rdAt, rdErr, HR.out, eq_false (show ¬ hs < 10 by omega), hng, e]
          · exact ((hg.out.setCell (by show w.heap.size ≤ w.heap.size + 1; omega) _).setCell (by show w.heap.size ≤ w.heap.size + 1; omega) _)

end Go.Proofs.YtnaflaokhldfnaaDoor
