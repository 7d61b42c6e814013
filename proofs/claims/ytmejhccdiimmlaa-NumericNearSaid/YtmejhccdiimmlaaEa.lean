import Derived.Test.YtmejhccdiimmlaaD
namespace Go.Proofs.Ytmejhccdiimmlaa
set_option linter.unusedSimpArgs false
set_option linter.unusedVariables false
open Go.RowKit

def withinB (a b c : Int) : Bool := decide (b ≤ a) && decide (a ≤ c)
theorem Within_any (a b c : Int) (w : World) :
    Calls Try.prog 44 #[.int .i64 a, .int .i64 b, .int .i64 c] w fun e w' => e = .returned (.bool (withinB a b c)) ∧ w = w' := by
  go_enter Try.func44, Try.ntmps44
  go_wp2
  all_goals (go_ret; exact ⟨ret_bool (by grind [withinB]), rfl⟩)

def countI (b : Bool) : Int := if b then 1 else 0
theorem countI_bd (b : Bool) : 0 ≤ countI b ∧ countI b ≤ 1 := by unfold countI; split <;> omega
theorem Count_any (b : Bool) (w : World) :
    Calls Try.prog 46 #[.bool b] w fun e w' => e = .returned (.int .i64 (countI b)) ∧ w = w' ∧ 0 ≤ countI b ∧ countI b ≤ 1 := by
  go_enter Try.func46, Try.ntmps46
  go_wp2
  all_goals (go_ret; exact ⟨ret_int (by simp [countI, *]), rfl, countI_bd _⟩)

theorem IsNumeric_any (k : Int) (w : World) :
    Calls Try.prog 45 #[.int .i64 k] w fun e w' => e = .returned (.bool (withinB k 1 3)) ∧ w = w' := by
  go_enter Try.func45, Try.ntmps45
  go_wp2_with (go_at_call 44; refine (Within_any _ _ _ _).mono ?_; rintro e w1 ⟨rfl, rfl⟩)
  go_ret
  exact ⟨rfl, rfl⟩

set_option maxHeartbeats 1000000 in
theorem TypeErr_any (k l s : Int) (w : World) :
    Calls Try.prog 17 #[.agg #[.int .i64 k, .int .i64 l, .int .i64 s]] w fun e w' => e = .returned (.int .i64 (typeErr k l s)) ∧ Gr w w' := by
  go_enter Try.func17, Try.ntmps17
  go_wp2_with (first | (go_at_call 44; refine (Within_any _ _ _ _).mono ?_; rintro e w1 ⟨rfl, rfl⟩) | (go_at_call 45; refine (IsNumeric_any _ _).mono ?_; rintro e w1 ⟨rfl, rfl⟩) | (go_at_call 46; refine (Count_any _ _).mono ?_; rintro e w1 ⟨rfl, rfl, hc0, hc1⟩))
  all_goals (go_ret; exact ⟨ret_int (by grind [typeErr, withinB, countI, rightLen, mostScale, isNum]), (by repeat (first | exact Gr.refl _ | assumption | refine Gr.alloc ?_ _ | refine Gr.drew ?_ | refine Gr.drewN ?_ _ | refine Gr.setCell ?_ (by simp <;> omega) _ | refine Gr.trans ?_ (by assumption)))⟩)

theorem Power_any (n : Int) (h : n ≤ 18) (w : World) :
    Calls Try.prog 94 #[.int .i64 n] w fun e w' => e = .returned (.int .i64 (p10 n)) ∧ w = w' := by
  go_enter Try.func94, Try.ntmps94
  go_wp2
  go_loop [3, 4] (fun p i => ∃ k : Nat, (k : Int) ≤ max n 0 ∧ i = .int .i64 k ∧ p = .int .i64 (10 ^ k)) (fun _ i => n.toNat - (intOf i).toNat)
  case atStart => exact ⟨0, by omega, rfl, rfl⟩
  case round =>
    obtain ⟨k, hk, rfl, rfl⟩ := hrel
    have hb := pow_bd k (by omega)
    by_cases hlt : (k : Int) < n
    · have hb1 := pow_bd (k + 1) (by omega)
      rw [Int.pow_succ] at hb1
      go_wp2
      go_round
      case rel => exact ⟨k + 1, by omega, by go_num, by rw [Int.pow_succ]⟩
      case measure => simp [intOf]; omega
    · go_wp2
      go_ret
      exact ⟨ret_int (by unfold p10; congr 1; omega), rfl⟩

theorem Most_any (k l s : Int) (h : l ≤ 18) (w : World) :
    Calls Try.prog 51 #[.agg #[.int .i64 k, .int .i64 l, .int .i64 s]] w fun e w' => e = .returned (.int .i64 (most l)) ∧ Gr w w' := by
  have hp := p10_bd l h
  go_enter Try.func51, Try.ntmps51
  go_wp2_with (go_at_call 94; refine (Power_any _ h _).mono ?_; rintro e w1 ⟨rfl, rfl⟩)
  go_ret
  exact ⟨rfl, (by repeat (first | exact Gr.refl _ | assumption | refine Gr.alloc ?_ _ | refine Gr.drew ?_ | refine Gr.drewN ?_ _ | refine Gr.setCell ?_ (by simp <;> omega) _ | refine Gr.trans ?_ (by assumption)))⟩

theorem Size_any (k l s : Int) (h0 : 0 ≤ l) (h1 : l ≤ 256) (hk : k = 3 → l = 4 ∨ l = 9) (w : World) :
    Calls Try.prog 21 #[.agg #[.int .i64 k, .int .i64 l, .int .i64 s]] w fun e w' => e = .returned (.int .i64 (sizeI k l)) ∧ Gr w w' := by
  go_enter Try.func21, Try.ntmps21
  go_wp2_with (go_at_call 46; refine (Count_any _ _).mono ?_; rintro e w1 ⟨rfl, rfl, hc0, hc1⟩)
  all_goals (go_ret; exact ⟨ret_int (by grind [sizeI, countI]), (by repeat (first | exact Gr.refl _ | assumption | refine Gr.alloc ?_ _ | refine Gr.drew ?_ | refine Gr.drewN ?_ _ | refine Gr.setCell ?_ (by simp <;> omega) _ | refine Gr.trans ?_ (by assumption)))⟩)

theorem Amount_any (n : Int) (h : -1000000000000000000 ≤ n) (h' : n ≤ 1000000000000000000) (w : World) :
    Calls Try.prog 100 #[.int .i64 n] w fun e w' => e = .returned (.int .i64 (absI n)) ∧ w = w' := by
  go_enter Try.func100, Try.ntmps100
  go_wp2
  all_goals (go_ret; exact ⟨ret_int (by grind [absI]), rfl⟩)

end Go.Proofs.Ytmejhccdiimmlaa
