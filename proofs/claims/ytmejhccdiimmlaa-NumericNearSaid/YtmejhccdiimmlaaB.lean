import Derived.Test.YtmejhccdiimmlaaA
namespace Go.Proofs.Ytmejhccdiimmlaa
set_option linter.unusedSimpArgs false
set_option linter.unusedVariables false
open Go.RowKit

theorem pow_bd (k : Nat) (h : k ≤ 18) : 1 ≤ (10 : Int) ^ k ∧ (10 : Int) ^ k ≤ 1000000000000000000 := by
  have h1 : (10 : Nat) ^ k ≤ 10 ^ 18 := Nat.pow_le_pow_right (by omega) h
  have h2 : 0 < (10 : Nat) ^ k := Nat.pow_pos (by omega)
  have e : ((10 ^ k : Nat) : Int) = (10 : Int) ^ k := by simp
  rw [← e]
  have e18 : (10 : Nat) ^ 18 = 1000000000000000000 := by decide
  rw [e18] at h1
  omega

def p10 (n : Int) : Int := 10 ^ n.toNat
theorem p10_bd (n : Int) (h : n ≤ 18) : 1 ≤ p10 n ∧ p10 n ≤ 1000000000000000000 := pow_bd _ (by omega)

theorem powerOfTen_any (n : Int) (h : n ≤ 18) (w : World) :
    Calls Try.prog 92 #[.int .i64 n] w fun e w' => e = .returned (.int .i64 (p10 n)) ∧ w = w' := by
  go_enter Try.func92, Try.ntmps92
  go_wp2
  go_loop [3, 5] (fun p i => ∃ k : Nat, (k : Int) ≤ max n 0 ∧ i = .int .i64 k ∧ p = .int .i64 (10 ^ k)) (fun _ i => n.toNat - (intOf i).toNat)
  case atStart => exact ⟨0, by omega, rfl, rfl⟩
  case round =>
    obtain ⟨k, hk, rfl, rfl⟩ := hrel
    have hb := pow_bd k (by omega)
    by_cases hlt : (k : Int) < n
    · have hb1 := pow_bd (k + 1) (by omega)
      rw [Int.pow_succ] at hb1
      go_wp2
      go_round
      case rel => exact ⟨k + 1, by omega, by go_num, by rw [Int.pow_succ]⟩
      case measure => simp [intOf]; omega
    · go_wp2
      go_ret
      exact ⟨ret_int (by unfold p10; congr 1; omega), rfl⟩

def most (l : Int) : Int := p10 l - 1
theorem greatest_any (k l s : Int) (h : l ≤ 18) (w : World) :
    Calls Try.prog 43 #[.agg #[.int .i64 k, .int .i64 l, .int .i64 s]] w fun e w' => e = .returned (.int .i64 (most l)) ∧ Gr w w' := by
  have hp := p10_bd l h
  go_enter Try.func43, Try.ntmps43
  go_wp2_with (go_at_call 92; refine (powerOfTen_any _ h _).mono ?_; rintro e w1 ⟨rfl, rfl⟩)
  go_ret
  exact ⟨rfl, (by repeat (first | exact Gr.refl _ | assumption | refine Gr.alloc ?_ _ | refine Gr.drew ?_ | refine Gr.drewN ?_ _ | refine Gr.setCell ?_ (by simp <;> omega) _ | refine Gr.trans ?_ (by assumption)))⟩

def fitsB (n l : Int) : Bool := decide (-(most l) ≤ n ∧ n ≤ most l)
theorem fits_any (n k l s : Int) (h : l ≤ 18) (w : World) :
    Calls Try.prog 50 #[.int .i64 n, .agg #[.int .i64 k, .int .i64 l, .int .i64 s]] w fun e w' => e = .returned (.bool (fitsB n l)) ∧ Gr w w' := by
  have hp : 0 ≤ most l ∧ most l ≤ 1000000000000000000 := by have := p10_bd l h; unfold most; omega
  go_enter Try.func50, Try.ntmps50
  go_wp2_with (go_at_call 43; refine (greatest_any _ _ _ h _).mono ?_; rintro e w1 ⟨rfl, hb⟩; obtain ⟨hc, hf⟩ := hb.cells; have hz : w.heap.size < w1.heap.size := by have h := hb.size; (try simp at h); omega)
  all_goals (go_ret; exact ⟨ret_bool (by grind [fitsB]), (by repeat (first | exact Gr.refl _ | assumption | refine Gr.alloc ?_ _ | refine Gr.drew ?_ | refine Gr.drewN ?_ _ | refine Gr.setCell ?_ (by simp <;> omega) _ | refine Gr.trans ?_ (by assumption)))⟩)

set_option maxRecDepth 100000 in
theorem checkString_any (k l s n : Int) (x : ByteArray) (w : World) :
    Calls Try.prog 49 #[.agg #[.int .i64 k, .int .i64 l, .int .i64 s], .agg #[.int .i64 n, .string x]] w fun e w' => e = .returned (.int .i64 (first0 [pick (n != 0) 5, pick ((x.size : Int) != l) 18])) ∧ Gr w w' := by
  go_enter Try.func49, Try.ntmps49
  go_wp2
  go_region_held3 (fun w' => w'.cell? ⟨w.heap.size, 0, none⟩ = some (.int .i64 k) ∧ w'.cell? ⟨w.heap.size, 1, none⟩ = some (.int .i64 l) ∧ w'.cell? ⟨w.heap.size, 2, none⟩ = some (.int .i64 s) ∧ w'.cell? ⟨w.heap.size + 1, 0, none⟩ = some (.int .i64 n) ∧ w'.cell? ⟨w.heap.size + 1, 1, none⟩ = some (.string x)) (first | (go_keep; done) | ((try go_split_ands); (repeat' apply And.intro) <;> ((try simp only [World.cell?_drew]); first | assumption | (refine hb.keep ?_; (try simp only [World.cell?_drew]); first | assumption | (simp [*, go_sem]; done)) | (simp [*, go_sem]; done)))) (first | (go_at_call 85; refine (errorIf_any _ _ _).mono ?_; rintro e w1 ⟨rfl, rfl⟩) | (go_at_call 62; refine (firstError2 (pick (n != 0) 5) (pick ((x.size : Int) != l) 18) _ _ _ (by first | (simp; done) | (simp [go_sem]; done)) (by first | (simp; done) | (simp [go_sem]; done))).mono ?_; rintro e w1 ⟨rfl, rfl⟩))
  go_wp2
  go_ret
  exact ⟨rfl, (by repeat (first | exact Gr.refl _ | assumption | refine Gr.alloc ?_ _ | refine Gr.drew ?_ | refine Gr.drewN ?_ _ | refine Gr.setCell ?_ (by simp <;> omega) _ | refine Gr.trans ?_ (by assumption)))⟩

end Go.Proofs.Ytmejhccdiimmlaa
