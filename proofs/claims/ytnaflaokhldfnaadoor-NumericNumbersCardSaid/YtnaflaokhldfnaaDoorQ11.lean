/- Texts of the walks, merged. -/
import Derived.Test.YtnaflaokhldfnaaDoorQ10
import Derived.Lib.ItoaNum
namespace Go.Proofs.YtnaflaokhldfnaaDoor
set_option linter.unusedSimpArgs false
set_option linter.unusedVariables false
open Go.RowKit

def cmpI (x y : Int) : Int := if x < y then -1 else if y < x then 1 else 0
theorem isNaN_any (x : Int) (w : World) : Calls Tryd.prog 90 #[.int .u64 x] w fun e w' => e = .returned (.bool false) ∧ w = w' := by
  go_enter Tryd.func90, Tryd.ntmps90
  go_wp2
  go_ret
  exact ⟨ret_bool (by simp), rfl⟩
theorem cmpU_any (x y : Int) (w : World) : Calls Tryd.prog 70 #[.int .u64 x, .int .u64 y] w fun e w' => e = .returned (.int .i64 (cmpI x y)) ∧ w = w' := by
  go_enter Tryd.func70, Tryd.ntmps70
  go_wp2_with (go_at_call 90; refine (isNaN_any _ _).mono ?_; rintro e w1 ⟨rfl, rfl⟩)
  all_goals (go_ret; exact ⟨ret_int (by grind [cmpI]), rfl⟩)

def lex3 (a0 a1 a2 b0 b1 b2 : Int) : Int := if a2 ≠ b2 then cmpI a2 b2 else if a1 ≠ b1 then cmpI a1 b1 else if a0 ≠ b0 then cmpI a0 b0 else 0

set_option maxHeartbeats 1000000 in
theorem compare_w (a0 a1 a2 b0 b1 b2 : Int) (w : World) :
    Calls Tryd.prog 43 #[.agg #[.int .u64 a0, .int .u64 a1, .int .u64 a2], .agg #[.int .u64 b0, .int .u64 b1, .int .u64 b2]] w fun e w' => e = .returned (.int .i64 (lex3 a0 a1 a2 b0 b1 b2)) ∧ Gr w w' := by
  by_cases h2 : a2 = b2
  · have k2 : (a2 != b2) = false := by simp [h2]
    have H2 := Lib.hid h2
    clear h2
    by_cases h1 : a1 = b1
    · have k1 : (a1 != b1) = false := by simp [h1]
      have H1 := Lib.hid h1
      clear h1
      by_cases h0 : a0 = b0
      · have k0 : (a0 != b0) = false := by simp [h0]
        have H0 := Lib.hid h0
        clear h0
        go_enter Tryd.func43, Tryd.ntmps43
        go_wp2
        refine wp_loop_rounds 4 ?_
        rw [rounds_succ]
        go_wp2
        go_region
        go_wp2
        rw [rounds_succ]
        go_wp2
        go_region
        go_wp2
        rw [rounds_succ]
        go_wp2
        go_region
        go_wp2
        rw [rounds_succ]
        go_wp2
        go_ret
        exact ⟨ret_int (by simp [lex3, H0.out, H1.out, H2.out]), (by repeat (first | (with_reducible exact Gr.refl _) | (with_reducible assumption) | (with_reducible refine Gr.alloc ?_ _) | (with_reducible refine Gr.drew ?_) | (with_reducible refine Gr.drewN ?_ _) | (with_reducible refine Gr.setCell ?_ (by simp <;> omega) _) | (with_reducible refine Gr.trans ?_ (by with_reducible assumption)) | exact Gr.refl _ | assumption | refine Gr.alloc ?_ _ | refine Gr.drew ?_ | refine Gr.drewN ?_ _ | refine Gr.setCell ?_ (by simp <;> omega) _ | refine Gr.trans ?_ (by assumption)))⟩
      · have k0 : (a0 != b0) = true := by simp [h0]
        have H0 := Lib.hid h0
        clear h0
        go_enter Tryd.func43, Tryd.ntmps43
        go_wp2
        refine wp_loop_rounds 4 ?_
        rw [rounds_succ]
        go_wp2
        go_region
        go_wp2
        rw [rounds_succ]
        go_wp2
        go_region
        go_wp2
        rw [rounds_succ]
        go_wp2
        go_region
        go_wp2
        go_region_held3 (fun w' => w'.cell? ⟨w.heap.size, 0, none⟩ = some (.int .u64 a0) ∧ w'.cell? ⟨w.heap.size, 1, none⟩ = some (.int .u64 a1) ∧ w'.cell? ⟨w.heap.size, 2, none⟩ = some (.int .u64 a2) ∧ w'.cell? ⟨w.heap.size + 1, 0, none⟩ = some (.int .u64 b0) ∧ w'.cell? ⟨w.heap.size + 1, 1, none⟩ = some (.int .u64 b1) ∧ w'.cell? ⟨w.heap.size + 1, 2, none⟩ = some (.int .u64 b2)) (first | (go_keep; done) | ((try go_split_ands); (repeat' apply And.intro) <;> ((try simp only [World.cell?_drew]); first | (with_reducible assumption) | (refine hb.keep ?_; (try simp only [World.cell?_drew]); first | (with_reducible assumption) | (simp [*, go_sem]; done)) | (simp [*, go_sem]; done)))) ((go_at_call 70; refine (cmpU_any _ _ _).mono ?_; rintro e w1 ⟨rfl, rfl⟩))
        go_wp2
        go_ret
        exact ⟨ret_int (by simp [lex3, H0.out, H1.out, H2.out]), (by repeat (first | (with_reducible exact Gr.refl _) | (with_reducible assumption) | (with_reducible refine Gr.alloc ?_ _) | (with_reducible refine Gr.drew ?_) | (with_reducible refine Gr.drewN ?_ _) | (with_reducible refine Gr.setCell ?_ (by simp <;> omega) _) | (with_reducible refine Gr.trans ?_ (by with_reducible assumption)) | exact Gr.refl _ | assumption | refine Gr.alloc ?_ _ | refine Gr.drew ?_ | refine Gr.drewN ?_ _ | refine Gr.setCell ?_ (by simp <;> omega) _ | refine Gr.trans ?_ (by assumption)))⟩
    · have k1 : (a1 != b1) = true := by simp [h1]
      have H1 := Lib.hid h1
      clear h1
      go_enter Tryd.func43, Tryd.ntmps43
      go_wp2
      refine wp_loop_rounds 4 ?_
      rw [rounds_succ]
      go_wp2
      go_region
      go_wp2
      rw [rounds_succ]
      go_wp2
      go_region
      go_wp2
      go_region_held3 (fun w' => w'.cell? ⟨w.heap.size, 0, none⟩ = some (.int .u64 a0) ∧ w'.cell? ⟨w.heap.size, 1, none⟩ = some (.int .u64 a1) ∧ w'.cell? ⟨w.heap.size, 2, none⟩ = some (.int .u64 a2) ∧ w'.cell? ⟨w.heap.size + 1, 0, none⟩ = some (.int .u64 b0) ∧ w'.cell? ⟨w.heap.size + 1, 1, none⟩ = some (.int .u64 b1) ∧ w'.cell? ⟨w.heap.size + 1, 2, none⟩ = some (.int .u64 b2)) (first | (go_keep; done) | ((try go_split_ands); (repeat' apply And.intro) <;> ((try simp only [World.cell?_drew]); first | (with_reducible assumption) | (refine hb.keep ?_; (try simp only [World.cell?_drew]); first | (with_reducible assumption) | (simp [*, go_sem]; done)) | (simp [*, go_sem]; done)))) ((go_at_call 70; refine (cmpU_any _ _ _).mono ?_; rintro e w1 ⟨rfl, rfl⟩))
      go_wp2
      go_ret
      exact ⟨ret_int (by simp [lex3, H1.out, H2.out]), (by repeat (first | (with_reducible exact Gr.refl _) | (with_reducible assumption) | (with_reducible refine Gr.alloc ?_ _) | (with_reducible refine Gr.drew ?_) | (with_reducible refine Gr.drewN ?_ _) | (with_reducible refine Gr.setCell ?_ (by simp <;> omega) _) | (with_reducible refine Gr.trans ?_ (by with_reducible assumption)) | exact Gr.refl _ | assumption | refine Gr.alloc ?_ _ | refine Gr.drew ?_ | refine Gr.drewN ?_ _ | refine Gr.setCell ?_ (by simp <;> omega) _ | refine Gr.trans ?_ (by assumption)))⟩
  · have k2 : (a2 != b2) = true := by simp [h2]
    have H2 := Lib.hid h2
    clear h2
    go_enter Tryd.func43, Tryd.ntmps43
    go_wp2
    refine wp_loop_rounds 4 ?_
    rw [rounds_succ]
    go_wp2
    go_region
    go_wp2
    go_region_held3 (fun w' => w'.cell? ⟨w.heap.size, 0, none⟩ = some (.int .u64 a0) ∧ w'.cell? ⟨w.heap.size, 1, none⟩ = some (.int .u64 a1) ∧ w'.cell? ⟨w.heap.size, 2, none⟩ = some (.int .u64 a2) ∧ w'.cell? ⟨w.heap.size + 1, 0, none⟩ = some (.int .u64 b0) ∧ w'.cell? ⟨w.heap.size + 1, 1, none⟩ = some (.int .u64 b1) ∧ w'.cell? ⟨w.heap.size + 1, 2, none⟩ = some (.int .u64 b2)) (first | (go_keep; done) | ((try go_split_ands); (repeat' apply And.intro) <;> ((try simp only [World.cell?_drew]); first | (with_reducible assumption) | (refine hb.keep ?_; (try simp only [World.cell?_drew]); first | (with_reducible assumption) | (simp [*, go_sem]; done)) | (simp [*, go_sem]; done)))) ((go_at_call 70; refine (cmpU_any _ _ _).mono ?_; rintro e w1 ⟨rfl, rfl⟩))
    go_wp2
    go_ret
    exact ⟨ret_int (by simp [lex3, H2.out]), (by repeat (first | (with_reducible exact Gr.refl _) | (with_reducible assumption) | (with_reducible refine Gr.alloc ?_ _) | (with_reducible refine Gr.drew ?_) | (with_reducible refine Gr.drewN ?_ _) | (with_reducible refine Gr.setCell ?_ (by simp <;> omega) _) | (with_reducible refine Gr.trans ?_ (by with_reducible assumption)) | exact Gr.refl _ | assumption | refine Gr.alloc ?_ _ | refine Gr.drew ?_ | refine Gr.drewN ?_ _ | refine Gr.setCell ?_ (by simp <;> omega) _ | refine Gr.trans ?_ (by assumption)))⟩

theorem lex3_cmp {M N : Nat} (hm : Sm M) (hn : Sm N) : lex3 (wd M 0 : Nat) (wd M 1 : Nat) (wd M 2 : Nat) (wd N 0 : Nat) (wd N 1 : Nat) (wd N 2 : Nat) = cmpI M N := by
  have h := cmp_words hm hn
  have k := cmp_words hn hm
  generalize wd M 0 = a0 at *
  generalize wd M 1 = a1 at *
  generalize wd M 2 = a2 at *
  generalize wd N 0 = b0 at *
  generalize wd N 1 = b1 at *
  generalize wd N 2 = b2 at *
  unfold lex3 cmpI
  repeat' split
  all_goals omega

theorem compare_any (M N : Nat) (hm : Sm M) (hn : Sm N) (w : World) :
    Calls Tryd.prog 43 #[(.agg #[.int .u64 ((wd (M) 0 : Nat) : Int), .int .u64 ((wd (M) 1 : Nat) : Int), .int .u64 ((wd (M) 2 : Nat) : Int)]), (.agg #[.int .u64 ((wd (N) 0 : Nat) : Int), .int .u64 ((wd (N) 1 : Nat) : Int), .int .u64 ((wd (N) 2 : Nat) : Int)])] w fun e w' => e = .returned (.int .i64 (cmpI M N)) ∧ Gr w w' := by
  rw [← lex3_cmp hm hn]; exact compare_w _ _ _ _ _ _ w

/-- The number of bits: between the powers of two. -/
def IsLen (N L : Nat) : Prop := N < 2 ^ L ∧ (N ≠ 0 → 2 ^ (L - 1) ≤ N) ∧ L ≤ 192
theorem bitLen_bd (x : Nat) (h : x < 18446744073709551616) (h0 : x ≠ 0) : 1 ≤ Lib.bitLen x ∧ 2 ^ (Lib.bitLen x - 1) ≤ x ∧ x < 2 ^ Lib.bitLen x ∧ Lib.bitLen x ≤ 64 := by
  have := Lib.bitLenAux_bounds 64 x (by omega) h0
  exact ⟨this.1, this.2.1, this.2.2, Lib.bitLen_le x 64 (by omega) (by omega)⟩
theorem len64_any (x : Nat) (h : x < 18446744073709551616) (w : World) :
    Calls Tryd.prog 101 #[.int .u64 (x : Int)] w fun e w' => e = .returned (.int .i64 (Lib.bitLen x : Nat)) ∧ w = w' :=
  (Tryd.bits_Len64 x w (by omega) (by omega)).mono fun e w' ⟨a, b⟩ => ⟨by rw [a, Int.toNat_natCast], b.symm⟩

theorem isLen_hi {N : Nat} (hm : Sm N) (i : Nat) (hi : i = 0 ∨ i = 1 ∨ i = 2) (h0 : wd N i ≠ 0) (hz1 : i = 0 → wd N 1 = 0) (hz2 : i ≤ 1 → wd N 2 = 0) : IsLen N (64 * i + Lib.bitLen (wd N i)) := by
  have b := bitLen_bd (wd N i) (wd_lt hm i) h0
  have e := wd_sum N
  have m0 := wd_lt hm 0
  have m1 := wd_lt hm 1
  obtain ⟨L, hL⟩ : ∃ L, Lib.bitLen (wd N i) = L + 1 := ⟨Lib.bitLen (wd N i) - 1, by omega⟩
  rw [hL] at b ⊢
  have hL3 := b.2.2.2
  have bl := b.2.1
  have bu := b.2.2.1
  rw [Nat.add_sub_cancel] at bl
  refine ⟨?_, fun _ => ?_, by omega⟩
  · rw [Nat.pow_add]
    generalize 2 ^ (L + 1) = P at *
    rcases hi with rfl | rfl | rfl
    · rw [hz1 rfl, hz2 (by omega)] at e
      simp; omega
    · rw [hz2 (by omega)] at e
      rw [show 2 ^ (64 * 1) = 18446744073709551616 by rfl]; omega
    · rw [show 2 ^ (64 * 2) = 18446744073709551616 * 18446744073709551616 by rfl]; omega
  · rw [show 64 * i + (L + 1) - 1 = 64 * i + L by omega, Nat.pow_add]
    generalize 2 ^ L = P at *
    rcases hi with rfl | rfl | rfl
    · rw [hz1 rfl, hz2 (by omega)] at e
      simp; omega
    · rw [hz2 (by omega)] at e
      rw [show 2 ^ (64 * 1) = 18446744073709551616 by rfl]; omega
    · rw [show 2 ^ (64 * 2) = 18446744073709551616 * 18446744073709551616 by rfl]; omega
end Go.Proofs.YtnaflaokhldfnaaDoor
namespace Go.Proofs.YtnaflaokhldfnaaDoor
set_option linter.unusedSimpArgs false
set_option linter.unusedVariables false
open Go.RowKit

end Go.Proofs.YtnaflaokhldfnaaDoor
