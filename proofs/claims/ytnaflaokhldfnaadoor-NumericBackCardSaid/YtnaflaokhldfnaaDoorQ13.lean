/- Texts of the walks, merged. -/
import Derived.Test.YtnaflaokhldfnaaDoorQ12
import Derived.Deep.CutBlock
import Derived.Test.YtnaflaokhldfnaaDoorQ10
import Derived.Test.YtnaflaokhldfnaaDoorQ01
namespace Go.Proofs.YtnaflaokhldfnaaDoor
set_option linter.unusedSimpArgs false
set_option linter.unusedVariables false
open Go.RowKit

theorem cellsN {a b : World} (h : Gr a b) (n : Nat) (hn : n ≤ a.heap.size) : (∀ k o, k < n → b.cell? ⟨k, o, none⟩ = a.cell? ⟨k, o, none⟩) ∧ (∀ k o, k < n → b.frozen? ⟨k, o, none⟩ = a.frozen? ⟨k, o, none⟩) :=
  ⟨fun k o hk => h.cells.1 k o (by omega), fun k o hk => h.cells.2 k o (by omega)⟩

end Go.Proofs.YtnaflaokhldfnaaDoor
namespace Go.Proofs.YtnaflaokhldfnaaDoor
set_option linter.unusedSimpArgs false
set_option linter.unusedVariables false
open Go.RowKit

end Go.Proofs.YtnaflaokhldfnaaDoor
namespace Go.Proofs.YtnaflaokhldfnaaDoor
set_option linter.unusedSimpArgs false
set_option linter.unusedVariables false
open Go.RowKit

theorem isLen_64 {N L : Nat} (h : IsLen N L) (h0 : 0 < N) : (L ≤ 64 ↔ N < 18446744073709551616) := by
  obtain ⟨h1, h2, h3⟩ := h
  have h2 := h2 (by omega)
  constructor
  · intro hl
    have : 2 ^ L ≤ 2 ^ 64 := Nat.pow_le_pow_right (by omega) hl
    exact Nat.lt_of_lt_of_le h1 this
  · intro hn
    rcases Nat.lt_or_ge 64 L with k | k
    · have : 2 ^ 64 ≤ 2 ^ (L - 1) := Nat.pow_le_pow_right (by omega) (by omega)
      have e : (2 : Nat) ^ 64 = 18446744073709551616 := rfl
      omega
    · exact k

set_option maxHeartbeats 200000 in
set_option maxRecDepth 100000 in
theorem exactOf_any (n s : Int) (h : -1000000000000000000 ≤ n) (h' : n ≤ 1000000000000000000) (w : World) :
    Calls Tryd.prog 19 #[.agg #[.int .i64 n, .int .i64 s]] w fun e w' => e = .returned (.agg #[.bool (decide (n < 0)), .int .u64 ((wd (n.natAbs) 0 : Nat) : Int), .int .u64 ((wd (n.natAbs) 1 : Nat) : Int), .int .u64 ((wd (n.natAbs) 2 : Nat) : Int), .int .u64 ((wd (1) 0 : Nat) : Int), .int .u64 ((wd (1) 1 : Nat) : Int), .int .u64 ((wd (1) 2 : Nat) : Int), .int .i64 (s)]) ∧ Gr w w' := by
  have h1 : ∀ w, Calls Tryd.prog 45 #[.int .i64 1] w fun e w' => e = .returned (.agg #[.int .u64 ((wd (1) 0 : Nat) : Int), .int .u64 ((wd (1) 1 : Nat) : Int), .int .u64 ((wd (1) 2 : Nat) : Int)]) ∧ Gr w w' := fun w => amountOf_any 1 (by omega) (by omega) w
  have hn := amountOf_any n h h'
  have H0 := Lib.hid h
  clear h h'
  generalize wd n.natAbs 0 = a0 at *
  generalize wd n.natAbs 1 = a1 at *
  generalize wd n.natAbs 2 = a2 at *
  generalize wd 1 0 = b0 at *
  generalize wd 1 1 = b1 at *
  generalize wd 1 2 = b2 at *
  go_enter Tryd.func19, Tryd.ntmps19
  go_wp2
  go_region_held3 (fun w' => w'.cell? ⟨w.heap.size, 0, none⟩ = some (.int .i64 n) ∧ w'.cell? ⟨w.heap.size, 1, none⟩ = some (.int .i64 s)) (first | (go_keep; done) | ((try go_split_ands); (repeat' apply And.intro) <;> ((try simp only [World.cell?_drew]); first | (with_reducible assumption) | (refine hb.keep ?_; (try simp only [World.cell?_drew]); first | (with_reducible assumption) | (simp [*, go_sem]; done)) | (simp [*, go_sem]; done)))) (first | (go_at_call 45; with_reducible refine (hn _).mono ?_; rintro e w1 ⟨rfl, hb⟩; obtain ⟨hc, hf⟩ := cellsN hb (w.heap.size + 2) (by first | exact hz | omega | (simp; done) | (simp; omega)); have hz : w.heap.size + 2 ≤ w1.heap.size := (by have h := hb.size; (try simp at h); omega); have hz0 : w.heap.size < w1.heap.size := (by omega); have hz1 : w.heap.size + 1 < w1.heap.size := (by omega)) | (go_at_call 45; with_reducible refine (h1 _).mono ?_; rintro e w1 ⟨rfl, hb⟩; obtain ⟨hc, hf⟩ := cellsN hb (w.heap.size + 2) (by first | exact hz | omega | (simp; done) | (simp; omega)); have hz : w.heap.size + 2 ≤ w1.heap.size := (by have h := hb.size; (try simp at h); omega); have hz0 : w.heap.size < w1.heap.size := (by omega); have hz1 : w.heap.size + 1 < w1.heap.size := (by omega)))
  all_goals
    go_wp2
    refine bodyPost_ret (v := .agg #[.bool (decide (n < 0)), .int .u64 (a0 : Int), .int .u64 (a1 : Int), .int .u64 (a2 : Int), .int .u64 (b0 : Int), .int .u64 (b1 : Int), .int .u64 (b2 : Int), .int .i64 s]) ?_ rfl ⟨rfl, (by (repeat (first | with_reducible refine Gr.setCell ?_ (by simp <;> omega) _ | with_reducible refine Gr.drew ?_ | with_reducible refine Gr.drewN ?_ _ | with_reducible refine Gr.alloc ?_ _)); first | (with_reducible exact Gr.refl _) | (with_reducible assumption) | exact (by repeat (first | (with_reducible exact Gr.refl _) | (with_reducible assumption) | (with_reducible refine Gr.alloc ?_ _) | (with_reducible refine Gr.drew ?_) | (with_reducible refine Gr.drewN ?_ _) | (with_reducible refine Gr.setCell ?_ (by simp <;> omega) _) | (with_reducible refine Gr.trans ?_ (by with_reducible assumption)) | exact Gr.refl _ | assumption | refine Gr.alloc ?_ _ | refine Gr.drew ?_ | refine Gr.drewN ?_ _ | refine Gr.setCell ?_ (by simp <;> omega) _ | refine Gr.trans ?_ (by assumption))))⟩
    simp [results, Tryd.results19, go_sem, *]
end Go.Proofs.YtnaflaokhldfnaaDoor
namespace Go.Proofs.YtnaflaokhldfnaaDoor
set_option linter.unusedSimpArgs false
set_option linter.unusedVariables false
open Go.RowKit

def pres (b : Bool) (z : Nat) (cc : Int) : Value := if 0 < cc then .tuple #[.agg #[.int .i64 0, .string ⟨#[]⟩], .int .i64 19] else .tuple #[.agg #[.int .i64 (if b then -(z : Int) else z), .string ⟨#[]⟩], .int .i64 0]

end Go.Proofs.YtnaflaokhldfnaaDoor
namespace Go.Proofs.YtnaflaokhldfnaaDoor
set_option linter.unusedSimpArgs false
set_option linter.unusedVariables false
open Go.RowKit

/-- What a rounded amount is put into a type as: N, the error. -/
def pN (b : Bool) (Z : Nat) (l : Int) : Int := if most l < Z then 0 else if b then -(Z : Int) else Z
def pE (Z : Nat) (l : Int) : Int := if most l < Z then 19 else 0
theorem most_bd (l : Int) (h : l ≤ 18) : 0 ≤ most l ∧ most l ≤ 999999999999999999 := by have := p10_bd l h; unfold most; omega
theorem cmp_pos {M N : Nat} : 0 < cmpI M N ↔ N < M := by unfold cmpI; repeat' split <;> omega
theorem cmp_nonneg {M N : Nat} : 0 ≤ cmpI M N ↔ N ≤ M := by unfold cmpI; repeat' split <;> omega
theorem wd_low {Z : Nat} (h : Z ≤ 1000000000000000000) : wd Z 0 = Z := (wd_of (N := Z) (a0 := Z) (a1 := 0) (a2 := 0) (by omega) (by omega) (by omega)).1
theorem pres_of (b : Bool) (Z : Nat) (l : Int) (hl : l ≤ 18) (M : Nat) (hM : (M : Int) = most l) : pres b (wd Z 0) (cmpI Z M) = .tuple #[.agg #[.int .i64 (pN b Z l), .string ⟨#[]⟩], .int .i64 (pE Z l)] := by
  have hb := most_bd l hl
  unfold pres pN pE
  by_cases h : M < Z
  · rw [if_pos (cmp_pos.2 h), if_pos (by omega), if_pos (by omega)]
  · have h2 : ¬ most l < (Z : Int) := by omega
    rw [if_neg (fun k => h (cmp_pos.1 k)), if_neg h2, if_neg h2, wd_low (by omega)]

end Go.Proofs.YtnaflaokhldfnaaDoor
namespace Go.Proofs.YtnaflaokhldfnaaDoor
set_option linter.unusedSimpArgs false
set_option linter.unusedVariables false
open Go.RowKit

/-- The error of a number. -/
def numErr (n s : Int) : Int := if n < -999999999999999 ∨ 999999999999999 < n ∨ s < 0 ∨ 15 < s then 3 else 0
theorem CheckNumber_any (n s : Int) (w : World) :
    Calls Tryd.prog 9 #[.agg #[.int .i64 n, .int .i64 s]] w fun e w' => e = .returned (.int .i64 (numErr n s)) ∧ Gr w w' := by
  by_cases h1 : n < -999999999999999
  · go_enter Tryd.func9, Tryd.ntmps9
    go_wp2
    go_ret
    exact ⟨ret_int (by simp [numErr, h1]), (by repeat (first | (with_reducible exact Gr.refl _) | (with_reducible assumption) | (with_reducible refine Gr.alloc ?_ _) | (with_reducible refine Gr.drew ?_) | (with_reducible refine Gr.drewN ?_ _) | (with_reducible refine Gr.setCell ?_ (by simp <;> omega) _) | (with_reducible refine Gr.trans ?_ (by with_reducible assumption)) | exact Gr.refl _ | assumption | refine Gr.alloc ?_ _ | refine Gr.drew ?_ | refine Gr.drewN ?_ _ | refine Gr.setCell ?_ (by simp <;> omega) _ | refine Gr.trans ?_ (by assumption)))⟩
  · have b1 : decide (n < -999999999999999) = false := by simpa using h1
    by_cases h2 : 999999999999999 < n
    · go_enter Tryd.func9, Tryd.ntmps9
      go_wp2
      go_ret
      exact ⟨ret_int (by simp [numErr, h2]), (by repeat (first | (with_reducible exact Gr.refl _) | (with_reducible assumption) | (with_reducible refine Gr.alloc ?_ _) | (with_reducible refine Gr.drew ?_) | (with_reducible refine Gr.drewN ?_ _) | (with_reducible refine Gr.setCell ?_ (by simp <;> omega) _) | (with_reducible refine Gr.trans ?_ (by with_reducible assumption)) | exact Gr.refl _ | assumption | refine Gr.alloc ?_ _ | refine Gr.drew ?_ | refine Gr.drewN ?_ _ | refine Gr.setCell ?_ (by simp <;> omega) _ | refine Gr.trans ?_ (by assumption)))⟩
    · have b2 : decide (999999999999999 < n) = false := by simpa using h2
      by_cases h3 : s < 0
      · go_enter Tryd.func9, Tryd.ntmps9
        go_wp2
        go_ret
        exact ⟨ret_int (by simp [numErr, h3]), (by repeat (first | (with_reducible exact Gr.refl _) | (with_reducible assumption) | (with_reducible refine Gr.alloc ?_ _) | (with_reducible refine Gr.drew ?_) | (with_reducible refine Gr.drewN ?_ _) | (with_reducible refine Gr.setCell ?_ (by simp <;> omega) _) | (with_reducible refine Gr.trans ?_ (by with_reducible assumption)) | exact Gr.refl _ | assumption | refine Gr.alloc ?_ _ | refine Gr.drew ?_ | refine Gr.drewN ?_ _ | refine Gr.setCell ?_ (by simp <;> omega) _ | refine Gr.trans ?_ (by assumption)))⟩
      · have b3 : decide (s < 0) = false := by simpa using h3
        go_enter Tryd.func9, Tryd.ntmps9
        go_wp2
        all_goals (go_ret; exact ⟨ret_int (by grind [numErr]), (by repeat (first | (with_reducible exact Gr.refl _) | (with_reducible assumption) | (with_reducible refine Gr.alloc ?_ _) | (with_reducible refine Gr.drew ?_) | (with_reducible refine Gr.drewN ?_ _) | (with_reducible refine Gr.setCell ?_ (by simp <;> omega) _) | (with_reducible refine Gr.trans ?_ (by with_reducible assumption)) | exact Gr.refl _ | assumption | refine Gr.alloc ?_ _ | refine Gr.drew ?_ | refine Gr.drewN ?_ _ | refine Gr.setCell ?_ (by simp <;> omega) _ | refine Gr.trans ?_ (by assumption)))⟩)

end Go.Proofs.YtnaflaokhldfnaaDoor
namespace Go.Proofs.YtnaflaokhldfnaaDoor
set_option linter.unusedSimpArgs false
set_option linter.unusedVariables false
open Go.RowKit

def cvErr (n s k l sc : Int) : Int := first0 [numErr n s, typeErr k l sc, pick (!isNum k) 17]
/-- A number's amount in a type's last digits, rounded. -/
def cvZ (n s sc : Int) (half : Bool) : Nat := rq (n.natAbs * 10 ^ (sc - s).toNat) (1 * 10 ^ (s - sc).toNat) half
def cvN (n s k l sc : Int) (half : Bool) : Int := if cvErr n s k l sc ≠ 0 then 0 else pN (decide (n < 0)) (cvZ n s sc half) l
def cvE (n s k l sc : Int) (half : Bool) : Int := if cvErr n s k l sc ≠ 0 then cvErr n s k l sc else pE (cvZ n s sc half) l

theorem cvErr_ok {n s k l sc : Int} (h : cvErr n s k l sc = 0) : -999999999999999 ≤ n ∧ n ≤ 999999999999999 ∧ 0 ≤ s ∧ s ≤ 15 ∧ 1 ≤ l ∧ l ≤ 15 ∧ 0 ≤ sc ∧ sc ≤ l ∧ 1 ≤ k ∧ k ≤ 3 := by
  unfold cvErr at h
  simp only [first0] at h
  have h1 : numErr n s = 0 := by by_cases e : numErr n s = 0; exact e; simp [e] at h
  have h2 : typeErr k l sc = 0 := by by_cases e : typeErr k l sc = 0; exact e; simp [e, h1] at h
  have h3 : isNum k = true := by by_cases e : isNum k = true; exact e; simp [e, h1, h2, pick] at h
  have hk : 1 ≤ k ∧ k ≤ 3 := by simp [isNum] at h3; omega
  have hr : rightLen k l = true := by by_cases e : rightLen k l = true; exact e; exfalso; simp only [typeErr, e] at h2; split at h2 <;> simp at h2
  have hl : 1 ≤ l ∧ l ≤ 15 := by unfold rightLen at hr; by_cases k3 : k = 3 <;> simp [k3, show k ≠ 0 by omega, show k ≠ 4 by omega] at hr <;> omega
  have hs : 0 ≤ sc ∧ sc ≤ l := by unfold typeErr at h2; rw [if_neg (by omega)] at h2; simp only [hr] at h2; unfold mostScale at h2; rw [if_pos h3] at h2; simp at h2; omega
  unfold numErr at h1
  split at h1 <;> omega

theorem pow10_le (n : Nat) (h : n ≤ 15) : 1 ≤ 10 ^ n ∧ 10 ^ n ≤ 1000000000000000 := by
  have h1 : 10 ^ n ≤ 10 ^ 15 := Nat.pow_le_pow_right (by omega) h
  exact ⟨Nat.pow_pos (by omega), h1⟩

end Go.Proofs.YtnaflaokhldfnaaDoor
