/- Texts of the walks, merged. -/
import Derived.Test.YtnaflaokhldfnaaDoorQ16
namespace Go.Proofs.YtnaflaokhldfnaaDoor
set_option linter.unusedSimpArgs false
set_option linter.unusedVariables false
open Go.RowKit

def sO (b1 b2 : Bool) (A B : Nat) : Nat := if b1 = b2 then A + B else if A < B then B - A else A - B
def sB (b1 b2 : Bool) (A B : Nat) : Bool := if b1 = b2 then b1 else if A < B then b2 else b1
theorem sumOf_any (b1 b2 : Bool) (O1 O2 : Nat) (s1 s2 S : Int) (e1 e2 A B : Nat) (hS : max s1 s2 = S) (h1 : S - s1 = (e1 : Int)) (h2 : S - s2 = (e2 : Int)) (hA : O1 * 10 ^ e1 = A) (hB : O2 * 10 ^ e2 = B)
    (hs1 : -50 ≤ s1) (hs1' : s1 ≤ 50) (hs2 : -50 ≤ s2) (hs2' : s2 ≤ 50) (hm : Sm (A + B)) (w : World) :
    Calls Tryd.prog 18 #[(.agg #[.bool b1, .int .u64 ((wd (O1) 0 : Nat) : Int), .int .u64 ((wd (O1) 1 : Nat) : Int), .int .u64 ((wd (O1) 2 : Nat) : Int), .int .u64 ((wd (1) 0 : Nat) : Int), .int .u64 ((wd (1) 1 : Nat) : Int), .int .u64 ((wd (1) 2 : Nat) : Int), .int .i64 (s1)]), (.agg #[.bool b2, .int .u64 ((wd (O2) 0 : Nat) : Int), .int .u64 ((wd (O2) 1 : Nat) : Int), .int .u64 ((wd (O2) 2 : Nat) : Int), .int .u64 ((wd (1) 0 : Nat) : Int), .int .u64 ((wd (1) 1 : Nat) : Int), .int .u64 ((wd (1) 2 : Nat) : Int), .int .i64 (s2)])] w fun e w' => e = .returned (.agg #[.bool (sB b1 b2 A B), .int .u64 ((wd ((sO b1 b2 A B)) 0 : Nat) : Int), .int .u64 ((wd ((sO b1 b2 A B)) 1 : Nat) : Int), .int .u64 ((wd ((sO b1 b2 A B)) 2 : Nat) : Int), .int .u64 ((wd (1) 0 : Nat) : Int), .int .u64 ((wd (1) 1 : Nat) : Int), .int .u64 ((wd (1) 2 : Nat) : Int), .int .i64 (S)]) ∧ Gr w w' := by
  have mA : Sm A := sm_le hm (by omega)
  have mB : Sm B := sm_le hm (by omega)
  have B1 := brought_any b1 O1 1 s1 S e1 A h1 (by omega) (by omega) (by omega) hA mA
  have B2 := brought_any b2 O2 1 s2 S e2 B h2 (by omega) (by omega) (by omega) hB mB
  by_cases hb : b1 = b2
  · have e1 : sB b1 b2 A B = b1 := by unfold sB; rw [if_pos hb]
    have e2 : sO b1 b2 A B = A + B := by unfold sO; rw [if_pos hb]
    rw [e1, e2]
    exact sumOf_same b1 b2 s1 s2 S 0 _ _ _ _ _ _ _ _ _ _ _ _ _ _ _ _ _ _ _ _ _ hS B1 B2 (plus_any A B hm) (by simp [hb]) w
  · by_cases hlt : A < B
    · have e1 : sB b1 b2 A B = b2 := by unfold sB; rw [if_neg hb, if_pos hlt]
      have e2 : sO b1 b2 A B = B - A := by unfold sO; rw [if_neg hb, if_pos hlt]
      rw [e1, e2]
      exact sumOf_less b1 b2 s1 s2 S (cmpI A B) _ _ _ _ _ _ _ _ _ _ _ _ _ _ _ _ _ _ _ _ _ hS B1 B2 (compare_any A B mA mB) (minus_any B A mB (by omega)) (by simp [hb]) (by unfold cmpI; rw [if_pos (by omega)]; omega) w
    · have e1 : sB b1 b2 A B = b1 := by unfold sB; rw [if_neg hb, if_neg hlt]
      have e2 : sO b1 b2 A B = A - B := by unfold sO; rw [if_neg hb, if_neg hlt]
      rw [e1, e2]
      exact sumOf_more b1 b2 s1 s2 S (cmpI A B) _ _ _ _ _ _ _ _ _ _ _ _ _ _ _ _ _ _ _ _ _ hS B1 B2 (compare_any A B mA mB) (minus_any A B mA (by omega)) (by simp [hb]) (cmp_nonneg.2 (by omega)) w

/-- A number in the last digits of a scale. -/
def upI (n s S : Int) : Int := n * 10 ^ (S - s).toNat
def sgI (d : Int) : Int := if d < 0 then -1 else if d = 0 then 0 else 1
def cpErr (n s m r : Int) : Int := first0 [numErr n s, numErr m r]
def cpR (n s m r : Int) : Int := if cpErr n s m r ≠ 0 then 0 else sgI (upI n s (max s r) - upI m r (max s r))
theorem numErr_ok {n s : Int} (h : numErr n s = 0) : -999999999999999 ≤ n ∧ n ≤ 999999999999999 ∧ 0 ≤ s ∧ s ≤ 15 := by unfold numErr at h; split at h <;> omega
theorem cpErr_ok {n s m r : Int} (h : cpErr n s m r = 0) : numErr n s = 0 ∧ numErr m r = 0 := by
  unfold cpErr at h
  simp only [first0] at h
  have h1 : numErr n s = 0 := by by_cases e : numErr n s = 0; exact e; simp [e] at h
  have h2 : numErr m r = 0 := by by_cases e : numErr m r = 0; exact e; simp [e, h1] at h
  exact ⟨h1, h2⟩
theorem abs_up (n : Int) (e : Nat) : ((n.natAbs * 10 ^ e : Nat) : Int) = if n < 0 then -(n * 10 ^ e) else n * 10 ^ e := by
  have h1 : ((n.natAbs * 10 ^ e : Nat) : Int) = (n.natAbs : Int) * 10 ^ e := by simp
  rw [h1]
  split
  · rw [show (n.natAbs : Int) = -n by omega, Int.neg_mul]
  · rw [show (n.natAbs : Int) = n by omega]
theorem sum_sign (n m : Int) (d e : Nat) :
    (if sO (decide (n < 0)) (!decide (m < 0)) (n.natAbs * 10 ^ d) (m.natAbs * 10 ^ e) = 0 then (0 : Int) else if sB (decide (n < 0)) (!decide (m < 0)) (n.natAbs * 10 ^ d) (m.natAbs * 10 ^ e) then -1 else 1) = sgI (n * 10 ^ d - m * 10 ^ e) := by
  have a := abs_up n d
  have b := abs_up m e
  have pd := ten_pos d
  have pe := ten_pos e
  have hn : n < 0 → 1 ≤ n.natAbs * 10 ^ d := fun h => Nat.mul_pos (by omega) (Nat.pow_pos (by omega))
  have hm : m < 0 → 1 ≤ m.natAbs * 10 ^ e := fun h => Nat.mul_pos (by omega) (Nat.pow_pos (by omega))
  have hn0 : ¬ n < 0 → 0 ≤ n * 10 ^ d := fun h => Int.mul_nonneg (by omega) (by omega)
  have hm0 : ¬ m < 0 → 0 ≤ m * 10 ^ e := fun h => Int.mul_nonneg (by omega) (by omega)
  generalize n.natAbs * 10 ^ d = A at *
  generalize m.natAbs * 10 ^ e = B at *
  generalize n * 10 ^ d = x at *
  generalize m * 10 ^ e = y at *
  unfold sO sB sgI
  by_cases h1 : n < 0 <;> by_cases h2 : m < 0 <;> simp only [h1, h2, decide_true, decide_false, Bool.not_true, Bool.not_false, if_true, if_false] at * <;> simp <;> (repeat' split) <;> omega

set_option maxHeartbeats 2000000 in
set_option maxRecDepth 100000 in
theorem Compared_any (n s m r : Int) (w : World) :
    Calls Tryd.prog 6 #[.agg #[.int .i64 n, .int .i64 s], .agg #[.int .i64 m, .int .i64 r]] w fun e w' => e = .returned (.tuple #[.int .i64 (cpR n s m r), .int .i64 (cpErr n s m r)]) ∧ Gr w w' := by
  have hfe : ∀ b cap W, W.cell? ⟨b, 0, none⟩ = some (.int .i64 (numErr n s)) → W.cell? ⟨b, 1, none⟩ = some (.int .i64 (numErr m r)) → Calls Tryd.prog 17 #[.slice (some ⟨b, 0, none⟩) 2 cap] W fun e w' => e = .returned (.int .i64 (cpErr n s m r)) ∧ W = w' := fun b cap W h0 h1 => firstError2 _ _ b cap W h0 h1
  by_cases he : cpErr n s m r = 0
  · have hb0 : (cpErr n s m r != 0) = false := by simp [he]
    obtain ⟨k1, k2⟩ := cpErr_ok he
    obtain ⟨n0, n1, s0, s1⟩ := numErr_ok k1
    obtain ⟨m0, m1, r0, r1⟩ := numErr_ok k2
    have hx := exactOf_any n s (by omega) (by omega)
    have hy := exactOf_any m r (by omega) (by omega)
    have hg := negated_any (decide (m < 0)) m.natAbs 1 r
    obtain ⟨d, hd⟩ : ∃ d, (max s r - s).toNat = d := ⟨_, rfl⟩
    obtain ⟨e, hee⟩ : ∃ e, (max s r - r).toNat = e := ⟨_, rfl⟩
    have pd := pow10_le d (by omega)
    have pe := pow10_le e (by omega)
    have bA : n.natAbs * 10 ^ d ≤ 999999999999999 * 1000000000000000 := Nat.mul_le_mul (by omega) pd.2
    have bB : m.natAbs * 10 ^ e ≤ 999999999999999 * 1000000000000000 := Nat.mul_le_mul (by omega) pe.2
    have hs := sumOf_any (decide (n < 0)) (!decide (m < 0)) n.natAbs m.natAbs s r (max s r) d e _ _ rfl (by omega) (by omega) rfl rfl (by omega) (by omega) (by omega) (by omega) (by unfold Sm; omega)
    have hq := sign_any (sB (decide (n < 0)) (!decide (m < 0)) (n.natAbs * 10 ^ d) (m.natAbs * 10 ^ e)) (sO (decide (n < 0)) (!decide (m < 0)) (n.natAbs * 10 ^ d) (m.natAbs * 10 ^ e)) 1 (max s r)
    have hres : (if sO (decide (n < 0)) (!decide (m < 0)) (n.natAbs * 10 ^ d) (m.natAbs * 10 ^ e) = 0 then (0 : Int) else if sB (decide (n < 0)) (!decide (m < 0)) (n.natAbs * 10 ^ d) (m.natAbs * 10 ^ e) then -1 else 1) = cpR n s m r := by
      rw [sum_sign]; unfold cpR; rw [if_neg (by simp [he])]; unfold upI; rw [hd, hee]
    rw [hres] at hq
    have HE := Lib.hid he
    clear he k1 k2 hres bA bB pd pe hd hee
    generalize sB (decide (n < 0)) (!decide (m < 0)) (n.natAbs * 10 ^ d) (m.natAbs * 10 ^ e) = RB at *
    generalize sO (decide (n < 0)) (!decide (m < 0)) (n.natAbs * 10 ^ d) (m.natAbs * 10 ^ e) = RO at *
    generalize max s r = RS at *
    clear n0 n1 s0 s1 m0 m1 r0 r1
    go_enter Tryd.func6, Tryd.ntmps6
    go_wp2
    go_region_held3 (fun w' => w'.cell? ⟨w.heap.size, 0, none⟩ = some (.int .i64 n) ∧ w'.cell? ⟨w.heap.size, 1, none⟩ = some (.int .i64 s) ∧ w'.cell? ⟨w.heap.size + 1, 0, none⟩ = some (.int .i64 m) ∧ w'.cell? ⟨w.heap.size + 1, 1, none⟩ = some (.int .i64 r)) (first | (go_keep; done) | ((try go_split_ands); (repeat' apply And.intro) <;> ((try simp only [World.cell?_drew]); first | (with_reducible assumption) | (refine hb.keep ?_; (try simp only [World.cell?_drew]); first | (with_reducible assumption) | (simp [*, go_sem]; done)) | (simp [*, go_sem]; done)))) (first | (go_at_call 9; with_reducible refine (CheckNumber_any n s _).mono ?_; rintro e w1 ⟨rfl, hb⟩; obtain ⟨hc, hf⟩ := cellsN hb (w.heap.size + 2) (by first | exact hz | omega | (simp; done) | (simp; omega)); have hz : w.heap.size + 2 ≤ w1.heap.size := (by have h := hb.size; (try simp at h); omega); have hz0 : w.heap.size < w1.heap.size := (by omega); have hz1 : w.heap.size + 1 < w1.heap.size := (by omega)) | (go_at_call 9; with_reducible refine (CheckNumber_any m r _).mono ?_; rintro e w1 ⟨rfl, hb⟩; obtain ⟨hc, hf⟩ := cellsN hb (w.heap.size + 2) (by first | exact hz | omega | (simp; done) | (simp; omega)); have hz : w.heap.size + 2 ≤ w1.heap.size := (by have h := hb.size; (try simp at h); omega); have hz0 : w.heap.size < w1.heap.size := (by omega); have hz1 : w.heap.size + 1 < w1.heap.size := (by omega)) | (go_at_call 17; refine (hfe _ _ _ (by first | (simp; done) | (simp [go_sem]; done)) (by first | (simp; done) | (simp [go_sem]; done))).mono ?_; rintro e w1 ⟨rfl, rfl⟩))
    all_goals
      go_wp2
      go_region_held3 (fun w' => w'.cell? ⟨w.heap.size, 0, none⟩ = some (.int .i64 n) ∧ w'.cell? ⟨w.heap.size, 1, none⟩ = some (.int .i64 s) ∧ w'.cell? ⟨w.heap.size + 1, 0, none⟩ = some (.int .i64 m) ∧ w'.cell? ⟨w.heap.size + 1, 1, none⟩ = some (.int .i64 r)) (first | (go_keep; done) | ((try go_split_ands); (repeat' apply And.intro) <;> ((try simp only [World.cell?_drew]); first | (with_reducible assumption) | (refine hb.keep ?_; (try simp only [World.cell?_drew]); first | (with_reducible assumption) | (simp [*, go_sem]; done)) | (simp [*, go_sem]; done)))) (first | (go_at_call 19; with_reducible refine (hx _).mono ?_; rintro e w1 ⟨rfl, hb⟩; obtain ⟨hc, hf⟩ := cellsN hb (w.heap.size + 2) (by first | exact hz | omega | (simp; done) | (simp; omega)); have hz : w.heap.size + 2 ≤ w1.heap.size := (by have h := hb.size; (try simp at h); omega); have hz0 : w.heap.size < w1.heap.size := (by omega); have hz1 : w.heap.size + 1 < w1.heap.size := (by omega)) | (go_at_call 19; with_reducible refine (hy _).mono ?_; rintro e w1 ⟨rfl, hb⟩; obtain ⟨hc, hf⟩ := cellsN hb (w.heap.size + 2) (by first | exact hz | omega | (simp; done) | (simp; omega)); have hz : w.heap.size + 2 ≤ w1.heap.size := (by have h := hb.size; (try simp at h); omega); have hz0 : w.heap.size < w1.heap.size := (by omega); have hz1 : w.heap.size + 1 < w1.heap.size := (by omega)) | (go_at_call 20; with_reducible refine (hg _).mono ?_; rintro e w1 ⟨rfl, hb⟩; obtain ⟨hc, hf⟩ := cellsN hb (w.heap.size + 2) (by first | exact hz | omega | (simp; done) | (simp; omega)); have hz : w.heap.size + 2 ≤ w1.heap.size := (by have h := hb.size; (try simp at h); omega); have hz0 : w.heap.size < w1.heap.size := (by omega); have hz1 : w.heap.size + 1 < w1.heap.size := (by omega)) | (go_at_call 18; with_reducible refine (hs _).mono ?_; rintro e w1 ⟨rfl, hb⟩; obtain ⟨hc, hf⟩ := cellsN hb (w.heap.size + 2) (by first | exact hz | omega | (simp; done) | (simp; omega)); have hz : w.heap.size + 2 ≤ w1.heap.size := (by have h := hb.size; (try simp at h); omega); have hz0 : w.heap.size < w1.heap.size := (by omega); have hz1 : w.heap.size + 1 < w1.heap.size := (by omega)) | (go_at_call 21; with_reducible refine (hq _).mono ?_; rintro e w1 ⟨rfl, hb⟩; obtain ⟨hc, hf⟩ := cellsN hb (w.heap.size + 2) (by first | exact hz | omega | (simp; done) | (simp; omega)); have hz : w.heap.size + 2 ≤ w1.heap.size := (by have h := hb.size; (try simp at h); omega); have hz0 : w.heap.size < w1.heap.size := (by omega); have hz1 : w.heap.size + 1 < w1.heap.size := (by omega)))
      all_goals
        go_wp2
        go_ret2
        exact ⟨by have e := HE.out; simp [e], (by (repeat (first | with_reducible refine Gr.setCell ?_ (by simp <;> omega) _ | with_reducible refine Gr.drew ?_ | with_reducible refine Gr.drewN ?_ _ | with_reducible refine Gr.alloc ?_ _)); first | (with_reducible exact Gr.refl _) | (with_reducible assumption) | exact (by repeat (first | (with_reducible exact Gr.refl _) | (with_reducible assumption) | (with_reducible refine Gr.alloc ?_ _) | (with_reducible refine Gr.drew ?_) | (with_reducible refine Gr.drewN ?_ _) | (with_reducible refine Gr.setCell ?_ (by simp <;> omega) _) | (with_reducible refine Gr.trans ?_ (by with_reducible assumption)) | exact Gr.refl _ | assumption | refine Gr.alloc ?_ _ | refine Gr.drew ?_ | refine Gr.drewN ?_ _ | refine Gr.setCell ?_ (by simp <;> omega) _ | refine Gr.trans ?_ (by assumption))))⟩
  · have hb0 : (cpErr n s m r != 0) = true := by simp [he]
    have HE := Lib.hid he
    clear he
    go_enter Tryd.func6, Tryd.ntmps6
    go_wp2
    go_region_held3 (fun w' => w'.cell? ⟨w.heap.size, 0, none⟩ = some (.int .i64 n) ∧ w'.cell? ⟨w.heap.size, 1, none⟩ = some (.int .i64 s) ∧ w'.cell? ⟨w.heap.size + 1, 0, none⟩ = some (.int .i64 m) ∧ w'.cell? ⟨w.heap.size + 1, 1, none⟩ = some (.int .i64 r)) (first | (go_keep; done) | ((try go_split_ands); (repeat' apply And.intro) <;> ((try simp only [World.cell?_drew]); first | (with_reducible assumption) | (refine hb.keep ?_; (try simp only [World.cell?_drew]); first | (with_reducible assumption) | (simp [*, go_sem]; done)) | (simp [*, go_sem]; done)))) (first | (go_at_call 9; with_reducible refine (CheckNumber_any n s _).mono ?_; rintro e w1 ⟨rfl, hb⟩; obtain ⟨hc, hf⟩ := cellsN hb (w.heap.size + 2) (by first | exact hz | omega | (simp; done) | (simp; omega)); have hz : w.heap.size + 2 ≤ w1.heap.size := (by have h := hb.size; (try simp at h); omega); have hz0 : w.heap.size < w1.heap.size := (by omega); have hz1 : w.heap.size + 1 < w1.heap.size := (by omega)) | (go_at_call 9; with_reducible refine (CheckNumber_any m r _).mono ?_; rintro e w1 ⟨rfl, hb⟩; obtain ⟨hc, hf⟩ := cellsN hb (w.heap.size + 2) (by first | exact hz | omega | (simp; done) | (simp; omega)); have hz : w.heap.size + 2 ≤ w1.heap.size := (by have h := hb.size; (try simp at h); omega); have hz0 : w.heap.size < w1.heap.size := (by omega); have hz1 : w.heap.size + 1 < w1.heap.size := (by omega)) | (go_at_call 17; refine (hfe _ _ _ (by first | (simp; done) | (simp [go_sem]; done)) (by first | (simp; done) | (simp [go_sem]; done))).mono ?_; rintro e w1 ⟨rfl, rfl⟩))
    all_goals
      go_wp2
      go_ret2
      exact ⟨by simp [cpR, HE.out], (by (repeat (first | with_reducible refine Gr.setCell ?_ (by simp <;> omega) _ | with_reducible refine Gr.drew ?_ | with_reducible refine Gr.drewN ?_ _ | with_reducible refine Gr.alloc ?_ _)); first | (with_reducible exact Gr.refl _) | (with_reducible assumption) | exact (by repeat (first | (with_reducible exact Gr.refl _) | (with_reducible assumption) | (with_reducible refine Gr.alloc ?_ _) | (with_reducible refine Gr.drew ?_) | (with_reducible refine Gr.drewN ?_ _) | (with_reducible refine Gr.setCell ?_ (by simp <;> omega) _) | (with_reducible refine Gr.trans ?_ (by with_reducible assumption)) | exact Gr.refl _ | assumption | refine Gr.alloc ?_ _ | refine Gr.drew ?_ | refine Gr.drewN ?_ _ | refine Gr.setCell ?_ (by simp <;> omega) _ | refine Gr.trans ?_ (by assumption))))⟩
end Go.Proofs.YtnaflaokhldfnaaDoor
