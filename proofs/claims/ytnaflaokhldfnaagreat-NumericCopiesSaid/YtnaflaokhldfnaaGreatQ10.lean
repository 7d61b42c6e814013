/- Texts of the walks, merged. -/
import Derived.Test.YtnaflaokhldfnaaGreatQ09
namespace Go.Proofs.YtnaflaokhldfnaaGreat
set_option linter.unusedSimpArgs false
set_option linter.unusedVariables false
open Go.RowKit

def cvErr (n s k l sc : Int) : Int := first0 [numErr n s, typeErr k l sc, pick (!isNum k) 17]
/-- A number's amount in a type's last digits, rounded. -/
def cvZ (n s sc : Int) (half : Bool) : Nat := rq (n.natAbs * 10 ^ (sc - s).toNat) (1 * 10 ^ (s - sc).toNat) half
def cvN (n s k l sc : Int) (half : Bool) : Int := if cvErr n s k l sc ≠ 0 then 0 else pN (decide (n < 0)) (cvZ n s sc half) l
def cvE (n s k l sc : Int) (half : Bool) : Int := if cvErr n s k l sc ≠ 0 then cvErr n s k l sc else pE (cvZ n s sc half) l

theorem cvErr_ok {n s k l sc : Int} (h : cvErr n s k l sc = 0) : -999999999999999 ≤ n ∧ n ≤ 999999999999999 ∧ 0 ≤ s ∧ s ≤ 15 ∧ 1 ≤ l ∧ l ≤ 15 ∧ 0 ≤ sc ∧ sc ≤ l ∧ 1 ≤ k ∧ k ≤ 3 := by
  unfold cvErr at h
  simp only [first0] at h
  have h1 : numErr n s = 0 := by by_cases e : numErr n s = 0; exact e; simp [e] at h
  have h2 : typeErr k l sc = 0 := by by_cases e : typeErr k l sc = 0; exact e; simp [e, h1] at h
  have h3 : isNum k = true := by by_cases e : isNum k = true; exact e; simp [e, h1, h2, pick] at h
  have hk : 1 ≤ k ∧ k ≤ 3 := by simp [isNum] at h3; omega
  have hr : rightLen k l = true := by by_cases e : rightLen k l = true; exact e; exfalso; simp only [typeErr, e] at h2; split at h2 <;> simp at h2
  have hl : 1 ≤ l ∧ l ≤ 15 := by unfold rightLen at hr; by_cases k3 : k = 3 <;> simp [k3, show k ≠ 0 by omega, show k ≠ 4 by omega] at hr <;> omega
  have hs : 0 ≤ sc ∧ sc ≤ l := by unfold typeErr at h2; rw [if_neg (by omega)] at h2; simp only [hr] at h2; unfold mostScale at h2; rw [if_pos h3] at h2; simp at h2; omega
  unfold numErr at h1
  split at h1 <;> omega

theorem pow10_le (n : Nat) (h : n ≤ 15) : 1 ≤ 10 ^ n ∧ 10 ^ n ≤ 1000000000000000 := by
  have h1 : 10 ^ n ≤ 10 ^ 15 := Nat.pow_le_pow_right (by omega) h
  exact ⟨Nat.pow_pos (by omega), h1⟩

theorem put_cv (n s k l sc : Int) (half : Bool) (h : cvErr n s k l sc = 0) (w : World) :
    Calls Tryz.prog 35 #[(.agg #[.bool (decide (n < 0)), .int .u64 ((wd (n.natAbs) 0 : Nat) : Int), .int .u64 ((wd (n.natAbs) 1 : Nat) : Int), .int .u64 ((wd (n.natAbs) 2 : Nat) : Int), .int .u64 ((wd (1) 0 : Nat) : Int), .int .u64 ((wd (1) 1 : Nat) : Int), .int .u64 ((wd (1) 2 : Nat) : Int), .int .i64 (s)]), .agg #[.int .i64 k, .int .i64 l, .int .i64 sc], .bool half] w fun e w' => e = .returned (.tuple #[.agg #[.int .i64 (pN (decide (n < 0)) (cvZ n s sc half) l), .string ⟨#[]⟩], .int .i64 (pE (cvZ n s sc half) l)]) ∧ Gr w w' := by
  obtain ⟨n0, n1, s0, s1, l0, l1, c0, c1, k0, k1⟩ := cvErr_ok h
  have pa := pow10_le (sc - s).toNat (by omega)
  have pc := pow10_le (s - sc).toNat (by omega)
  have hnum : n.natAbs * 10 ^ (sc - s).toNat ≤ 999999999999999 * 1000000000000000 := Nat.mul_le_mul (by omega) pa.2
  have hden : 1 * 10 ^ (s - sc).toNat ≤ 1000000000000000 := by omega
  have hd0 : 0 < 1 * 10 ^ (s - sc).toNat := by omega
  exact put_any _ half n.natAbs 1 s k l sc (sc - s).toNat (s - sc).toNat _ _ (by omega) (by omega) rfl rfl (by omega) (by omega) (by omega) (by omega) (by omega) (by unfold Sm; omega) hd0 (by unfold Sm; omega)
    (divided_small _ _ (by unfold Sm; omega) hd0 (by omega)) w

set_option maxHeartbeats 2000000 in
set_option maxRecDepth 100000 in
theorem Converted_any (n s k l sc : Int) (half : Bool) (w : World) :
    Calls Tryz.prog 14 #[.agg #[.int .i64 n, .int .i64 s], .agg #[.int .i64 k, .int .i64 l, .int .i64 sc], .bool half] w fun e w' => e = .returned (.tuple #[.agg #[.int .i64 (cvN n s k l sc half), .string ⟨#[]⟩], .int .i64 (cvE n s k l sc half)]) ∧ Gr w w' := by
  have hfe : ∀ b cap W, W.cell? ⟨b, 0, none⟩ = some (.int .i64 (numErr n s)) → W.cell? ⟨b, 1, none⟩ = some (.int .i64 (typeErr k l sc)) → W.cell? ⟨b, 2, none⟩ = some (.int .i64 (pick (!isNum k) 17)) → Calls Tryz.prog 10 #[.slice (some ⟨b, 0, none⟩) 3 cap] W fun e w' => e = .returned (.int .i64 (cvErr n s k l sc)) ∧ W = w' := fun b cap W h0 h1 h2 => firstError3 _ _ _ b cap W h0 h1 h2
  by_cases he : cvErr n s k l sc = 0
  · have hp := put_cv n s k l sc half he
    have hb0 : (cvErr n s k l sc != 0) = false := by simp [he]
    have hx := exactOf_any n s (by have := cvErr_ok he; omega) (by have := cvErr_ok he; omega)
    have HE := Lib.hid he
    obtain ⟨N, hN⟩ : ∃ N, pN (decide (n < 0)) (cvZ n s sc half) l = N := ⟨_, rfl⟩
    obtain ⟨E, hE⟩ : ∃ E, pE (cvZ n s sc half) l = E := ⟨_, rfl⟩
    rw [hN, hE] at hp
    have HN := Lib.hid hN
    have HEE := Lib.hid hE
    clear he hN hE
    go_enter Tryz.func14, Tryz.ntmps14
    go_wp2
    have HV := Lib.hid (Bx.new ((w.alloc (.cells #[.int .i64 n, .int .i64 s] 48)).alloc (.cells #[.int .i64 k, .int .i64 l, .int .i64 sc] 23)) 38 #[.int .i64 0, .string ⟨#[]⟩])
    simp only [World.size_alloc] at HV
    go_region_held3 (fun w' => w'.cell? ⟨w.heap.size, 0, none⟩ = some (.int .i64 n) ∧ w'.cell? ⟨w.heap.size, 1, none⟩ = some (.int .i64 s) ∧ w'.cell? ⟨w.heap.size + 1, 0, none⟩ = some (.int .i64 k) ∧ w'.cell? ⟨w.heap.size + 1, 1, none⟩ = some (.int .i64 l) ∧ w'.cell? ⟨w.heap.size + 1, 2, none⟩ = some (.int .i64 sc)) (first | (go_keep; done) | ((try go_split_ands); (repeat' apply And.intro) <;> ((try simp only [World.cell?_drew]); first | (with_reducible assumption) | (refine hb.keep ?_; (try simp only [World.cell?_drew]); first | (with_reducible assumption) | (simp [*, go_sem]; done)) | (simp [*, go_sem]; done)))) (first | (go_at_call 33; with_reducible refine (CheckNumber_any _ _ _).mono ?_; rintro e w1 ⟨rfl, hb⟩; obtain ⟨hc, hf⟩ := cellsN hb (w.heap.size + 3) (by first | exact hz | omega | (simp; done) | (simp; omega)); have hz : w.heap.size + 3 ≤ w1.heap.size := (by have h := hb.size; (try simp at h); omega); have hz0 : w.heap.size < w1.heap.size := (by omega); have hz1 : w.heap.size + 1 < w1.heap.size := (by omega); have hbA := hb) | (go_at_call 11; with_reducible refine (CheckType_any _ _ _ _).mono ?_; rintro e w1 ⟨rfl, hb⟩; obtain ⟨hc, hf⟩ := cellsN hb (w.heap.size + 3) (by first | exact hz | omega | (simp; done) | (simp; omega)); have hz : w.heap.size + 3 ≤ w1.heap.size := (by have h := hb.size; (try simp at h); omega); have hz0 : w.heap.size < w1.heap.size := (by omega); have hz1 : w.heap.size + 1 < w1.heap.size := (by omega); have hbB := hb) | (go_at_call 31; go_loud (refine (checkNumeric_one k l sc _ _ _ ?_ ?_ ?_).mono ?_; (focus ((try with_reducible refine hbB.keep ?_); (try with_reducible refine hbA.keep ?_); simp [go_sem])); (focus ((try with_reducible refine hbB.keep ?_); (try with_reducible refine hbA.keep ?_); simp [go_sem])); (focus ((try with_reducible refine hbB.keep ?_); (try with_reducible refine hbA.keep ?_); simp [go_sem])); rintro e w1 ⟨rfl, hb⟩; have hz : w.heap.size + 3 ≤ w1.heap.size := (by have h := hb.size; (try simp at h); omega); have hz0 : w.heap.size < w1.heap.size := (by omega); have hz1 : w.heap.size + 1 < w1.heap.size := (by omega))) | (go_at_call 10; refine (hfe _ _ _ ?_ ?_ ?_).mono ?_; (focus ((try with_reducible refine hbB.keep ?_); (try with_reducible refine hbA.keep ?_); simp [go_sem])); (focus ((try with_reducible refine hbB.keep ?_); (try with_reducible refine hbA.keep ?_); simp [go_sem])); (focus ((try with_reducible refine hbB.keep ?_); (try with_reducible refine hbA.keep ?_); simp [go_sem])); rintro e w1 ⟨rfl, rfl⟩))
    all_goals
      rename_i hH
      have HVW := Lib.hid (HV.out.gr ((by (repeat (first | with_reducible refine Gr.setCell ?_ (by simp <;> omega) _ | with_reducible refine Gr.drew ?_ | with_reducible refine Gr.drewN ?_ _ | with_reducible refine Gr.alloc ?_ _)); first | (with_reducible exact Gr.refl _) | (with_reducible assumption) | exact (by repeat (first | (with_reducible exact Gr.refl _) | (with_reducible assumption) | (with_reducible refine Gr.alloc ?_ _) | (with_reducible refine Gr.drew ?_) | (with_reducible refine Gr.drewN ?_ _) | (with_reducible refine Gr.setCell ?_ (by simp <;> omega) _) | (with_reducible refine Gr.trans ?_ (by with_reducible assumption)) | exact Gr.refl _ | assumption | refine Gr.alloc ?_ _ | refine Gr.drew ?_ | refine Gr.drewN ?_ _ | refine Gr.setCell ?_ (by simp <;> omega) _ | refine Gr.trans ?_ (by assumption)))) : Gr _ (w1.alloc (.cells #[.int .i64 (numErr n s), .int .i64 (typeErr k l sc), .int .i64 (pick (!isNum k) 17)] 27))))
      have HGW := Lib.hid ((by (repeat (first | with_reducible refine Gr.setCell ?_ (by simp <;> omega) _ | with_reducible refine Gr.drew ?_ | with_reducible refine Gr.drewN ?_ _ | with_reducible refine Gr.alloc ?_ _)); first | (with_reducible exact Gr.refl _) | (with_reducible assumption) | exact (by repeat (first | (with_reducible exact Gr.refl _) | (with_reducible assumption) | (with_reducible refine Gr.alloc ?_ _) | (with_reducible refine Gr.drew ?_) | (with_reducible refine Gr.drewN ?_ _) | (with_reducible refine Gr.setCell ?_ (by simp <;> omega) _) | (with_reducible refine Gr.trans ?_ (by with_reducible assumption)) | exact Gr.refl _ | assumption | refine Gr.alloc ?_ _ | refine Gr.drew ?_ | refine Gr.drewN ?_ _ | refine Gr.setCell ?_ (by simp <;> omega) _ | refine Gr.trans ?_ (by assumption)))) : Gr w (w1.alloc (.cells #[.int .i64 (numErr n s), .int .i64 (typeErr k l sc), .int .i64 (pick (!isNum k) 17)] 27)))
      obtain ⟨c0, c1, c2, c3, c4⟩ := hH
      clear hbA hbB HV
      generalize w1.alloc (.cells #[.int .i64 (numErr n s), .int .i64 (typeErr k l sc), .int .i64 (pick (!isNum k) 17)] 27) = W5 at *
      have hzz := HVW.out.lt
      have hz : w.heap.size + 3 ≤ W5.heap.size := by omega
      have v0 := HVW.out.cell 0 rfl
      have v1 := HVW.out.cell 1 rfl
      have f0 := HVW.out.frozen 0
      have f1 := HVW.out.frozen 1
      clear hzz
      go_wp2
      go_region_held3 (fun w' => w'.cell? ⟨w.heap.size, 0, none⟩ = some (.int .i64 n) ∧ w'.cell? ⟨w.heap.size, 1, none⟩ = some (.int .i64 s) ∧ w'.cell? ⟨w.heap.size + 1, 0, none⟩ = some (.int .i64 k) ∧ w'.cell? ⟨w.heap.size + 1, 1, none⟩ = some (.int .i64 l) ∧ w'.cell? ⟨w.heap.size + 1, 2, none⟩ = some (.int .i64 sc)) (first | (go_keep; done) | ((try go_split_ands); (repeat' apply And.intro) <;> ((try simp only [World.cell?_drew]); first | (with_reducible assumption) | (refine hb.keep ?_; (try simp only [World.cell?_drew]); first | (with_reducible assumption) | (simp [*, go_sem]; done)) | (simp [*, go_sem]; done)))) (first | (go_at_call 34; with_reducible refine (hx _).mono ?_; rintro e w1 ⟨rfl, hb⟩; obtain ⟨hc, hf⟩ := cellsN hb (w.heap.size + 3) (by first | exact hz | omega | (simp; done) | (simp; omega)); have hz : w.heap.size + 3 ≤ w1.heap.size := (by have h := hb.size; (try simp at h); omega); have hz0 : w.heap.size < w1.heap.size := (by omega); have hz1 : w.heap.size + 1 < w1.heap.size := (by omega)) | (go_at_call 35; with_reducible refine (hp _).mono ?_; rintro e w1 ⟨rfl, hb⟩; obtain ⟨hc, hf⟩ := cellsN hb (w.heap.size + 3) (by first | exact hz | omega | (simp; done) | (simp; omega)); have hz : w.heap.size + 3 ≤ w1.heap.size := (by have h := hb.size; (try simp at h); omega); have hz0 : w.heap.size < w1.heap.size := (by omega); have hz1 : w.heap.size + 1 < w1.heap.size := (by omega)))
      all_goals
        go_wp2
        refine bodyPost_ret (v := .tuple #[.agg #[.int .i64 N, .string ⟨#[]⟩], .int .i64 E]) (by simp [results, Tryz.results14, go_sem, *]) rfl ⟨by simp [cvN, cvE, HE.out, HN.out, HEE.out], ?_⟩
        have HG := HGW.out
        exact (by (repeat (first | with_reducible refine Gr.setCell ?_ (by simp <;> omega) _ | with_reducible refine Gr.drew ?_ | with_reducible refine Gr.drewN ?_ _ | with_reducible refine Gr.alloc ?_ _)); first | (with_reducible exact Gr.refl _) | (with_reducible assumption) | exact (by repeat (first | (with_reducible exact Gr.refl _) | (with_reducible assumption) | (with_reducible refine Gr.alloc ?_ _) | (with_reducible refine Gr.drew ?_) | (with_reducible refine Gr.drewN ?_ _) | (with_reducible refine Gr.setCell ?_ (by simp <;> omega) _) | (with_reducible refine Gr.trans ?_ (by with_reducible assumption)) | exact Gr.refl _ | assumption | refine Gr.alloc ?_ _ | refine Gr.drew ?_ | refine Gr.drewN ?_ _ | refine Gr.setCell ?_ (by simp <;> omega) _ | refine Gr.trans ?_ (by assumption))))
  · have hb0 : (cvErr n s k l sc != 0) = true := by simp [he]
    have HE := Lib.hid he
    clear he
    go_enter Tryz.func14, Tryz.ntmps14
    go_wp2
    have HV := Lib.hid (Bx.new ((w.alloc (.cells #[.int .i64 n, .int .i64 s] 48)).alloc (.cells #[.int .i64 k, .int .i64 l, .int .i64 sc] 23)) 38 #[.int .i64 0, .string ⟨#[]⟩])
    simp only [World.size_alloc] at HV
    go_region_held3 (fun w' => w'.cell? ⟨w.heap.size, 0, none⟩ = some (.int .i64 n) ∧ w'.cell? ⟨w.heap.size, 1, none⟩ = some (.int .i64 s) ∧ w'.cell? ⟨w.heap.size + 1, 0, none⟩ = some (.int .i64 k) ∧ w'.cell? ⟨w.heap.size + 1, 1, none⟩ = some (.int .i64 l) ∧ w'.cell? ⟨w.heap.size + 1, 2, none⟩ = some (.int .i64 sc)) (first | (go_keep; done) | ((try go_split_ands); (repeat' apply And.intro) <;> ((try simp only [World.cell?_drew]); first | (with_reducible assumption) | (refine hb.keep ?_; (try simp only [World.cell?_drew]); first | (with_reducible assumption) | (simp [*, go_sem]; done)) | (simp [*, go_sem]; done)))) (first | (go_at_call 33; with_reducible refine (CheckNumber_any _ _ _).mono ?_; rintro e w1 ⟨rfl, hb⟩; obtain ⟨hc, hf⟩ := cellsN hb (w.heap.size + 3) (by first | exact hz | omega | (simp; done) | (simp; omega)); have hz : w.heap.size + 3 ≤ w1.heap.size := (by have h := hb.size; (try simp at h); omega); have hz0 : w.heap.size < w1.heap.size := (by omega); have hz1 : w.heap.size + 1 < w1.heap.size := (by omega); have hbA := hb) | (go_at_call 11; with_reducible refine (CheckType_any _ _ _ _).mono ?_; rintro e w1 ⟨rfl, hb⟩; obtain ⟨hc, hf⟩ := cellsN hb (w.heap.size + 3) (by first | exact hz | omega | (simp; done) | (simp; omega)); have hz : w.heap.size + 3 ≤ w1.heap.size := (by have h := hb.size; (try simp at h); omega); have hz0 : w.heap.size < w1.heap.size := (by omega); have hz1 : w.heap.size + 1 < w1.heap.size := (by omega); have hbB := hb) | (go_at_call 31; go_loud (refine (checkNumeric_one k l sc _ _ _ ?_ ?_ ?_).mono ?_; (focus ((try with_reducible refine hbB.keep ?_); (try with_reducible refine hbA.keep ?_); simp [go_sem])); (focus ((try with_reducible refine hbB.keep ?_); (try with_reducible refine hbA.keep ?_); simp [go_sem])); (focus ((try with_reducible refine hbB.keep ?_); (try with_reducible refine hbA.keep ?_); simp [go_sem])); rintro e w1 ⟨rfl, hb⟩; have hz : w.heap.size + 3 ≤ w1.heap.size := (by have h := hb.size; (try simp at h); omega); have hz0 : w.heap.size < w1.heap.size := (by omega); have hz1 : w.heap.size + 1 < w1.heap.size := (by omega))) | (go_at_call 10; refine (hfe _ _ _ ?_ ?_ ?_).mono ?_; (focus ((try with_reducible refine hbB.keep ?_); (try with_reducible refine hbA.keep ?_); simp [go_sem])); (focus ((try with_reducible refine hbB.keep ?_); (try with_reducible refine hbA.keep ?_); simp [go_sem])); (focus ((try with_reducible refine hbB.keep ?_); (try with_reducible refine hbA.keep ?_); simp [go_sem])); rintro e w1 ⟨rfl, rfl⟩))
    all_goals
      rename_i hH
      have HVW := Lib.hid (HV.out.gr ((by (repeat (first | with_reducible refine Gr.setCell ?_ (by simp <;> omega) _ | with_reducible refine Gr.drew ?_ | with_reducible refine Gr.drewN ?_ _ | with_reducible refine Gr.alloc ?_ _)); first | (with_reducible exact Gr.refl _) | (with_reducible assumption) | exact (by repeat (first | (with_reducible exact Gr.refl _) | (with_reducible assumption) | (with_reducible refine Gr.alloc ?_ _) | (with_reducible refine Gr.drew ?_) | (with_reducible refine Gr.drewN ?_ _) | (with_reducible refine Gr.setCell ?_ (by simp <;> omega) _) | (with_reducible refine Gr.trans ?_ (by with_reducible assumption)) | exact Gr.refl _ | assumption | refine Gr.alloc ?_ _ | refine Gr.drew ?_ | refine Gr.drewN ?_ _ | refine Gr.setCell ?_ (by simp <;> omega) _ | refine Gr.trans ?_ (by assumption)))) : Gr _ (w1.alloc (.cells #[.int .i64 (numErr n s), .int .i64 (typeErr k l sc), .int .i64 (pick (!isNum k) 17)] 27))))
      have HGW := Lib.hid ((by (repeat (first | with_reducible refine Gr.setCell ?_ (by simp <;> omega) _ | with_reducible refine Gr.drew ?_ | with_reducible refine Gr.drewN ?_ _ | with_reducible refine Gr.alloc ?_ _)); first | (with_reducible exact Gr.refl _) | (with_reducible assumption) | exact (by repeat (first | (with_reducible exact Gr.refl _) | (with_reducible assumption) | (with_reducible refine Gr.alloc ?_ _) | (with_reducible refine Gr.drew ?_) | (with_reducible refine Gr.drewN ?_ _) | (with_reducible refine Gr.setCell ?_ (by simp <;> omega) _) | (with_reducible refine Gr.trans ?_ (by with_reducible assumption)) | exact Gr.refl _ | assumption | refine Gr.alloc ?_ _ | refine Gr.drew ?_ | refine Gr.drewN ?_ _ | refine Gr.setCell ?_ (by simp <;> omega) _ | refine Gr.trans ?_ (by assumption)))) : Gr w (w1.alloc (.cells #[.int .i64 (numErr n s), .int .i64 (typeErr k l sc), .int .i64 (pick (!isNum k) 17)] 27)))
      obtain ⟨c0, c1, c2, c3, c4⟩ := hH
      clear hbA hbB HV
      generalize w1.alloc (.cells #[.int .i64 (numErr n s), .int .i64 (typeErr k l sc), .int .i64 (pick (!isNum k) 17)] 27) = W5 at *
      have hzz := HVW.out.lt
      have hz : w.heap.size + 3 ≤ W5.heap.size := by omega
      have v0 := HVW.out.cell 0 rfl
      have v1 := HVW.out.cell 1 rfl
      have f0 := HVW.out.frozen 0
      have f1 := HVW.out.frozen 1
      clear hzz
      go_wp2
      refine bodyPost_ret (v := .tuple #[.agg #[.int .i64 0, .string ⟨#[]⟩], .int .i64 (cvErr n s k l sc)]) (by simp [results, Tryz.results14, go_sem, *]) rfl ⟨by simp [cvN, cvE, HE.out], ?_⟩
      have HG := HGW.out
      exact (by (repeat (first | with_reducible refine Gr.setCell ?_ (by simp <;> omega) _ | with_reducible refine Gr.drew ?_ | with_reducible refine Gr.drewN ?_ _ | with_reducible refine Gr.alloc ?_ _)); first | (with_reducible exact Gr.refl _) | (with_reducible assumption) | exact (by repeat (first | (with_reducible exact Gr.refl _) | (with_reducible assumption) | (with_reducible refine Gr.alloc ?_ _) | (with_reducible refine Gr.drew ?_) | (with_reducible refine Gr.drewN ?_ _) | (with_reducible refine Gr.setCell ?_ (by simp <;> omega) _) | (with_reducible refine Gr.trans ?_ (by with_reducible assumption)) | exact Gr.refl _ | assumption | refine Gr.alloc ?_ _ | refine Gr.drew ?_ | refine Gr.drewN ?_ _ | refine Gr.setCell ?_ (by simp <;> omega) _ | refine Gr.trans ?_ (by assumption))))
end Go.Proofs.YtnaflaokhldfnaaGreat
namespace Go.Proofs.YtnaflaokhldfnaaGreat
set_option linter.unusedSimpArgs false
set_option linter.unusedVariables false
open Go.RowKit

/-- Does an operation divide by zero? -/
def dvB (op m : Int) : Bool := (decide (op = 3) || decide (op = 4)) && decide (m = 0)
theorem first0_split {x : Int} {l : List Int} (h : first0 (x :: l) = 0) : x = 0 ∧ first0 l = 0 := by
  unfold first0 at h
  by_cases e : x = 0
  · rw [if_pos e] at h; exact ⟨e, h⟩
  · rw [if_neg e] at h; exact absurd h e
/-- The error of a calculation. -/
def caErr (op n s m t k l sc : Int) : Int := first0 [pick (decide (op < 0 ∨ 5 ≤ op)) 4, numErr n s, numErr m t, typeErr k l sc, pick (!isNum k) 17, pick (dvB op m) 20]
theorem caErr_ok {op n s m t k l sc : Int} (h : caErr op n s m t k l sc = 0) : (0 ≤ op ∧ op ≤ 4) ∧ cvErr n s k l sc = 0 ∧ numErr m t = 0 ∧ dvB op m = false := by
  unfold caErr at h
  obtain ⟨h1, h⟩ := first0_split h
  obtain ⟨h2, h⟩ := first0_split h
  obtain ⟨h3, h⟩ := first0_split h
  obtain ⟨h4, h⟩ := first0_split h
  obtain ⟨h5, h⟩ := first0_split h
  obtain ⟨h6, -⟩ := first0_split h
  refine ⟨?_, ?_, h3, ?_⟩
  · unfold pick at h1
    by_cases e : op < 0 ∨ 5 ≤ op
    · rw [decide_eq_true e] at h1; simp at h1
    · omega
  · unfold cvErr; simp only [first0]; rw [if_pos h2, if_pos h4, h5]; rfl
  · rcases hb : dvB op m with _ | _
    · rfl
    · rw [hb] at h6; simp [pick] at h6
/-- The error of the checks, in its variable. -/
def CcC (a : World) (E : Int) (s12 : Value) (W : World) : Prop := s12 = .int .i64 E ∧ Gr a W

end Go.Proofs.YtnaflaokhldfnaaGreat
