/- Texts of the walks, merged. -/
import Derived.Test.YtnaflaokhldfnaaDoorQ08
import Derived.Test.YtnaflaokhldfnaaDoorQ13
import Derived.Test.YtnaflaokhldfnaaDoorQ17
namespace Go.Proofs.YtnaflaokhldfnaaDoor
set_option linter.unusedSimpArgs false
set_option linter.unusedVariables false
open Go.RowKit

set_option maxHeartbeats 1000000 in
theorem FormatNumber_bad (n s : Int) (hn : numErr n s ≠ 0) (w : World) :
    Calls Tryd.prog 7 #[.agg #[.int .i64 n, .int .i64 s]] w fun e w' => e = .returned (.tuple #[.string ⟨#[]⟩, .int .i64 (numErr n s)]) ∧ Gr w w' := by
  have hb0 : (numErr n s != 0) = true := by simp [hn]
  have hC := CheckNumber_any n s
  clear hn
  generalize numErr n s = E at *
  go_enter Tryd.func7, Tryd.ntmps7
  go_wp2_with ((go_at_call 9; (with_reducible refine (hC _).mono ?_); rintro e w1 ⟨rfl, hb⟩; obtain ⟨hc, hf⟩ := gcells hb (w.heap.size + 1) (by first | exact hz | omega | (simp; done) | (simp; omega)); have hz : w.heap.size + 1 ≤ w1.heap.size := (by have h := hb.size; (try simp at h); omega); have hz0 : w.heap.size < w1.heap.size := (by omega)))
  go_ret2
  exact ⟨rfl, (by repeat (first | (with_reducible exact Gr.refl _) | (with_reducible assumption) | (with_reducible refine Gr.alloc ?_ _) | (with_reducible refine Gr.drew ?_) | (with_reducible refine Gr.drewN ?_ _) | (with_reducible refine Gr.setCell ?_ (by simp <;> omega) _) | (with_reducible refine Gr.trans ?_ (by with_reducible assumption)) | exact Gr.refl _ | assumption | refine Gr.alloc ?_ _ | refine Gr.drew ?_ | refine Gr.drewN ?_ _ | refine Gr.setCell ?_ (by simp <;> omega) _ | refine Gr.trans ?_ (by assumption)))⟩

set_option maxHeartbeats 4000000 in
set_option maxRecDepth 100000 in
theorem FormatNumber_ok (n sI : Int) (s : Nat) (hsI : sI.toNat = s) (hn : numErr n sI = 0) (w : World) (hT : TabW w) :
    Calls Tryd.prog 7 #[.agg #[.int .i64 n, .int .i64 sI]] w fun e w' => e = .returned (.tuple #[.string (fmtS n s), .int .i64 0]) ∧ Gr w w' := by
  obtain ⟨n0, n1, s0, s1⟩ := numErr_ok hn
  have hC := CheckNumber_any n sI
  rw [hn] at hC
  have HT := Lib.hid hT
  have hA := fun w => amountIn_any n (by omega) (by omega) w
  obtain ⟨u, hu⟩ : ∃ u, absI n = u := ⟨_, rfl⟩
  have hu2 : 0 ≤ u ∧ u ≤ 999999999999999 ∧ u.toNat = n.natAbs := by rw [← hu]; unfold absI; split <;> omega
  rw [hu] at hA
  have hI := fun w => Itoa_any u hu2.1 (by omega) w
  rw [hu2.2.2] at hI
  have hd := (dcS_len n.natAbs 15 (by omega) (by omega)).2
  have hzs := fzS_size n.natAbs s
  obtain ⟨z1, z2, -, -, -, -⟩ := fzS_right n.natAbs s (by omega) (by omega)
  have c1 := cutT_j (fzS n.natAbs s) (((fzS n.natAbs s).size : Int) - sI) ((fzS n.natAbs s).size - s) (by omega) (by omega)
  have c2 := cutT_i (fzS n.natAbs s) (((fzS n.natAbs s).size : Int) - sI) ((fzS n.natAbs s).size - s) (by omega) (by omega)
  have e1 : ((fzS n.natAbs s).extract 0 ((fzS n.natAbs s).size - s)).size = (fzS n.natAbs s).size - s := by rw [ByteArray.size_extract]; omega
  have e2 : ((fzS n.natAbs s).extract ((fzS n.natAbs s).size - s) (fzS n.natAbs s).size).size = s := by rw [ByteArray.size_extract]; omega
  have hdot : (⟨#[46]⟩ : ByteArray).size = 1 := rfl
  have hmin : (⟨#[45]⟩ : ByteArray).size = 1 := rfl
  have hps : (fpS n.natAbs s).size ≤ 20 := by
    unfold fpS
    split
    · rw [ByteArray.size_append, ByteArray.size_append, e1, e2, hdot]; omega
    · rw [e1]; omega
  have a1 := add_ssT (⟨#[46]⟩ : ByteArray) ((fzS n.natAbs s).extract ((fzS n.natAbs s).size - s) (fzS n.natAbs s).size) (by omega)
  have a2 := add_ssT ((fzS n.natAbs s).extract 0 ((fzS n.natAbs s).size - s)) ((⟨#[46]⟩ : ByteArray) ++ (fzS n.natAbs s).extract ((fzS n.natAbs s).size - s) (fzS n.natAbs s).size) (by rw [ByteArray.size_append]; omega)
  have a3 := add_ssT (⟨#[45]⟩ : ByteArray) (fpS n.natAbs s) (by omega)
  have HF : Hid ((0 < s → (fzS n.natAbs s).extract 0 ((fzS n.natAbs s).size - s) ++ ((⟨#[46]⟩ : ByteArray) ++ (fzS n.natAbs s).extract ((fzS n.natAbs s).size - s) (fzS n.natAbs s).size) = fpS n.natAbs s) ∧ (s = 0 → (fzS n.natAbs s).extract 0 ((fzS n.natAbs s).size - s) = fpS n.natAbs s)) := Lib.hid ⟨fun g => by unfold fpS; rw [if_pos g], fun g => by unfold fpS; rw [if_neg (by omega)]⟩
  have HM : Hid ((n < 0 → (⟨#[45]⟩ : ByteArray) ++ fpS n.natAbs s = fmtS n s) ∧ (¬ n < 0 → fpS n.natAbs s = fmtS n s)) := Lib.hid ⟨fun g => by unfold fmtS; rw [if_pos g], fun g => by unfold fmtS; rw [if_neg g]⟩
  have HZ : Hid (zrS (s + 1 - (dcS n.natAbs).size) ++ dcS n.natAbs = fzS n.natAbs s ∧ (s + 1 ≤ (dcS n.natAbs).size → dcS n.natAbs = fzS n.natAbs s)) := Lib.hid ⟨rfl, fun g => by unfold fzS; rw [show s + 1 - (dcS n.natAbs).size = 0 by omega, zrS_zero]⟩
  have a0 := add_ssT (zrS (s + 1 - (dcS n.natAbs).size)) (dcS n.natAbs) (by rw [zrS_size]; omega)
  rw [HZ.out.1] at a0
  have hzr := fun w => zeros_any (s + 1 - (dcS n.natAbs).size) (by omega) w
  obtain ⟨j, hj⟩ : ∃ j, s + 1 - (dcS n.natAbs).size = j := ⟨_, rfl⟩
  rw [hj] at a0 hzr
  have HN := Lib.hid (And.intro n0 n1)
  by_cases g1 : (dcS n.natAbs).size ≤ s
  · have hji : sI + 1 - ((dcS n.natAbs).size : Int) = j := by omega
    have g1i : ((dcS n.natAbs).size : Int) ≤ sI := by omega
    generalize dcS n.natAbs = D at *
    generalize fzS n.natAbs s = Z at *
    generalize Z.extract 0 (Z.size - s) = P at *
    generalize Z.extract (Z.size - s) Z.size = Q at *
    generalize (⟨#[46]⟩ : ByteArray) ++ Q = Q2 at *
    by_cases g2 : 0 < sI
    · have h2 := HF.out.1 (by omega)
      generalize P ++ Q2 = F at *
      by_cases g3 : n < 0
      · have R := Lib.hid (show (⟨#[45]⟩ : ByteArray) ++ F = fmtS n s by rw [h2]; exact HM.out.1 g3)
        rw [← h2] at a3
        generalize (⟨#[45]⟩ : ByteArray) ++ F = F2 at *
        clear h2 HF HM HZ hu hu2 hn hsI g1 hj hps e1 e2 hzs hd
        go_enter Tryd.func7, Tryd.ntmps7
        go_wp2_with (first | (go_at_call 9; (with_reducible refine (hC _).mono ?_); rintro e w1 ⟨rfl, hb⟩; obtain ⟨hc, hf⟩ := gcells hb (w.heap.size + 1) (by first | exact hz | omega | (simp; done) | (simp; omega)); have hz : w.heap.size + 1 ≤ w1.heap.size := (by have h := hb.size; (try simp at h); omega); have hz0 : w.heap.size < w1.heap.size := (by omega)) | (go_at_call 23; (with_reducible refine (hA _).mono ?_); rintro e w1 ⟨rfl, rfl⟩) | (go_at_call 22; (with_reducible refine (hI _ (HT.out.gr (by repeat (first | (with_reducible exact Gr.refl _) | (with_reducible assumption) | (with_reducible refine Gr.alloc ?_ _) | (with_reducible refine Gr.drew ?_) | (with_reducible refine Gr.drewN ?_ _) | (with_reducible refine Gr.setCell ?_ (by simp <;> omega) _) | (with_reducible refine Gr.trans ?_ (by with_reducible assumption)) | exact Gr.refl _ | assumption | refine Gr.alloc ?_ _ | refine Gr.drew ?_ | refine Gr.drewN ?_ _ | refine Gr.setCell ?_ (by simp <;> omega) _ | refine Gr.trans ?_ (by assumption))))).mono ?_); rintro e w1 ⟨rfl, hb⟩; obtain ⟨hc, hf⟩ := gcells hb (w.heap.size + 1) (by first | exact hz | omega | (simp; done) | (simp; omega)); have hz : w.heap.size + 1 ≤ w1.heap.size := (by have h := hb.size; (try simp at h); omega); have hz0 : w.heap.size < w1.heap.size := (by omega)) | (go_at_call 24; (with_reducible refine (hzr _).mono ?_); rintro e w1 ⟨rfl, hb⟩; obtain ⟨hc, hf⟩ := gcells hb (w.heap.size + 1) (by first | exact hz | omega | (simp; done) | (simp; omega)); have hz : w.heap.size + 1 ≤ w1.heap.size := (by have h := hb.size; (try simp at h); omega); have hz0 : w.heap.size < w1.heap.size := (by omega)))
        go_ret2
        exact ⟨(by rw [R.out]; first | done | rfl), (by repeat (first | (with_reducible exact Gr.refl _) | (with_reducible assumption) | (with_reducible refine Gr.alloc ?_ _) | (with_reducible refine Gr.drew ?_) | (with_reducible refine Gr.drewN ?_ _) | (with_reducible refine Gr.setCell ?_ (by simp <;> omega) _) | (with_reducible refine Gr.trans ?_ (by with_reducible assumption)) | exact Gr.refl _ | assumption | refine Gr.alloc ?_ _ | refine Gr.drew ?_ | refine Gr.drewN ?_ _ | refine Gr.setCell ?_ (by simp <;> omega) _ | refine Gr.trans ?_ (by assumption)))⟩
      · have R := Lib.hid (show F = fmtS n s by rw [h2]; exact HM.out.2 g3)
        clear h2 HF HM HZ hu hu2 hn hsI g1 hj hps e1 e2 hzs hd a3
        go_enter Tryd.func7, Tryd.ntmps7
        go_wp2_with (first | (go_at_call 9; (with_reducible refine (hC _).mono ?_); rintro e w1 ⟨rfl, hb⟩; obtain ⟨hc, hf⟩ := gcells hb (w.heap.size + 1) (by first | exact hz | omega | (simp; done) | (simp; omega)); have hz : w.heap.size + 1 ≤ w1.heap.size := (by have h := hb.size; (try simp at h); omega); have hz0 : w.heap.size < w1.heap.size := (by omega)) | (go_at_call 23; (with_reducible refine (hA _).mono ?_); rintro e w1 ⟨rfl, rfl⟩) | (go_at_call 22; (with_reducible refine (hI _ (HT.out.gr (by repeat (first | (with_reducible exact Gr.refl _) | (with_reducible assumption) | (with_reducible refine Gr.alloc ?_ _) | (with_reducible refine Gr.drew ?_) | (with_reducible refine Gr.drewN ?_ _) | (with_reducible refine Gr.setCell ?_ (by simp <;> omega) _) | (with_reducible refine Gr.trans ?_ (by with_reducible assumption)) | exact Gr.refl _ | assumption | refine Gr.alloc ?_ _ | refine Gr.drew ?_ | refine Gr.drewN ?_ _ | refine Gr.setCell ?_ (by simp <;> omega) _ | refine Gr.trans ?_ (by assumption))))).mono ?_); rintro e w1 ⟨rfl, hb⟩; obtain ⟨hc, hf⟩ := gcells hb (w.heap.size + 1) (by first | exact hz | omega | (simp; done) | (simp; omega)); have hz : w.heap.size + 1 ≤ w1.heap.size := (by have h := hb.size; (try simp at h); omega); have hz0 : w.heap.size < w1.heap.size := (by omega)) | (go_at_call 24; (with_reducible refine (hzr _).mono ?_); rintro e w1 ⟨rfl, hb⟩; obtain ⟨hc, hf⟩ := gcells hb (w.heap.size + 1) (by first | exact hz | omega | (simp; done) | (simp; omega)); have hz : w.heap.size + 1 ≤ w1.heap.size := (by have h := hb.size; (try simp at h); omega); have hz0 : w.heap.size < w1.heap.size := (by omega)))
        go_ret2
        exact ⟨(by rw [R.out]; first | done | rfl), (by repeat (first | (with_reducible exact Gr.refl _) | (with_reducible assumption) | (with_reducible refine Gr.alloc ?_ _) | (with_reducible refine Gr.drew ?_) | (with_reducible refine Gr.drewN ?_ _) | (with_reducible refine Gr.setCell ?_ (by simp <;> omega) _) | (with_reducible refine Gr.trans ?_ (by with_reducible assumption)) | exact Gr.refl _ | assumption | refine Gr.alloc ?_ _ | refine Gr.drew ?_ | refine Gr.drewN ?_ _ | refine Gr.setCell ?_ (by simp <;> omega) _ | refine Gr.trans ?_ (by assumption)))⟩
    · have hs0 : s = 0 := by omega
      have h2 := HF.out.2 hs0
      clear hs0
      by_cases g3 : n < 0
      · have R := Lib.hid (show (⟨#[45]⟩ : ByteArray) ++ P = fmtS n s by rw [h2]; exact HM.out.1 g3)
        rw [← h2] at a3
        generalize (⟨#[45]⟩ : ByteArray) ++ P = F2 at *
        clear h2 HF HM HZ hu hu2 hn hsI g1 hj hps e1 e2 hzs hd a1 a2 c2
        go_enter Tryd.func7, Tryd.ntmps7
        go_wp2_with (first | (go_at_call 9; (with_reducible refine (hC _).mono ?_); rintro e w1 ⟨rfl, hb⟩; obtain ⟨hc, hf⟩ := gcells hb (w.heap.size + 1) (by first | exact hz | omega | (simp; done) | (simp; omega)); have hz : w.heap.size + 1 ≤ w1.heap.size := (by have h := hb.size; (try simp at h); omega); have hz0 : w.heap.size < w1.heap.size := (by omega)) | (go_at_call 23; (with_reducible refine (hA _).mono ?_); rintro e w1 ⟨rfl, rfl⟩) | (go_at_call 22; (with_reducible refine (hI _ (HT.out.gr (by repeat (first | (with_reducible exact Gr.refl _) | (with_reducible assumption) | (with_reducible refine Gr.alloc ?_ _) | (with_reducible refine Gr.drew ?_) | (with_reducible refine Gr.drewN ?_ _) | (with_reducible refine Gr.setCell ?_ (by simp <;> omega) _) | (with_reducible refine Gr.trans ?_ (by with_reducible assumption)) | exact Gr.refl _ | assumption | refine Gr.alloc ?_ _ | refine Gr.drew ?_ | refine Gr.drewN ?_ _ | refine Gr.setCell ?_ (by simp <;> omega) _ | refine Gr.trans ?_ (by assumption))))).mono ?_); rintro e w1 ⟨rfl, hb⟩; obtain ⟨hc, hf⟩ := gcells hb (w.heap.size + 1) (by first | exact hz | omega | (simp; done) | (simp; omega)); have hz : w.heap.size + 1 ≤ w1.heap.size := (by have h := hb.size; (try simp at h); omega); have hz0 : w.heap.size < w1.heap.size := (by omega)) | (go_at_call 24; (with_reducible refine (hzr _).mono ?_); rintro e w1 ⟨rfl, hb⟩; obtain ⟨hc, hf⟩ := gcells hb (w.heap.size + 1) (by first | exact hz | omega | (simp; done) | (simp; omega)); have hz : w.heap.size + 1 ≤ w1.heap.size := (by have h := hb.size; (try simp at h); omega); have hz0 : w.heap.size < w1.heap.size := (by omega)))
        go_ret2
        exact ⟨(by rw [R.out]; first | done | rfl), (by repeat (first | (with_reducible exact Gr.refl _) | (with_reducible assumption) | (with_reducible refine Gr.alloc ?_ _) | (with_reducible refine Gr.drew ?_) | (with_reducible refine Gr.drewN ?_ _) | (with_reducible refine Gr.setCell ?_ (by simp <;> omega) _) | (with_reducible refine Gr.trans ?_ (by with_reducible assumption)) | exact Gr.refl _ | assumption | refine Gr.alloc ?_ _ | refine Gr.drew ?_ | refine Gr.drewN ?_ _ | refine Gr.setCell ?_ (by simp <;> omega) _ | refine Gr.trans ?_ (by assumption)))⟩
      · have R := Lib.hid (show P = fmtS n s by rw [h2]; exact HM.out.2 g3)
        clear h2 HF HM HZ hu hu2 hn hsI g1 hj hps e1 e2 hzs hd a1 a2 a3 c2
        go_enter Tryd.func7, Tryd.ntmps7
        go_wp2_with (first | (go_at_call 9; (with_reducible refine (hC _).mono ?_); rintro e w1 ⟨rfl, hb⟩; obtain ⟨hc, hf⟩ := gcells hb (w.heap.size + 1) (by first | exact hz | omega | (simp; done) | (simp; omega)); have hz : w.heap.size + 1 ≤ w1.heap.size := (by have h := hb.size; (try simp at h); omega); have hz0 : w.heap.size < w1.heap.size := (by omega)) | (go_at_call 23; (with_reducible refine (hA _).mono ?_); rintro e w1 ⟨rfl, rfl⟩) | (go_at_call 22; (with_reducible refine (hI _ (HT.out.gr (by repeat (first | (with_reducible exact Gr.refl _) | (with_reducible assumption) | (with_reducible refine Gr.alloc ?_ _) | (with_reducible refine Gr.drew ?_) | (with_reducible refine Gr.drewN ?_ _) | (with_reducible refine Gr.setCell ?_ (by simp <;> omega) _) | (with_reducible refine Gr.trans ?_ (by with_reducible assumption)) | exact Gr.refl _ | assumption | refine Gr.alloc ?_ _ | refine Gr.drew ?_ | refine Gr.drewN ?_ _ | refine Gr.setCell ?_ (by simp <;> omega) _ | refine Gr.trans ?_ (by assumption))))).mono ?_); rintro e w1 ⟨rfl, hb⟩; obtain ⟨hc, hf⟩ := gcells hb (w.heap.size + 1) (by first | exact hz | omega | (simp; done) | (simp; omega)); have hz : w.heap.size + 1 ≤ w1.heap.size := (by have h := hb.size; (try simp at h); omega); have hz0 : w.heap.size < w1.heap.size := (by omega)) | (go_at_call 24; (with_reducible refine (hzr _).mono ?_); rintro e w1 ⟨rfl, hb⟩; obtain ⟨hc, hf⟩ := gcells hb (w.heap.size + 1) (by first | exact hz | omega | (simp; done) | (simp; omega)); have hz : w.heap.size + 1 ≤ w1.heap.size := (by have h := hb.size; (try simp at h); omega); have hz0 : w.heap.size < w1.heap.size := (by omega)))
        go_ret2
        exact ⟨(by rw [R.out]; first | done | rfl), (by repeat (first | (with_reducible exact Gr.refl _) | (with_reducible assumption) | (with_reducible refine Gr.alloc ?_ _) | (with_reducible refine Gr.drew ?_) | (with_reducible refine Gr.drewN ?_ _) | (with_reducible refine Gr.setCell ?_ (by simp <;> omega) _) | (with_reducible refine Gr.trans ?_ (by with_reducible assumption)) | exact Gr.refl _ | assumption | refine Gr.alloc ?_ _ | refine Gr.drew ?_ | refine Gr.drewN ?_ _ | refine Gr.setCell ?_ (by simp <;> omega) _ | refine Gr.trans ?_ (by assumption)))⟩
  · have hDZ := HZ.out.2 (by omega)
    rw [hDZ] at hI g1
    have g1i : ¬ ((fzS n.natAbs s).size : Int) ≤ sI := by omega
    clear a0 hzr hj
    generalize dcS n.natAbs = D at *
    generalize fzS n.natAbs s = Z at *
    generalize Z.extract 0 (Z.size - s) = P at *
    generalize Z.extract (Z.size - s) Z.size = Q at *
    generalize (⟨#[46]⟩ : ByteArray) ++ Q = Q2 at *
    by_cases g2 : 0 < sI
    · have h2 := HF.out.1 (by omega)
      generalize P ++ Q2 = F at *
      by_cases g3 : n < 0
      · have R := Lib.hid (show (⟨#[45]⟩ : ByteArray) ++ F = fmtS n s by rw [h2]; exact HM.out.1 g3)
        rw [← h2] at a3
        generalize (⟨#[45]⟩ : ByteArray) ++ F = F2 at *
        clear h2 HF HM HZ hu hu2 hn hsI g1 hps e1 e2 hDZ hd hzs
        go_enter Tryd.func7, Tryd.ntmps7
        go_wp2_with (first | (go_at_call 9; (with_reducible refine (hC _).mono ?_); rintro e w1 ⟨rfl, hb⟩; obtain ⟨hc, hf⟩ := gcells hb (w.heap.size + 1) (by first | exact hz | omega | (simp; done) | (simp; omega)); have hz : w.heap.size + 1 ≤ w1.heap.size := (by have h := hb.size; (try simp at h); omega); have hz0 : w.heap.size < w1.heap.size := (by omega)) | (go_at_call 23; (with_reducible refine (hA _).mono ?_); rintro e w1 ⟨rfl, rfl⟩) | (go_at_call 22; (with_reducible refine (hI _ (HT.out.gr (by repeat (first | (with_reducible exact Gr.refl _) | (with_reducible assumption) | (with_reducible refine Gr.alloc ?_ _) | (with_reducible refine Gr.drew ?_) | (with_reducible refine Gr.drewN ?_ _) | (with_reducible refine Gr.setCell ?_ (by simp <;> omega) _) | (with_reducible refine Gr.trans ?_ (by with_reducible assumption)) | exact Gr.refl _ | assumption | refine Gr.alloc ?_ _ | refine Gr.drew ?_ | refine Gr.drewN ?_ _ | refine Gr.setCell ?_ (by simp <;> omega) _ | refine Gr.trans ?_ (by assumption))))).mono ?_); rintro e w1 ⟨rfl, hb⟩; obtain ⟨hc, hf⟩ := gcells hb (w.heap.size + 1) (by first | exact hz | omega | (simp; done) | (simp; omega)); have hz : w.heap.size + 1 ≤ w1.heap.size := (by have h := hb.size; (try simp at h); omega); have hz0 : w.heap.size < w1.heap.size := (by omega)))
        go_ret2
        exact ⟨(by rw [R.out]; first | done | rfl), (by repeat (first | (with_reducible exact Gr.refl _) | (with_reducible assumption) | (with_reducible refine Gr.alloc ?_ _) | (with_reducible refine Gr.drew ?_) | (with_reducible refine Gr.drewN ?_ _) | (with_reducible refine Gr.setCell ?_ (by simp <;> omega) _) | (with_reducible refine Gr.trans ?_ (by with_reducible assumption)) | exact Gr.refl _ | assumption | refine Gr.alloc ?_ _ | refine Gr.drew ?_ | refine Gr.drewN ?_ _ | refine Gr.setCell ?_ (by simp <;> omega) _ | refine Gr.trans ?_ (by assumption)))⟩
      · have R := Lib.hid (show F = fmtS n s by rw [h2]; exact HM.out.2 g3)
        clear h2 HF HM HZ hu hu2 hn hsI g1 hps e1 e2 a3 hDZ hd hzs
        go_enter Tryd.func7, Tryd.ntmps7
        go_wp2_with (first | (go_at_call 9; (with_reducible refine (hC _).mono ?_); rintro e w1 ⟨rfl, hb⟩; obtain ⟨hc, hf⟩ := gcells hb (w.heap.size + 1) (by first | exact hz | omega | (simp; done) | (simp; omega)); have hz : w.heap.size + 1 ≤ w1.heap.size := (by have h := hb.size; (try simp at h); omega); have hz0 : w.heap.size < w1.heap.size := (by omega)) | (go_at_call 23; (with_reducible refine (hA _).mono ?_); rintro e w1 ⟨rfl, rfl⟩) | (go_at_call 22; (with_reducible refine (hI _ (HT.out.gr (by repeat (first | (with_reducible exact Gr.refl _) | (with_reducible assumption) | (with_reducible refine Gr.alloc ?_ _) | (with_reducible refine Gr.drew ?_) | (with_reducible refine Gr.drewN ?_ _) | (with_reducible refine Gr.setCell ?_ (by simp <;> omega) _) | (with_reducible refine Gr.trans ?_ (by with_reducible assumption)) | exact Gr.refl _ | assumption | refine Gr.alloc ?_ _ | refine Gr.drew ?_ | refine Gr.drewN ?_ _ | refine Gr.setCell ?_ (by simp <;> omega) _ | refine Gr.trans ?_ (by assumption))))).mono ?_); rintro e w1 ⟨rfl, hb⟩; obtain ⟨hc, hf⟩ := gcells hb (w.heap.size + 1) (by first | exact hz | omega | (simp; done) | (simp; omega)); have hz : w.heap.size + 1 ≤ w1.heap.size := (by have h := hb.size; (try simp at h); omega); have hz0 : w.heap.size < w1.heap.size := (by omega)))
        go_ret2
        exact ⟨(by rw [R.out]; first | done | rfl), (by repeat (first | (with_reducible exact Gr.refl _) | (with_reducible assumption) | (with_reducible refine Gr.alloc ?_ _) | (with_reducible refine Gr.drew ?_) | (with_reducible refine Gr.drewN ?_ _) | (with_reducible refine Gr.setCell ?_ (by simp <;> omega) _) | (with_reducible refine Gr.trans ?_ (by with_reducible assumption)) | exact Gr.refl _ | assumption | refine Gr.alloc ?_ _ | refine Gr.drew ?_ | refine Gr.drewN ?_ _ | refine Gr.setCell ?_ (by simp <;> omega) _ | refine Gr.trans ?_ (by assumption)))⟩
    · have hs0 : s = 0 := by omega
      have h2 := HF.out.2 hs0
      clear hs0
      by_cases g3 : n < 0
      · have R := Lib.hid (show (⟨#[45]⟩ : ByteArray) ++ P = fmtS n s by rw [h2]; exact HM.out.1 g3)
        rw [← h2] at a3
        generalize (⟨#[45]⟩ : ByteArray) ++ P = F2 at *
        clear h2 HF HM HZ hu hu2 hn hsI g1 hps e1 e2 a1 a2 c2 hDZ hd hzs
        go_enter Tryd.func7, Tryd.ntmps7
        go_wp2_with (first | (go_at_call 9; (with_reducible refine (hC _).mono ?_); rintro e w1 ⟨rfl, hb⟩; obtain ⟨hc, hf⟩ := gcells hb (w.heap.size + 1) (by first | exact hz | omega | (simp; done) | (simp; omega)); have hz : w.heap.size + 1 ≤ w1.heap.size := (by have h := hb.size; (try simp at h); omega); have hz0 : w.heap.size < w1.heap.size := (by omega)) | (go_at_call 23; (with_reducible refine (hA _).mono ?_); rintro e w1 ⟨rfl, rfl⟩) | (go_at_call 22; (with_reducible refine (hI _ (HT.out.gr (by repeat (first | (with_reducible exact Gr.refl _) | (with_reducible assumption) | (with_reducible refine Gr.alloc ?_ _) | (with_reducible refine Gr.drew ?_) | (with_reducible refine Gr.drewN ?_ _) | (with_reducible refine Gr.setCell ?_ (by simp <;> omega) _) | (with_reducible refine Gr.trans ?_ (by with_reducible assumption)) | exact Gr.refl _ | assumption | refine Gr.alloc ?_ _ | refine Gr.drew ?_ | refine Gr.drewN ?_ _ | refine Gr.setCell ?_ (by simp <;> omega) _ | refine Gr.trans ?_ (by assumption))))).mono ?_); rintro e w1 ⟨rfl, hb⟩; obtain ⟨hc, hf⟩ := gcells hb (w.heap.size + 1) (by first | exact hz | omega | (simp; done) | (simp; omega)); have hz : w.heap.size + 1 ≤ w1.heap.size := (by have h := hb.size; (try simp at h); omega); have hz0 : w.heap.size < w1.heap.size := (by omega)))
        go_ret2
        exact ⟨(by rw [R.out]; first | done | rfl), (by repeat (first | (with_reducible exact Gr.refl _) | (with_reducible assumption) | (with_reducible refine Gr.alloc ?_ _) | (with_reducible refine Gr.drew ?_) | (with_reducible refine Gr.drewN ?_ _) | (with_reducible refine Gr.setCell ?_ (by simp <;> omega) _) | (with_reducible refine Gr.trans ?_ (by with_reducible assumption)) | exact Gr.refl _ | assumption | refine Gr.alloc ?_ _ | refine Gr.drew ?_ | refine Gr.drewN ?_ _ | refine Gr.setCell ?_ (by simp <;> omega) _ | refine Gr.trans ?_ (by assumption)))⟩
      · have R := Lib.hid (show P = fmtS n s by rw [h2]; exact HM.out.2 g3)
        clear h2 HF HM HZ hu hu2 hn hsI g1 hps e1 e2 a1 a2 a3 c2 hDZ hd hzs
        go_enter Tryd.func7, Tryd.ntmps7
        go_wp2_with (first | (go_at_call 9; (with_reducible refine (hC _).mono ?_); rintro e w1 ⟨rfl, hb⟩; obtain ⟨hc, hf⟩ := gcells hb (w.heap.size + 1) (by first | exact hz | omega | (simp; done) | (simp; omega)); have hz : w.heap.size + 1 ≤ w1.heap.size := (by have h := hb.size; (try simp at h); omega); have hz0 : w.heap.size < w1.heap.size := (by omega)) | (go_at_call 23; (with_reducible refine (hA _).mono ?_); rintro e w1 ⟨rfl, rfl⟩) | (go_at_call 22; (with_reducible refine (hI _ (HT.out.gr (by repeat (first | (with_reducible exact Gr.refl _) | (with_reducible assumption) | (with_reducible refine Gr.alloc ?_ _) | (with_reducible refine Gr.drew ?_) | (with_reducible refine Gr.drewN ?_ _) | (with_reducible refine Gr.setCell ?_ (by simp <;> omega) _) | (with_reducible refine Gr.trans ?_ (by with_reducible assumption)) | exact Gr.refl _ | assumption | refine Gr.alloc ?_ _ | refine Gr.drew ?_ | refine Gr.drewN ?_ _ | refine Gr.setCell ?_ (by simp <;> omega) _ | refine Gr.trans ?_ (by assumption))))).mono ?_); rintro e w1 ⟨rfl, hb⟩; obtain ⟨hc, hf⟩ := gcells hb (w.heap.size + 1) (by first | exact hz | omega | (simp; done) | (simp; omega)); have hz : w.heap.size + 1 ≤ w1.heap.size := (by have h := hb.size; (try simp at h); omega); have hz0 : w.heap.size < w1.heap.size := (by omega)))
        go_ret2
        exact ⟨(by rw [R.out]; first | done | rfl), (by repeat (first | (with_reducible exact Gr.refl _) | (with_reducible assumption) | (with_reducible refine Gr.alloc ?_ _) | (with_reducible refine Gr.drew ?_) | (with_reducible refine Gr.drewN ?_ _) | (with_reducible refine Gr.setCell ?_ (by simp <;> omega) _) | (with_reducible refine Gr.trans ?_ (by with_reducible assumption)) | exact Gr.refl _ | assumption | refine Gr.alloc ?_ _ | refine Gr.drew ?_ | refine Gr.drewN ?_ _ | refine Gr.setCell ?_ (by simp <;> omega) _ | refine Gr.trans ?_ (by assumption)))⟩
end Go.Proofs.YtnaflaokhldfnaaDoor
