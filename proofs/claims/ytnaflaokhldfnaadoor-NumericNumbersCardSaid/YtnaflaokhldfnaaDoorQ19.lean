/- Texts of the walks, merged. -/
import Derived.Test.YtnaflaokhldfnaaDoorQ18
import Derived.Test.YtnaflaokhldfnaaDoorQ03
namespace Go.Proofs.YtnaflaokhldfnaaDoor
set_option linter.unusedSimpArgs false
set_option linter.unusedVariables false
open Go.RowKit

def szOf : Value → Nat
  | .string x => x.size
  | _ => 0
theorem ba_assoc (a b c : ByteArray) : a ++ b ++ c = a ++ (b ++ c) := by
  refine ba_listT ?_
  simp only [ByteArray.data_append, Array.toList_append, List.append_assoc]
set_option maxHeartbeats 4000000 in
set_option maxRecDepth 100000 in
theorem Text_any (n sI : Int) (s : Nat) (hsI : sI.toNat = s) (hn : numErr n sI = 0) (w : World) :
    Calls Tryd.prog 11 #[.agg #[.int .i64 n, .int .i64 sI]] w fun e w' => e = .returned (.string (fmtS n s)) ∧ Gr w w' := by
  obtain ⟨n0, n1, s0, s1⟩ := numErr_ok hn
  have hA := fun w => Amount_any n (by omega) (by omega) w
  obtain ⟨u, hu⟩ : ∃ u, absI n = u := ⟨_, rfl⟩
  have hu2 : 0 ≤ u ∧ u ≤ 999999999999999 ∧ u.toNat = n.natAbs := by rw [← hu]; unfold absI; split <;> omega
  rw [hu] at hA
  have hD := fun w => Digits_any u.toNat u w hu2.1 (by omega) (by omega)
  rw [hu2.2.2] at hD
  have hd := (dcS_len n.natAbs 15 (by omega) (by omega))
  have hzs := fzS_size n.natAbs s
  obtain ⟨z1, z2, -, -, -, -⟩ := fzS_right n.natAbs s (by omega) (by omega)
  have c1 := cutT_j (fzS n.natAbs s) (((fzS n.natAbs s).size : Int) - sI) ((fzS n.natAbs s).size - s) (by omega) (by omega)
  have c2 := cutT_i (fzS n.natAbs s) (((fzS n.natAbs s).size : Int) - sI) ((fzS n.natAbs s).size - s) (by omega) (by omega)
  have e1 : ((fzS n.natAbs s).extract 0 ((fzS n.natAbs s).size - s)).size = (fzS n.natAbs s).size - s := by rw [ByteArray.size_extract]; omega
  have e2 : ((fzS n.natAbs s).extract ((fzS n.natAbs s).size - s) (fzS n.natAbs s).size).size = s := by rw [ByteArray.size_extract]; omega
  have hdot : (⟨#[46]⟩ : ByteArray).size = 1 := rfl
  have hmin : (⟨#[45]⟩ : ByteArray).size = 1 := rfl
  have hps : (fpS n.natAbs s).size ≤ 20 := by
    unfold fpS
    split
    · rw [ByteArray.size_append, ByteArray.size_append, e1, e2, hdot]; omega
    · rw [e1]; omega
  have a1 := add_ssT ((fzS n.natAbs s).extract 0 ((fzS n.natAbs s).size - s)) (⟨#[46]⟩ : ByteArray) (by omega)
  have a2 := add_ssT ((fzS n.natAbs s).extract 0 ((fzS n.natAbs s).size - s) ++ (⟨#[46]⟩ : ByteArray)) ((fzS n.natAbs s).extract ((fzS n.natAbs s).size - s) (fzS n.natAbs s).size) (by rw [ByteArray.size_append]; omega)
  have a3 := add_ssT (⟨#[45]⟩ : ByteArray) (fpS n.natAbs s) (by omega)
  have HF : Hid ((0 < s → (fzS n.natAbs s).extract 0 ((fzS n.natAbs s).size - s) ++ (⟨#[46]⟩ : ByteArray) ++ (fzS n.natAbs s).extract ((fzS n.natAbs s).size - s) (fzS n.natAbs s).size = fpS n.natAbs s) ∧ (s = 0 → (fzS n.natAbs s).extract 0 ((fzS n.natAbs s).size - s) = fpS n.natAbs s)) := Lib.hid ⟨fun g => by rw [ba_assoc]; unfold fpS; rw [if_pos g], fun g => by unfold fpS; rw [if_neg (by omega)]⟩
  have HM : Hid ((n < 0 → (⟨#[45]⟩ : ByteArray) ++ fpS n.natAbs s = fmtS n s) ∧ (¬ n < 0 → fpS n.natAbs s = fmtS n s)) := Lib.hid ⟨fun g => by unfold fmtS; rw [if_pos g], fun g => by unfold fmtS; rw [if_neg g]⟩
  have HZ : Hid (fzS n.natAbs s = zrS (s + 1 - (dcS n.natAbs).size) ++ dcS n.natAbs) := Lib.hid rfl
  have HXP := Lib.hid (show s = 0 → fzS n.natAbs s = (fzS n.natAbs s).extract 0 ((fzS n.natAbs s).size - s) from fun g => by rw [show (fzS n.natAbs s).size - s = (fzS n.natAbs s).size by omega, ex_all])
  have HS := Lib.hid (And.intro hsI (And.intro s0 s1))
  have H1 := Lib.hid hd
  clear hu hu2 hn hzs hsI e1 e2
  generalize dcS n.natAbs = D at *
  generalize fzS n.natAbs s = Z at *
  generalize Z.extract 0 (Z.size - s) = P at *
  generalize Z.extract (Z.size - s) Z.size = Q at *
  generalize P ++ (⟨#[46]⟩ : ByteArray) = P2 at *
  go_enter Tryd.func11, Tryd.ntmps11
  go_wp2_with (first | (go_at_call 29; (with_reducible refine (hA _).mono ?_); rintro e w1 ⟨rfl, rfl⟩) | (go_at_call 28; (with_reducible refine (hD _).mono ?_); rintro e w1 ⟨rfl, hb⟩; obtain ⟨hc, hf⟩ := gcells hb (w.heap.size + 1) (by first | exact hz | omega | (simp; done) | (simp; omega)); have hz : w.heap.size + 1 ≤ w1.heap.size := (by have h := hb.size; (try simp at h); omega); have hz0 : w.heap.size < w1.heap.size := (by omega)))
  have hG0 := Lib.hid (show Gr w w1 from Gr.trans (by repeat (first | (with_reducible exact Gr.refl _) | (with_reducible assumption) | (with_reducible refine Gr.alloc ?_ _) | (with_reducible refine Gr.drew ?_) | (with_reducible refine Gr.drewN ?_ _) | (with_reducible refine Gr.setCell ?_ (by simp <;> omega) _) | (with_reducible refine Gr.trans ?_ (by with_reducible assumption)) | exact Gr.refl _ | assumption | refine Gr.alloc ?_ _ | refine Gr.drew ?_ | refine Gr.drewN ?_ _ | refine Gr.setCell ?_ (by simp <;> omega) _ | refine Gr.trans ?_ (by assumption))) hb)
  go_loop [3] (fun v => ∃ (j : Nat) (X : ByteArray), v = .string X ∧ Hid (zrS j ++ D = X ∧ (j = 0 ∨ j + D.size ≤ s + 1)) ∧ X.size ≤ 40) (fun v => s + 1 - szOf v)
  case atStart => exact ⟨0, D, rfl, Lib.hid ⟨zrS_zero D, .inl rfl⟩, by have := H1.out; omega⟩
  case round =>
    obtain ⟨j, X, rfl, hX, hX40⟩ := hrel
    have hXs := Lib.hid (show X.size = j + D.size by rw [← hX.out.1, ByteArray.size_append, zrS_size])
    clear hd
    by_cases hlt : (X.size : Int) ≤ sI
    · have a0 := add_ssT (⟨#[48]⟩ : ByteArray) X (by show 1 + X.size ≤ _; omega)
      have HR := Lib.hid (show zrS (j + 1) ++ D = (⟨#[48]⟩ : ByteArray) ++ X by rw [← hX.out.1, zrS_succ])
      have HR2 := Lib.hid (show ((⟨#[48]⟩ : ByteArray) ++ X).size = X.size + 1 by rw [ByteArray.size_append]; show 1 + _ = _; omega)
      generalize (⟨#[48]⟩ : ByteArray) ++ X = X2 at *
      go_wp2
      go_round
      case rel => exact ⟨j + 1, X2, rfl, Lib.hid ⟨HR.out, .inr (by have h1 := HS.out; have h2 := hXs.out; omega)⟩, by have h1 := HS.out; have h2 := HR2.out; omega⟩
      case measure => have h1 := HS.out; have h2 := HR2.out; simp only [szOf]; omega
    · obtain rfl : X = Z := by
        have h1 := HS.out; have h2 := hXs.out; have h3 := hX.out; have h4 := H1.out
        rw [HZ.out, ← h3.1]
        congr 1
        congr 1
        omega
      clear hX hXs
      by_cases g2 : 0 < sI
      · have h2 := HF.out.1 (by have := HS.out; omega)
        generalize P2 ++ Q = F at *
        by_cases g3 : n < 0
        · have R := Lib.hid (show (⟨#[45]⟩ : ByteArray) ++ F = fmtS n s by rw [h2]; exact HM.out.1 (by omega))
          rw [← h2] at a3
          generalize (⟨#[45]⟩ : ByteArray) ++ F = F2 at *
          clear h2 HF HM HZ hps
          go_wp2
          go_quiet (fail)
          go_wp2
          go_ret
          exact ⟨(by rw [R.out]; first | done | rfl), hG0.out.trans (by repeat (first | (with_reducible exact Gr.refl _) | (with_reducible assumption) | (with_reducible refine Gr.alloc ?_ _) | (with_reducible refine Gr.drew ?_) | (with_reducible refine Gr.drewN ?_ _) | (with_reducible refine Gr.setCell ?_ (by simp <;> omega) _) | (with_reducible refine Gr.trans ?_ (by with_reducible assumption)) | exact Gr.refl _ | assumption | refine Gr.alloc ?_ _ | refine Gr.drew ?_ | refine Gr.drewN ?_ _ | refine Gr.setCell ?_ (by simp <;> omega) _ | refine Gr.trans ?_ (by assumption)))⟩
        · have R := Lib.hid (show F = fmtS n s by rw [h2]; exact HM.out.2 (by omega))
          clear h2 HF HM HZ hps a3
          go_wp2
          go_quiet (fail)
          go_wp2
          go_ret
          exact ⟨(by rw [R.out]; first | done | rfl), hG0.out.trans (by repeat (first | (with_reducible exact Gr.refl _) | (with_reducible assumption) | (with_reducible refine Gr.alloc ?_ _) | (with_reducible refine Gr.drew ?_) | (with_reducible refine Gr.drewN ?_ _) | (with_reducible refine Gr.setCell ?_ (by simp <;> omega) _) | (with_reducible refine Gr.trans ?_ (by with_reducible assumption)) | exact Gr.refl _ | assumption | refine Gr.alloc ?_ _ | refine Gr.drew ?_ | refine Gr.drewN ?_ _ | refine Gr.setCell ?_ (by simp <;> omega) _ | refine Gr.trans ?_ (by assumption)))⟩
      · have h2 := HF.out.2 (by have := HS.out; omega)
        have hXP := Lib.hid (HXP.out (by have := HS.out; omega))
        by_cases g3 : n < 0
        · have R := Lib.hid (show (⟨#[45]⟩ : ByteArray) ++ X = fmtS n s by rw [hXP.out, h2]; exact HM.out.1 (by omega))
          rw [← h2, ← hXP.out] at a3
          generalize (⟨#[45]⟩ : ByteArray) ++ X = F2 at *
          clear h2 HF HM HZ hps a1 a2 c2 c1
          go_wp2
          go_ret
          exact ⟨(by rw [R.out]; first | done | rfl), hG0.out.trans (by repeat (first | (with_reducible exact Gr.refl _) | (with_reducible assumption) | (with_reducible refine Gr.alloc ?_ _) | (with_reducible refine Gr.drew ?_) | (with_reducible refine Gr.drewN ?_ _) | (with_reducible refine Gr.setCell ?_ (by simp <;> omega) _) | (with_reducible refine Gr.trans ?_ (by with_reducible assumption)) | exact Gr.refl _ | assumption | refine Gr.alloc ?_ _ | refine Gr.drew ?_ | refine Gr.drewN ?_ _ | refine Gr.setCell ?_ (by simp <;> omega) _ | refine Gr.trans ?_ (by assumption)))⟩
        · have R := Lib.hid (show X = fmtS n s by rw [hXP.out, h2]; exact HM.out.2 (by omega))
          clear h2 HF HM HZ hps a1 a2 a3 c2 c1
          go_wp2
          go_ret
          exact ⟨(by rw [R.out]; first | done | rfl), hG0.out.trans (by repeat (first | (with_reducible exact Gr.refl _) | (with_reducible assumption) | (with_reducible refine Gr.alloc ?_ _) | (with_reducible refine Gr.drew ?_) | (with_reducible refine Gr.drewN ?_ _) | (with_reducible refine Gr.setCell ?_ (by simp <;> omega) _) | (with_reducible refine Gr.trans ?_ (by with_reducible assumption)) | exact Gr.refl _ | assumption | refine Gr.alloc ?_ _ | refine Gr.drew ?_ | refine Gr.drewN ?_ _ | refine Gr.setCell ?_ (by simp <;> omega) _ | refine Gr.trans ?_ (by assumption)))⟩
end Go.Proofs.YtnaflaokhldfnaaDoor
