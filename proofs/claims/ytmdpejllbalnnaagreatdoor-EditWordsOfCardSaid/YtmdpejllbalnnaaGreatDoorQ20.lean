/- Texts of the walks, merged. -/
import Derived.Test.YtmdpejllbalnnaaGreatDoorQ19
namespace Go.Proofs.YtmdpejllbalnnaaGreatDoor
set_option linter.unusedSimpArgs false
set_option linter.unusedVariables false
open Go.RowKit

section
variable (k l s f c E : Int)
    (hT : ∀ w, Calls Tryz.prog 29 #[.agg #[.int .i64 k, .int .i64 l, .int .i64 s]] w fun e w' => e = .returned (.int .i64 E) ∧ Gr w w')
include hT
set_option maxHeartbeats 2000000 in
theorem refErr_a (h : E ≠ 0) (w : World) : Calls Tryz.prog 13 #[.agg #[.int .i64 k, .int .i64 l, .int .i64 s], .agg #[.int .u8 c, .int .i64 f]] w fun e w' => e = .returned (.int .i64 E) ∧ Gr w w' := by
  have bE : (E != 0) = true := by simp [h]
  clear h
  go_enter Tryz.func13, Tryz.ntmps13
  go_wp2_with ((go_at_call 29; (with_reducible refine (hT _).mono ?_); rintro e w1 ⟨rfl, hb⟩; obtain ⟨hc, hf⟩ := gcells hb (w.heap.size + 2) (by first | exact hz | omega | (simp; done) | (simp; omega)); have hz : w.heap.size + 2 ≤ w1.heap.size := (by have h := hb.size; (try simp at h); omega); have hz0 : w.heap.size < w1.heap.size := (by omega)))
  go_ret
  exact ⟨rfl, (by repeat (first | (with_reducible exact Gr.refl _) | (with_reducible assumption) | (with_reducible refine Gr.alloc ?_ _) | (with_reducible refine Gr.drew ?_) | (with_reducible refine Gr.drewN ?_ _) | (with_reducible refine Gr.setCell ?_ (by simp <;> omega) _) | (with_reducible refine Gr.trans ?_ (by with_reducible assumption)) | exact Gr.refl _ | assumption | refine Gr.alloc ?_ _ | refine Gr.drew ?_ | refine Gr.drewN ?_ _ | refine Gr.setCell ?_ (by simp <;> omega) _ | refine Gr.trans ?_ (by assumption)))⟩
variable (bN : Bool) (hN : ∀ w, Calls Tryz.prog 30 #[.int .i64 k] w fun e w' => e = .returned (.bool bN) ∧ w = w')
include hN
set_option maxHeartbeats 2000000 in
theorem refErr_b (h : E = 0) (h1 : bN = false) (w : World) : Calls Tryz.prog 13 #[.agg #[.int .i64 k, .int .i64 l, .int .i64 s], .agg #[.int .u8 c, .int .i64 f]] w fun e w' => e = .returned (.int .i64 17) ∧ Gr w w' := by
  subst h h1
  go_enter Tryz.func13, Tryz.ntmps13
  go_wp2_with (first | (go_at_call 29; (with_reducible refine (hT _).mono ?_); rintro e w1 ⟨rfl, hb⟩; obtain ⟨hc, hf⟩ := gcells hb (w.heap.size + 2) (by first | exact hz | omega | (simp; done) | (simp; omega)); have hz : w.heap.size + 2 ≤ w1.heap.size := (by have h := hb.size; (try simp at h); omega); have hz0 : w.heap.size < w1.heap.size := (by omega)) | (go_at_call 30; (with_reducible refine (hN _).mono ?_); rintro e w1 ⟨rfl, rfl⟩))
  go_ret
  exact ⟨rfl, (by repeat (first | (with_reducible exact Gr.refl _) | (with_reducible assumption) | (with_reducible refine Gr.alloc ?_ _) | (with_reducible refine Gr.drew ?_) | (with_reducible refine Gr.drewN ?_ _) | (with_reducible refine Gr.setCell ?_ (by simp <;> omega) _) | (with_reducible refine Gr.trans ?_ (by with_reducible assumption)) | exact Gr.refl _ | assumption | refine Gr.alloc ?_ _ | refine Gr.drew ?_ | refine Gr.drewN ?_ _ | refine Gr.setCell ?_ (by simp <;> omega) _ | refine Gr.trans ?_ (by assumption)))⟩
variable (b1 : Bool) (hI1 : ∀ w, Calls Tryz.prog 31 #[.int .u8 c, .string ⟨#[49, 50, 51, 52, 65, 66, 67, 68, 74, 75, 76, 77, 78, 79, 80, 81, 88, 89, 90]⟩] w fun e w' => e = .returned (.bool b1) ∧ w = w')
include hI1
set_option maxHeartbeats 2000000 in
theorem refErr_c (h : E = 0) (h1 : bN = true) (h2 : b1 = false) (w : World) : Calls Tryz.prog 13 #[.agg #[.int .i64 k, .int .i64 l, .int .i64 s], .agg #[.int .u8 c, .int .i64 f]] w fun e w' => e = .returned (.int .i64 4) ∧ Gr w w' := by
  subst h h1 h2
  go_enter Tryz.func13, Tryz.ntmps13
  go_wp2_with (first | (go_at_call 29; (with_reducible refine (hT _).mono ?_); rintro e w1 ⟨rfl, hb⟩; obtain ⟨hc, hf⟩ := gcells hb (w.heap.size + 2) (by first | exact hz | omega | (simp; done) | (simp; omega)); have hz : w.heap.size + 2 ≤ w1.heap.size := (by have h := hb.size; (try simp at h); omega); have hz0 : w.heap.size < w1.heap.size := (by omega)) | (go_at_call 30; (with_reducible refine (hN _).mono ?_); rintro e w1 ⟨rfl, rfl⟩) | (go_at_call 31; (with_reducible refine (hI1 _).mono ?_); rintro e w1 ⟨rfl, rfl⟩))
  go_ret
  exact ⟨rfl, (by repeat (first | (with_reducible exact Gr.refl _) | (with_reducible assumption) | (with_reducible refine Gr.alloc ?_ _) | (with_reducible refine Gr.drew ?_) | (with_reducible refine Gr.drewN ?_ _) | (with_reducible refine Gr.setCell ?_ (by simp <;> omega) _) | (with_reducible refine Gr.trans ?_ (by with_reducible assumption)) | exact Gr.refl _ | assumption | refine Gr.alloc ?_ _ | refine Gr.drew ?_ | refine Gr.drewN ?_ _ | refine Gr.setCell ?_ (by simp <;> omega) _ | refine Gr.trans ?_ (by assumption)))⟩
variable (b2 : Bool) (hW : ∀ w, Calls Tryz.prog 26 #[.int .i64 f, .int .i64 0, .int .i64 2] w fun e w' => e = .returned (.bool b2) ∧ w = w')
include hW
set_option maxHeartbeats 2000000 in
theorem refErr_d (h : E = 0) (h1 : bN = true) (h2 : b1 = true) (h3 : b2 = false) (w : World) : Calls Tryz.prog 13 #[.agg #[.int .i64 k, .int .i64 l, .int .i64 s], .agg #[.int .u8 c, .int .i64 f]] w fun e w' => e = .returned (.int .i64 3) ∧ Gr w w' := by
  subst h h1 h2 h3
  go_enter Tryz.func13, Tryz.ntmps13
  go_wp2_with (first | (go_at_call 29; (with_reducible refine (hT _).mono ?_); rintro e w1 ⟨rfl, hb⟩; obtain ⟨hc, hf⟩ := gcells hb (w.heap.size + 2) (by first | exact hz | omega | (simp; done) | (simp; omega)); have hz : w.heap.size + 2 ≤ w1.heap.size := (by have h := hb.size; (try simp at h); omega); have hz0 : w.heap.size < w1.heap.size := (by omega)) | (go_at_call 30; (with_reducible refine (hN _).mono ?_); rintro e w1 ⟨rfl, rfl⟩) | (go_at_call 31; (with_reducible refine (hI1 _).mono ?_); rintro e w1 ⟨rfl, rfl⟩) | (go_at_call 26; (with_reducible refine (hW _).mono ?_); rintro e w1 ⟨rfl, rfl⟩))
  go_ret
  exact ⟨rfl, (by repeat (first | (with_reducible exact Gr.refl _) | (with_reducible assumption) | (with_reducible refine Gr.alloc ?_ _) | (with_reducible refine Gr.drew ?_) | (with_reducible refine Gr.drewN ?_ _) | (with_reducible refine Gr.setCell ?_ (by simp <;> omega) _) | (with_reducible refine Gr.trans ?_ (by with_reducible assumption)) | exact Gr.refl _ | assumption | refine Gr.alloc ?_ _ | refine Gr.drew ?_ | refine Gr.drewN ?_ _ | refine Gr.setCell ?_ (by simp <;> omega) _ | refine Gr.trans ?_ (by assumption)))⟩
variable (b3 : Bool) (hI2 : ∀ w, Calls Tryz.prog 31 #[.int .u8 c, .string ⟨#[49, 50, 51, 52, 65, 66, 67, 68, 74, 75, 76, 77]⟩] w fun e w' => e = .returned (.bool b3) ∧ w = w')
include hI2
set_option maxHeartbeats 2000000 in
theorem refErr_e (h : E = 0) (h1 : bN = true) (h2 : b1 = true) (h3 : b2 = true) (hf : f ≠ 0) (h4 : b3 = false) (w : World) : Calls Tryz.prog 13 #[.agg #[.int .i64 k, .int .i64 l, .int .i64 s], .agg #[.int .u8 c, .int .i64 f]] w fun e w' => e = .returned (.int .i64 15) ∧ Gr w w' := by
  subst h h1 h2 h3 h4
  have bf : (f != 0) = true := by simp [hf]
  clear hf
  go_enter Tryz.func13, Tryz.ntmps13
  go_wp2_with (first | (go_at_call 29; (with_reducible refine (hT _).mono ?_); rintro e w1 ⟨rfl, hb⟩; obtain ⟨hc, hf⟩ := gcells hb (w.heap.size + 2) (by first | exact hz | omega | (simp; done) | (simp; omega)); have hz : w.heap.size + 2 ≤ w1.heap.size := (by have h := hb.size; (try simp at h); omega); have hz0 : w.heap.size < w1.heap.size := (by omega)) | (go_at_call 30; (with_reducible refine (hN _).mono ?_); rintro e w1 ⟨rfl, rfl⟩) | (go_at_call 31; (with_reducible refine (hI1 _).mono ?_); rintro e w1 ⟨rfl, rfl⟩) | (go_at_call 31; (with_reducible refine (hI2 _).mono ?_); rintro e w1 ⟨rfl, rfl⟩) | (go_at_call 26; (with_reducible refine (hW _).mono ?_); rintro e w1 ⟨rfl, rfl⟩))
  go_ret
  exact ⟨rfl, (by repeat (first | (with_reducible exact Gr.refl _) | (with_reducible assumption) | (with_reducible refine Gr.alloc ?_ _) | (with_reducible refine Gr.drew ?_) | (with_reducible refine Gr.drewN ?_ _) | (with_reducible refine Gr.setCell ?_ (by simp <;> omega) _) | (with_reducible refine Gr.trans ?_ (by with_reducible assumption)) | exact Gr.refl _ | assumption | refine Gr.alloc ?_ _ | refine Gr.drew ?_ | refine Gr.drewN ?_ _ | refine Gr.setCell ?_ (by simp <;> omega) _ | refine Gr.trans ?_ (by assumption)))⟩
set_option maxHeartbeats 8000000 in
theorem refErr_f (h : E = 0) (h1 : bN = true) (h2 : b1 = true) (h3 : b2 = true) (hf : f = 0 ∨ (f ≠ 0 ∧ b3 = true)) (w : World) : Calls Tryz.prog 13 #[.agg #[.int .i64 k, .int .i64 l, .int .i64 s], .agg #[.int .u8 c, .int .i64 f]] w fun e w' => e = .returned (.int .i64 (if c = 89 then dtE l s else 0)) ∧ Gr w w' := by
  subst h h1 h2 h3
  have key : ∀ (bf : Bool), (f != 0) = bf → (bf = true → b3 = true) → Calls Tryz.prog 13 #[.agg #[.int .i64 k, .int .i64 l, .int .i64 s], .agg #[.int .u8 c, .int .i64 f]] w fun e w' => e = .returned (.int .i64 (if c = 89 then dtE l s else 0)) ∧ Gr w w' := by
    intro bf hbf hb3
    by_cases hc : c = 89
    · subst hc
      rw [if_pos rfl]
      by_cases hl : l = 4 ∨ l = 6 ∨ l = 8
      · by_cases hs : 0 < s
        · have E := Lib.hid (show dtE l s = 5 by unfold dtE; rw [if_neg (by omega), if_pos hs])
          cases bf
          · clear hb3
            rcases hl with rfl | rfl | rfl
            all_goals
              go_enter Tryz.func13, Tryz.ntmps13
              go_wp2_with (first | (go_at_call 29; (with_reducible refine (hT _).mono ?_); rintro e w1 ⟨rfl, hb⟩; obtain ⟨hc, hf⟩ := gcells hb (w.heap.size + 2) (by first | exact hz | omega | (simp; done) | (simp; omega)); have hz : w.heap.size + 2 ≤ w1.heap.size := (by have h := hb.size; (try simp at h); omega); have hz0 : w.heap.size < w1.heap.size := (by omega)) | (go_at_call 30; (with_reducible refine (hN _).mono ?_); rintro e w1 ⟨rfl, rfl⟩) | (go_at_call 31; (with_reducible refine (hI1 _).mono ?_); rintro e w1 ⟨rfl, rfl⟩) | (go_at_call 31; (with_reducible refine (hI2 _).mono ?_); rintro e w1 ⟨rfl, rfl⟩) | (go_at_call 26; (with_reducible refine (hW _).mono ?_); rintro e w1 ⟨rfl, rfl⟩))
              go_ret
              exact ⟨ret_int E.out.symm, (by repeat (first | (with_reducible exact Gr.refl _) | (with_reducible assumption) | (with_reducible refine Gr.alloc ?_ _) | (with_reducible refine Gr.drew ?_) | (with_reducible refine Gr.drewN ?_ _) | (with_reducible refine Gr.setCell ?_ (by simp <;> omega) _) | (with_reducible refine Gr.trans ?_ (by with_reducible assumption)) | exact Gr.refl _ | assumption | refine Gr.alloc ?_ _ | refine Gr.drew ?_ | refine Gr.drewN ?_ _ | refine Gr.setCell ?_ (by simp <;> omega) _ | refine Gr.trans ?_ (by assumption)))⟩
          · obtain rfl := hb3 rfl
            rcases hl with rfl | rfl | rfl
            all_goals
              go_enter Tryz.func13, Tryz.ntmps13
              go_wp2_with (first | (go_at_call 29; (with_reducible refine (hT _).mono ?_); rintro e w1 ⟨rfl, hb⟩; obtain ⟨hc, hf⟩ := gcells hb (w.heap.size + 2) (by first | exact hz | omega | (simp; done) | (simp; omega)); have hz : w.heap.size + 2 ≤ w1.heap.size := (by have h := hb.size; (try simp at h); omega); have hz0 : w.heap.size < w1.heap.size := (by omega)) | (go_at_call 30; (with_reducible refine (hN _).mono ?_); rintro e w1 ⟨rfl, rfl⟩) | (go_at_call 31; (with_reducible refine (hI1 _).mono ?_); rintro e w1 ⟨rfl, rfl⟩) | (go_at_call 31; (with_reducible refine (hI2 _).mono ?_); rintro e w1 ⟨rfl, rfl⟩) | (go_at_call 26; (with_reducible refine (hW _).mono ?_); rintro e w1 ⟨rfl, rfl⟩))
              go_ret
              exact ⟨ret_int E.out.symm, (by repeat (first | (with_reducible exact Gr.refl _) | (with_reducible assumption) | (with_reducible refine Gr.alloc ?_ _) | (with_reducible refine Gr.drew ?_) | (with_reducible refine Gr.drewN ?_ _) | (with_reducible refine Gr.setCell ?_ (by simp <;> omega) _) | (with_reducible refine Gr.trans ?_ (by with_reducible assumption)) | exact Gr.refl _ | assumption | refine Gr.alloc ?_ _ | refine Gr.drew ?_ | refine Gr.drewN ?_ _ | refine Gr.setCell ?_ (by simp <;> omega) _ | refine Gr.trans ?_ (by assumption)))⟩
        · have E := Lib.hid (show dtE l s = 0 by unfold dtE; rw [if_neg (by omega), if_neg hs])
          cases bf
          · clear hb3
            rcases hl with rfl | rfl | rfl
            all_goals
              go_enter Tryz.func13, Tryz.ntmps13
              go_wp2_with (first | (go_at_call 29; (with_reducible refine (hT _).mono ?_); rintro e w1 ⟨rfl, hb⟩; obtain ⟨hc, hf⟩ := gcells hb (w.heap.size + 2) (by first | exact hz | omega | (simp; done) | (simp; omega)); have hz : w.heap.size + 2 ≤ w1.heap.size := (by have h := hb.size; (try simp at h); omega); have hz0 : w.heap.size < w1.heap.size := (by omega)) | (go_at_call 30; (with_reducible refine (hN _).mono ?_); rintro e w1 ⟨rfl, rfl⟩) | (go_at_call 31; (with_reducible refine (hI1 _).mono ?_); rintro e w1 ⟨rfl, rfl⟩) | (go_at_call 31; (with_reducible refine (hI2 _).mono ?_); rintro e w1 ⟨rfl, rfl⟩) | (go_at_call 26; (with_reducible refine (hW _).mono ?_); rintro e w1 ⟨rfl, rfl⟩))
              go_ret
              exact ⟨ret_int E.out.symm, (by repeat (first | (with_reducible exact Gr.refl _) | (with_reducible assumption) | (with_reducible refine Gr.alloc ?_ _) | (with_reducible refine Gr.drew ?_) | (with_reducible refine Gr.drewN ?_ _) | (with_reducible refine Gr.setCell ?_ (by simp <;> omega) _) | (with_reducible refine Gr.trans ?_ (by with_reducible assumption)) | exact Gr.refl _ | assumption | refine Gr.alloc ?_ _ | refine Gr.drew ?_ | refine Gr.drewN ?_ _ | refine Gr.setCell ?_ (by simp <;> omega) _ | refine Gr.trans ?_ (by assumption)))⟩
          · obtain rfl := hb3 rfl
            rcases hl with rfl | rfl | rfl
            all_goals
              go_enter Tryz.func13, Tryz.ntmps13
              go_wp2_with (first | (go_at_call 29; (with_reducible refine (hT _).mono ?_); rintro e w1 ⟨rfl, hb⟩; obtain ⟨hc, hf⟩ := gcells hb (w.heap.size + 2) (by first | exact hz | omega | (simp; done) | (simp; omega)); have hz : w.heap.size + 2 ≤ w1.heap.size := (by have h := hb.size; (try simp at h); omega); have hz0 : w.heap.size < w1.heap.size := (by omega)) | (go_at_call 30; (with_reducible refine (hN _).mono ?_); rintro e w1 ⟨rfl, rfl⟩) | (go_at_call 31; (with_reducible refine (hI1 _).mono ?_); rintro e w1 ⟨rfl, rfl⟩) | (go_at_call 31; (with_reducible refine (hI2 _).mono ?_); rintro e w1 ⟨rfl, rfl⟩) | (go_at_call 26; (with_reducible refine (hW _).mono ?_); rintro e w1 ⟨rfl, rfl⟩))
              go_ret
              exact ⟨ret_int E.out.symm, (by repeat (first | (with_reducible exact Gr.refl _) | (with_reducible assumption) | (with_reducible refine Gr.alloc ?_ _) | (with_reducible refine Gr.drew ?_) | (with_reducible refine Gr.drewN ?_ _) | (with_reducible refine Gr.setCell ?_ (by simp <;> omega) _) | (with_reducible refine Gr.trans ?_ (by with_reducible assumption)) | exact Gr.refl _ | assumption | refine Gr.alloc ?_ _ | refine Gr.drew ?_ | refine Gr.drewN ?_ _ | refine Gr.setCell ?_ (by simp <;> omega) _ | refine Gr.trans ?_ (by assumption)))⟩
      · have E := Lib.hid (show dtE l s = 18 by unfold dtE; rw [if_pos (by omega)])
        have g1 : (l != 4) = true := by simp; omega
        have g2 : (l != 6) = true := by simp; omega
        have g3 : (l != 8) = true := by simp; omega
        clear hl
        cases bf
        · clear hb3
          go_enter Tryz.func13, Tryz.ntmps13
          go_wp2_with (first | (go_at_call 29; (with_reducible refine (hT _).mono ?_); rintro e w1 ⟨rfl, hb⟩; obtain ⟨hc, hf⟩ := gcells hb (w.heap.size + 2) (by first | exact hz | omega | (simp; done) | (simp; omega)); have hz : w.heap.size + 2 ≤ w1.heap.size := (by have h := hb.size; (try simp at h); omega); have hz0 : w.heap.size < w1.heap.size := (by omega)) | (go_at_call 30; (with_reducible refine (hN _).mono ?_); rintro e w1 ⟨rfl, rfl⟩) | (go_at_call 31; (with_reducible refine (hI1 _).mono ?_); rintro e w1 ⟨rfl, rfl⟩) | (go_at_call 31; (with_reducible refine (hI2 _).mono ?_); rintro e w1 ⟨rfl, rfl⟩) | (go_at_call 26; (with_reducible refine (hW _).mono ?_); rintro e w1 ⟨rfl, rfl⟩))
          go_ret
          exact ⟨ret_int E.out.symm, (by repeat (first | (with_reducible exact Gr.refl _) | (with_reducible assumption) | (with_reducible refine Gr.alloc ?_ _) | (with_reducible refine Gr.drew ?_) | (with_reducible refine Gr.drewN ?_ _) | (with_reducible refine Gr.setCell ?_ (by simp <;> omega) _) | (with_reducible refine Gr.trans ?_ (by with_reducible assumption)) | exact Gr.refl _ | assumption | refine Gr.alloc ?_ _ | refine Gr.drew ?_ | refine Gr.drewN ?_ _ | refine Gr.setCell ?_ (by simp <;> omega) _ | refine Gr.trans ?_ (by assumption)))⟩
        · obtain rfl := hb3 rfl
          go_enter Tryz.func13, Tryz.ntmps13
          go_wp2_with (first | (go_at_call 29; (with_reducible refine (hT _).mono ?_); rintro e w1 ⟨rfl, hb⟩; obtain ⟨hc, hf⟩ := gcells hb (w.heap.size + 2) (by first | exact hz | omega | (simp; done) | (simp; omega)); have hz : w.heap.size + 2 ≤ w1.heap.size := (by have h := hb.size; (try simp at h); omega); have hz0 : w.heap.size < w1.heap.size := (by omega)) | (go_at_call 30; (with_reducible refine (hN _).mono ?_); rintro e w1 ⟨rfl, rfl⟩) | (go_at_call 31; (with_reducible refine (hI1 _).mono ?_); rintro e w1 ⟨rfl, rfl⟩) | (go_at_call 31; (with_reducible refine (hI2 _).mono ?_); rintro e w1 ⟨rfl, rfl⟩) | (go_at_call 26; (with_reducible refine (hW _).mono ?_); rintro e w1 ⟨rfl, rfl⟩))
          go_ret
          exact ⟨ret_int E.out.symm, (by repeat (first | (with_reducible exact Gr.refl _) | (with_reducible assumption) | (with_reducible refine Gr.alloc ?_ _) | (with_reducible refine Gr.drew ?_) | (with_reducible refine Gr.drewN ?_ _) | (with_reducible refine Gr.setCell ?_ (by simp <;> omega) _) | (with_reducible refine Gr.trans ?_ (by with_reducible assumption)) | exact Gr.refl _ | assumption | refine Gr.alloc ?_ _ | refine Gr.drew ?_ | refine Gr.drewN ?_ _ | refine Gr.setCell ?_ (by simp <;> omega) _ | refine Gr.trans ?_ (by assumption)))⟩
    · rw [if_neg hc]
      have bc : (c == 89) = false := by simp [hc]
      clear hc
      cases bf
      · clear hb3
        go_enter Tryz.func13, Tryz.ntmps13
        go_wp2_with (first | (go_at_call 29; (with_reducible refine (hT _).mono ?_); rintro e w1 ⟨rfl, hb⟩; obtain ⟨hc, hf⟩ := gcells hb (w.heap.size + 2) (by first | exact hz | omega | (simp; done) | (simp; omega)); have hz : w.heap.size + 2 ≤ w1.heap.size := (by have h := hb.size; (try simp at h); omega); have hz0 : w.heap.size < w1.heap.size := (by omega)) | (go_at_call 30; (with_reducible refine (hN _).mono ?_); rintro e w1 ⟨rfl, rfl⟩) | (go_at_call 31; (with_reducible refine (hI1 _).mono ?_); rintro e w1 ⟨rfl, rfl⟩) | (go_at_call 31; (with_reducible refine (hI2 _).mono ?_); rintro e w1 ⟨rfl, rfl⟩) | (go_at_call 26; (with_reducible refine (hW _).mono ?_); rintro e w1 ⟨rfl, rfl⟩))
        go_ret
        exact ⟨rfl, (by repeat (first | (with_reducible exact Gr.refl _) | (with_reducible assumption) | (with_reducible refine Gr.alloc ?_ _) | (with_reducible refine Gr.drew ?_) | (with_reducible refine Gr.drewN ?_ _) | (with_reducible refine Gr.setCell ?_ (by simp <;> omega) _) | (with_reducible refine Gr.trans ?_ (by with_reducible assumption)) | exact Gr.refl _ | assumption | refine Gr.alloc ?_ _ | refine Gr.drew ?_ | refine Gr.drewN ?_ _ | refine Gr.setCell ?_ (by simp <;> omega) _ | refine Gr.trans ?_ (by assumption)))⟩
      · obtain rfl := hb3 rfl
        go_enter Tryz.func13, Tryz.ntmps13
        go_wp2_with (first | (go_at_call 29; (with_reducible refine (hT _).mono ?_); rintro e w1 ⟨rfl, hb⟩; obtain ⟨hc, hf⟩ := gcells hb (w.heap.size + 2) (by first | exact hz | omega | (simp; done) | (simp; omega)); have hz : w.heap.size + 2 ≤ w1.heap.size := (by have h := hb.size; (try simp at h); omega); have hz0 : w.heap.size < w1.heap.size := (by omega)) | (go_at_call 30; (with_reducible refine (hN _).mono ?_); rintro e w1 ⟨rfl, rfl⟩) | (go_at_call 31; (with_reducible refine (hI1 _).mono ?_); rintro e w1 ⟨rfl, rfl⟩) | (go_at_call 31; (with_reducible refine (hI2 _).mono ?_); rintro e w1 ⟨rfl, rfl⟩) | (go_at_call 26; (with_reducible refine (hW _).mono ?_); rintro e w1 ⟨rfl, rfl⟩))
        go_ret
        exact ⟨rfl, (by repeat (first | (with_reducible exact Gr.refl _) | (with_reducible assumption) | (with_reducible refine Gr.alloc ?_ _) | (with_reducible refine Gr.drew ?_) | (with_reducible refine Gr.drewN ?_ _) | (with_reducible refine Gr.setCell ?_ (by simp <;> omega) _) | (with_reducible refine Gr.trans ?_ (by with_reducible assumption)) | exact Gr.refl _ | assumption | refine Gr.alloc ?_ _ | refine Gr.drew ?_ | refine Gr.drewN ?_ _ | refine Gr.setCell ?_ (by simp <;> omega) _ | refine Gr.trans ?_ (by assumption)))⟩
  rcases hf with hf | ⟨hf, hb⟩
  · exact key false (by simp [hf]) (by simp)
  · exact key true (by simp [hf]) (fun _ => hb)
end
theorem refErr_any (k l s f : Int) (c8 : UInt8) (c : Int) (hc : c = c8.toNat) (w : World) :
    Calls Tryz.prog 13 #[.agg #[.int .i64 k, .int .i64 l, .int .i64 s], .agg #[.int .u8 c, .int .i64 f]] w fun e w' => e = .returned (.int .i64 (ckC k l s c8 f)) ∧ Gr w w' := by
  have hT := TypeErr_any k l s
  have hN := IsNumeric_any k
  have hI1 := in_any allL (by decide) c8 c hc
  have hW := Within_any f 0 2
  have hI2 := in_any [49, 50, 51, 52, 65, 66, 67, 68, 74, 75, 76, 77] (by decide) c8 c hc
  have hcode := codeB_all c8
  unfold codeB at hcode
  simp only [Bool.and_eq_true, beq_iff_eq] at hcode
  obtain ⟨⟨⟨⟨⟨⟨⟨⟨⟨q1, -⟩, q3⟩, -⟩, -⟩, -⟩, -⟩, -⟩, -⟩, -⟩ := hcode
  have e1 : hasB allL c8 = decide (0 ≤ Lib.indexByte allL c8) := q1
  have e3 : hasB [49, 50, 51, 52, 65, 66, 67, 68, 74, 75, 76, 77] c8 = gwB c8 := q3
  rw [e1] at hI1
  rw [e3] at hI2
  have eN : withinB k 1 3 = isNum k := by
    unfold withinB isNum
    by_cases h1 : k = 1
    · subst h1; decide
    by_cases h2 : k = 2
    · subst h2; decide
    by_cases h3 : k = 3
    · subst h3; decide
    simp [h1, h2, h3]; omega
  rw [eN] at hN
  have eW : withinB f 0 2 = decide (¬ (f < 0 ∨ 3 ≤ f)) := by
    unfold withinB
    by_cases h : f < 0 ∨ 3 ≤ f
    · simp [h]; omega
    · rw [decide_eq_true (show 0 ≤ f by omega), decide_eq_true (show f ≤ 2 by omega), decide_eq_true h]; rfl
  rw [eW] at hW
  have e89 : (c = 89) = (c8 = 89) := by
    apply propext
    constructor
    · intro h; rw [← UInt8.toNat_inj]; show c8.toNat = 89; omega
    · intro h; subst h; rw [hc]; rfl
  unfold ckC
  by_cases h0 : typeErr k l s = 0
  · cases hn : isNum k
    · have e : ntE k l s = 17 := by unfold ntE; rw [h0, hn]; decide
      rw [if_pos (by rw [e]; decide), e]
      exact refErr_b k l s f c _ hT _ hN h0 hn w
    · have e : ntE k l s = 0 := by unfold ntE; rw [h0, hn]; decide
      rw [if_neg (by rw [e]; decide)]
      by_cases h1 : Lib.indexByte allL c8 < 0
      · rw [if_pos h1]
        exact refErr_c k l s f c _ hT _ hN _ hI1 h0 hn (by simp; omega) w
      · rw [if_neg h1]
        by_cases h2 : f < 0 ∨ 3 ≤ f
        · rw [if_pos h2]
          exact refErr_d k l s f c _ hT _ hN _ hI1 _ hW h0 hn (by simp; omega) (by simp [h2]) w
        · rw [if_neg h2]
          by_cases h3 : f ≠ 0 ∧ gwB c8 = false
          · rw [if_pos h3]
            exact refErr_e k l s f c _ hT _ hN _ hI1 _ hW _ hI2 h0 hn (by simp; omega) (by simp [h2]) h3.1 h3.2 w
          · rw [if_neg h3]
            have h := refErr_f k l s f c _ hT _ hN _ hI1 _ hW _ hI2 h0 hn (by simp; omega) (by simp [h2]) (by
              by_cases g : f = 0
              · exact Or.inl g
              · refine Or.inr ⟨g, ?_⟩
                cases g2 : gwB c8
                · exact absurd ⟨g, g2⟩ h3
                · rfl) w
            simp only [e89] at h
            exact h
  · have e : ntE k l s = typeErr k l s := by unfold ntE; simp [first0, h0]
    rw [if_pos (by rw [e]; exact h0), e]
    exact refErr_a k l s f c _ hT h0 w
end Go.Proofs.YtmdpejllbalnnaaGreatDoor
