/- EditBack: for every data type, value and edit code the law returns true (a value is read back from its text); no condition but that the listed tables are laid, which the card ties to the program's text. -/
import Derived.Test.YtmdpejllbalnnaaGreatDoorQ29
import Derived.Test.YtmdpejllbalnnaaGreatDoorQ30
import Derived.Test.YtmdpejllbalnnaaGreatDoorQ20
import Derived.Test.YtmdpejllbalnnaaGreatDoorQ22
import Derived.Test.YtmdpejllbalnnaaGreatDoorQ01
namespace Go.Proofs.YtmdpejllbalnnaaGreatDoor.lawEditBack
set_option linter.unusedSimpArgs false
set_option linter.unusedVariables false
open Go.Proofs.YtmdpejllbalnnaaGreatDoor
open Go.ChangeShapes Go.WideShapes Go.ChangeAt Go.RowKit Go.Joins Go.Deep

theorem edL_le (D : List UInt8) (W : Nat) (c : UInt8) (n z : Bool) (f : Int) (h : D.length ≤ 15) (h89 : c = 89 → D.length = 4 ∨ D.length = 6 ∨ D.length = 8) : (edL D W c n z f).length ≤ 100 := by
  have hb := body_len D W c n z
  have hs := spT_le D (cmB c) W D.length
  have hh := bh_len c
  have hsup := sup_len D (fz D) (fz_le D)
  unfold edL
  split
  · omega
  split
  · have h4 := h89 (by assumption)
    have hT : (dtT D).length ≤ 60 := by
      unfold dtT
      rw [List.length_append, List.length_append, List.length_append, List.length_take, List.length_take, List.length_drop]
      split
      · simp [List.length_drop]; omega
      · simp; omega
    unfold dtL
    split
    · rw [List.length_cons, List.length_drop]; omega
    · omega
  split
  · omega
  unfold frL
  split
  · split
    · rw [fl_len]; omega
    · rw [List.length_cons]; omega
  · split
    · rw [fl_len]; omega
    · split
      · rw [st_len]; omega
      · omega
section
variable (k l s n c f E : Int) (x T : ByteArray) (hx : x.size ≤ maxLen)
set_option maxHeartbeats 2000000 in
set_option maxRecDepth 100000 in
theorem large (h3 : (300 : Int) < x.size) (w : World) (hw : PW w) :
    Calls Tryz.prog 10 #[.agg #[.int .i64 k, .int .i64 l, .int .i64 s], .agg #[.int .i64 n, .string x], .agg #[.int .u8 c, .int .i64 f]] w fun e w' => e = .returned (.bool true) ∧ Gr w w' := by
  have HW := Lib.hid hw
  clear hw
  have b1 : decide ((300 : Int) < (x.size : Int)) = true := by simp; omega
  clear h3
  go_enter Tryz.func10, Tryz.ntmps10
  go_wp2_with ((go_at_call 11; (with_reducible refine (awake_any _ (HW.out.gr (by repeat (first | (with_reducible exact Gr.refl _) | (with_reducible assumption) | (with_reducible refine Gr.alloc ?_ _) | (with_reducible refine Gr.drew ?_) | (with_reducible refine Gr.drewN ?_ _) | (with_reducible refine Gr.setCell ?_ (by simp <;> omega) _) | (with_reducible refine Gr.trans ?_ (by with_reducible assumption)) | exact Gr.refl _ | assumption | refine Gr.alloc ?_ _ | refine Gr.drew ?_ | refine Gr.drewN ?_ _ | refine Gr.setCell ?_ (by simp <;> omega) _ | refine Gr.trans ?_ (by assumption))))).mono ?_); rintro e w1 ⟨rfl, hb⟩; obtain ⟨hc, hf⟩ := gcells hb (w.heap.size + 3) (by first | exact hz | omega | (simp; done) | (simp; omega)); have hz : w.heap.size + 3 ≤ w1.heap.size := (by have h := hb.size; (try simp at h); omega); have hz0 : w.heap.size < w1.heap.size := (by omega)); have hz1 : w.heap.size + 1 < w1.heap.size := (by omega); have hz2 : w.heap.size + 2 < w1.heap.size := (by omega))
  go_ret
  exact ⟨rfl, (by repeat (first | (with_reducible exact Gr.refl _) | (with_reducible assumption) | (with_reducible refine Gr.alloc ?_ _) | (with_reducible refine Gr.drew ?_) | (with_reducible refine Gr.drewN ?_ _) | (with_reducible refine Gr.setCell ?_ (by simp <;> omega) _) | (with_reducible refine Gr.trans ?_ (by with_reducible assumption)) | exact Gr.refl _ | assumption | refine Gr.alloc ?_ _ | refine Gr.drew ?_ | refine Gr.drewN ?_ _ | refine Gr.setCell ?_ (by simp <;> omega) _ | refine Gr.trans ?_ (by assumption)))⟩
include hx
variable (h3 : ¬ (300 : Int) < x.size)
  (h1 : ∀ w, TabW w → Calls Tryz.prog 15 #[.agg #[.int .i64 k, .int .i64 l, .int .i64 s], .agg #[.int .i64 n, .string x], .agg #[.int .u8 c, .int .i64 f]] w (EdR T E w))
include h3 h1
set_option maxHeartbeats 2000000 in
set_option maxRecDepth 100000 in
theorem core_no (hE : E ≠ 0) (w : World) (hw : PW w) :
    Calls Tryz.prog 10 #[.agg #[.int .i64 k, .int .i64 l, .int .i64 s], .agg #[.int .i64 n, .string x], .agg #[.int .u8 c, .int .i64 f]] w fun e w' => e = .returned (.bool true) ∧ Gr w w' := by
  unfold maxLen at hx
  have HW := Lib.hid hw
  clear hw
  have b1 : decide ((300 : Int) < (x.size : Int)) = false := by simp; omega
  have bE : (E != 0) = true := by simp [hE]
  clear h3 hE
  go_enter Tryz.func10, Tryz.ntmps10
  go_wp2_with (first | ((go_at_call 11; (with_reducible refine (awake_any _ (HW.out.gr (by repeat (first | (with_reducible exact Gr.refl _) | (with_reducible assumption) | (with_reducible refine Gr.alloc ?_ _) | (with_reducible refine Gr.drew ?_) | (with_reducible refine Gr.drewN ?_ _) | (with_reducible refine Gr.setCell ?_ (by simp <;> omega) _) | (with_reducible refine Gr.trans ?_ (by with_reducible assumption)) | exact Gr.refl _ | assumption | refine Gr.alloc ?_ _ | refine Gr.drew ?_ | refine Gr.drewN ?_ _ | refine Gr.setCell ?_ (by simp <;> omega) _ | refine Gr.trans ?_ (by assumption))))).mono ?_); rintro e wa ⟨rfl, wah⟩; obtain ⟨wac, waf⟩ := wah.cells; have was := wah.size; (try simp at was); have waz : w.heap.size < wa.heap.size := (by omega)); have hz1 : w.heap.size + 1 < wa.heap.size := (by omega); have hz2 : w.heap.size + 2 < wa.heap.size := (by omega)) | ((go_at_call 15; (with_reducible refine (h1 _ (HW.out.gr (by repeat (first | (with_reducible exact Gr.refl _) | (with_reducible assumption) | (with_reducible refine Gr.alloc ?_ _) | (with_reducible refine Gr.drew ?_) | (with_reducible refine Gr.drewN ?_ _) | (with_reducible refine Gr.setCell ?_ (by simp <;> omega) _) | (with_reducible refine Gr.trans ?_ (by with_reducible assumption)) | exact Gr.refl _ | assumption | refine Gr.alloc ?_ _ | refine Gr.drew ?_ | refine Gr.drewN ?_ _ | refine Gr.setCell ?_ (by simp <;> omega) _ | refine Gr.trans ?_ (by assumption)))).tab).mono ?_); rintro e wb ⟨rfl, wbh⟩; obtain ⟨wbc, wbf⟩ := wbh.cells; have wbs := wbh.size; (try simp at wbs); have wbz : w.heap.size < wb.heap.size := (by omega)); have hz3 : w.heap.size + 1 < wb.heap.size := (by omega); have hz4 : w.heap.size + 2 < wb.heap.size := (by omega)))
  go_ret
  exact ⟨rfl, (by repeat (first | (with_reducible exact Gr.refl _) | (with_reducible assumption) | (with_reducible refine Gr.alloc ?_ _) | (with_reducible refine Gr.drew ?_) | (with_reducible refine Gr.drewN ?_ _) | (with_reducible refine Gr.setCell ?_ (by simp <;> omega) _) | (with_reducible refine Gr.trans ?_ (by with_reducible assumption)) | exact Gr.refl _ | assumption | refine Gr.alloc ?_ _ | refine Gr.drew ?_ | refine Gr.drewN ?_ _ | refine Gr.setCell ?_ (by simp <;> omega) _ | refine Gr.trans ?_ (by assumption)))⟩
variable (hE : E = 0) (b2 b3 : Bool)
  (h4 : ∀ w, Calls Tryz.prog 26 #[.int .i64 c, .int .i64 49, .int .i64 52] w fun e w' => e = .returned (.bool b2) ∧ w = w')
  (h5 : ∀ w, Calls Tryz.prog 26 #[.int .i64 c, .int .i64 88, .int .i64 90] w fun e w' => e = .returned (.bool b3) ∧ w = w')
  (hc0 : 0 ≤ c) (hc1 : c ≤ 255)
include hE h4 h5 hc0 hc1
set_option maxHeartbeats 4000000 in
set_option maxRecDepth 100000 in
theorem core_sgn (hn : n < 0) (hb : (b2 || b3) = true) (w : World) (hw : PW w) :
    Calls Tryz.prog 10 #[.agg #[.int .i64 k, .int .i64 l, .int .i64 s], .agg #[.int .i64 n, .string x], .agg #[.int .u8 c, .int .i64 f]] w fun e w' => e = .returned (.bool true) ∧ Gr w w' := by
  unfold maxLen at hx
  have HW := Lib.hid hw
  clear hw
  have b1 : decide ((300 : Int) < (x.size : Int)) = false := by simp; omega
  have bn : decide (n < 0) = true := by simp; omega
  have bE : (E != 0) = false := by simp [hE]
  have hw1 : IntKind.i64.wrap c = c := IntWalk.i64_in _ (by omega)
  clear h3 hn
  subst hE
  cases b2
  · obtain rfl : b3 = true := by simpa using hb
    clear hb
    go_enter Tryz.func10, Tryz.ntmps10
    go_wp2_with (first | ((go_at_call 11; (with_reducible refine (awake_any _ (HW.out.gr (by repeat (first | (with_reducible exact Gr.refl _) | (with_reducible assumption) | (with_reducible refine Gr.alloc ?_ _) | (with_reducible refine Gr.drew ?_) | (with_reducible refine Gr.drewN ?_ _) | (with_reducible refine Gr.setCell ?_ (by simp <;> omega) _) | (with_reducible refine Gr.trans ?_ (by with_reducible assumption)) | exact Gr.refl _ | assumption | refine Gr.alloc ?_ _ | refine Gr.drew ?_ | refine Gr.drewN ?_ _ | refine Gr.setCell ?_ (by simp <;> omega) _ | refine Gr.trans ?_ (by assumption))))).mono ?_); rintro e wa ⟨rfl, wah⟩; obtain ⟨wac, waf⟩ := wah.cells; have was := wah.size; (try simp at was); have waz : w.heap.size < wa.heap.size := (by omega)); have hz1 : w.heap.size + 1 < wa.heap.size := (by omega); have hz2 : w.heap.size + 2 < wa.heap.size := (by omega)) | ((go_at_call 15; (with_reducible refine (h1 _ (HW.out.gr (by repeat (first | (with_reducible exact Gr.refl _) | (with_reducible assumption) | (with_reducible refine Gr.alloc ?_ _) | (with_reducible refine Gr.drew ?_) | (with_reducible refine Gr.drewN ?_ _) | (with_reducible refine Gr.setCell ?_ (by simp <;> omega) _) | (with_reducible refine Gr.trans ?_ (by with_reducible assumption)) | exact Gr.refl _ | assumption | refine Gr.alloc ?_ _ | refine Gr.drew ?_ | refine Gr.drewN ?_ _ | refine Gr.setCell ?_ (by simp <;> omega) _ | refine Gr.trans ?_ (by assumption)))).tab).mono ?_); rintro e wb ⟨rfl, wbh⟩; obtain ⟨wbc, wbf⟩ := wbh.cells; have wbs := wbh.size; (try simp at wbs); have wbz : w.heap.size < wb.heap.size := (by omega)); have hz3 : w.heap.size + 1 < wb.heap.size := (by omega); have hz4 : w.heap.size + 2 < wb.heap.size := (by omega)) | (go_at_call 26; (with_reducible refine (h4 _).mono ?_); rintro e w1 ⟨rfl, rfl⟩) | (go_at_call 26; (with_reducible refine (h5 _).mono ?_); rintro e w1 ⟨rfl, rfl⟩))
    go_ret
    exact ⟨rfl, (by repeat (first | (with_reducible exact Gr.refl _) | (with_reducible assumption) | (with_reducible refine Gr.alloc ?_ _) | (with_reducible refine Gr.drew ?_) | (with_reducible refine Gr.drewN ?_ _) | (with_reducible refine Gr.setCell ?_ (by simp <;> omega) _) | (with_reducible refine Gr.trans ?_ (by with_reducible assumption)) | exact Gr.refl _ | assumption | refine Gr.alloc ?_ _ | refine Gr.drew ?_ | refine Gr.drewN ?_ _ | refine Gr.setCell ?_ (by simp <;> omega) _ | refine Gr.trans ?_ (by assumption)))⟩
  · clear hb h5
    go_enter Tryz.func10, Tryz.ntmps10
    go_wp2_with (first | ((go_at_call 11; (with_reducible refine (awake_any _ (HW.out.gr (by repeat (first | (with_reducible exact Gr.refl _) | (with_reducible assumption) | (with_reducible refine Gr.alloc ?_ _) | (with_reducible refine Gr.drew ?_) | (with_reducible refine Gr.drewN ?_ _) | (with_reducible refine Gr.setCell ?_ (by simp <;> omega) _) | (with_reducible refine Gr.trans ?_ (by with_reducible assumption)) | exact Gr.refl _ | assumption | refine Gr.alloc ?_ _ | refine Gr.drew ?_ | refine Gr.drewN ?_ _ | refine Gr.setCell ?_ (by simp <;> omega) _ | refine Gr.trans ?_ (by assumption))))).mono ?_); rintro e wa ⟨rfl, wah⟩; obtain ⟨wac, waf⟩ := wah.cells; have was := wah.size; (try simp at was); have waz : w.heap.size < wa.heap.size := (by omega)); have hz1 : w.heap.size + 1 < wa.heap.size := (by omega); have hz2 : w.heap.size + 2 < wa.heap.size := (by omega)) | ((go_at_call 15; (with_reducible refine (h1 _ (HW.out.gr (by repeat (first | (with_reducible exact Gr.refl _) | (with_reducible assumption) | (with_reducible refine Gr.alloc ?_ _) | (with_reducible refine Gr.drew ?_) | (with_reducible refine Gr.drewN ?_ _) | (with_reducible refine Gr.setCell ?_ (by simp <;> omega) _) | (with_reducible refine Gr.trans ?_ (by with_reducible assumption)) | exact Gr.refl _ | assumption | refine Gr.alloc ?_ _ | refine Gr.drew ?_ | refine Gr.drewN ?_ _ | refine Gr.setCell ?_ (by simp <;> omega) _ | refine Gr.trans ?_ (by assumption)))).tab).mono ?_); rintro e wb ⟨rfl, wbh⟩; obtain ⟨wbc, wbf⟩ := wbh.cells; have wbs := wbh.size; (try simp at wbs); have wbz : w.heap.size < wb.heap.size := (by omega)); have hz3 : w.heap.size + 1 < wb.heap.size := (by omega); have hz4 : w.heap.size + 2 < wb.heap.size := (by omega)) | (go_at_call 26; (with_reducible refine (h4 _).mono ?_); rintro e w1 ⟨rfl, rfl⟩))
    go_ret
    exact ⟨rfl, (by repeat (first | (with_reducible exact Gr.refl _) | (with_reducible assumption) | (with_reducible refine Gr.alloc ?_ _) | (with_reducible refine Gr.drew ?_) | (with_reducible refine Gr.drewN ?_ _) | (with_reducible refine Gr.setCell ?_ (by simp <;> omega) _) | (with_reducible refine Gr.trans ?_ (by with_reducible assumption)) | exact Gr.refl _ | assumption | refine Gr.alloc ?_ _ | refine Gr.drew ?_ | refine Gr.drewN ?_ _ | refine Gr.setCell ?_ (by simp <;> omega) _ | refine Gr.trans ?_ (by assumption)))⟩
set_option maxHeartbeats 4000000 in
set_option maxRecDepth 100000 in
theorem core_yes (hn : n < 0 → (b2 || b3) = false) (hx0 : x.size = 0)
    (h2 : ∀ w, TabW w → Calls Tryz.prog 17 #[.agg #[.int .i64 k, .int .i64 l, .int .i64 s], .string T, .agg #[.int .u8 c, .int .i64 f]] w (UnR n 0 w)) (w : World) (hw : PW w) :
    Calls Tryz.prog 10 #[.agg #[.int .i64 k, .int .i64 l, .int .i64 s], .agg #[.int .i64 n, .string x], .agg #[.int .u8 c, .int .i64 f]] w fun e w' => e = .returned (.bool true) ∧ Gr w w' := by
  obtain rfl : x = ⟨#[]⟩ := BL_ext (by
    have hl : x.data.toList.length = x.size := Array.length_toList
    rw [hx0] at hl
    rw [List.eq_nil_of_length_eq_zero hl])
  have heq := eq_vals n
  have HW := Lib.hid hw
  clear hw
  have b1 : decide ((300 : Int) < ((⟨#[]⟩ : ByteArray).size : Int)) = false := by simp; omega
  have bE : (E != 0) = false := by simp [hE]
  have hw1 : IntKind.i64.wrap c = c := IntWalk.i64_in _ (by omega)
  clear h3 hx hx0
  subst hE
  by_cases hn0 : n < 0
  · obtain ⟨rfl, rfl⟩ : b2 = false ∧ b3 = false := by simpa using hn hn0
    have bn : decide (n < 0) = true := by simp; omega
    clear hn hn0
    go_enter Tryz.func10, Tryz.ntmps10
    go_wp2_with (first | ((go_at_call 11; (with_reducible refine (awake_any _ (HW.out.gr (by repeat (first | (with_reducible exact Gr.refl _) | (with_reducible assumption) | (with_reducible refine Gr.alloc ?_ _) | (with_reducible refine Gr.drew ?_) | (with_reducible refine Gr.drewN ?_ _) | (with_reducible refine Gr.setCell ?_ (by simp <;> omega) _) | (with_reducible refine Gr.trans ?_ (by with_reducible assumption)) | exact Gr.refl _ | assumption | refine Gr.alloc ?_ _ | refine Gr.drew ?_ | refine Gr.drewN ?_ _ | refine Gr.setCell ?_ (by simp <;> omega) _ | refine Gr.trans ?_ (by assumption))))).mono ?_); rintro e wa ⟨rfl, wah⟩; obtain ⟨wac, waf⟩ := wah.cells; have was := wah.size; (try simp at was); have waz : w.heap.size < wa.heap.size := (by omega)); have hz1 : w.heap.size + 1 < wa.heap.size := (by omega); have hz2 : w.heap.size + 2 < wa.heap.size := (by omega)) | ((go_at_call 15; (with_reducible refine (h1 _ (HW.out.gr (by repeat (first | (with_reducible exact Gr.refl _) | (with_reducible assumption) | (with_reducible refine Gr.alloc ?_ _) | (with_reducible refine Gr.drew ?_) | (with_reducible refine Gr.drewN ?_ _) | (with_reducible refine Gr.setCell ?_ (by simp <;> omega) _) | (with_reducible refine Gr.trans ?_ (by with_reducible assumption)) | exact Gr.refl _ | assumption | refine Gr.alloc ?_ _ | refine Gr.drew ?_ | refine Gr.drewN ?_ _ | refine Gr.setCell ?_ (by simp <;> omega) _ | refine Gr.trans ?_ (by assumption)))).tab).mono ?_); rintro e wb ⟨rfl, wbh⟩; obtain ⟨wbc, wbf⟩ := wbh.cells; have wbs := wbh.size; (try simp at wbs); have wbz : w.heap.size < wb.heap.size := (by omega)); have hz3 : w.heap.size + 1 < wb.heap.size := (by omega); have hz4 : w.heap.size + 2 < wb.heap.size := (by omega)) | ((go_at_call 17; (with_reducible refine (h2 _ (HW.out.gr (by repeat (first | (with_reducible exact Gr.refl _) | (with_reducible assumption) | (with_reducible refine Gr.alloc ?_ _) | (with_reducible refine Gr.drew ?_) | (with_reducible refine Gr.drewN ?_ _) | (with_reducible refine Gr.setCell ?_ (by simp <;> omega) _) | (with_reducible refine Gr.trans ?_ (by with_reducible assumption)) | exact Gr.refl _ | assumption | refine Gr.alloc ?_ _ | refine Gr.drew ?_ | refine Gr.drewN ?_ _ | refine Gr.setCell ?_ (by simp <;> omega) _ | refine Gr.trans ?_ (by assumption)))).tab).mono ?_); rintro e wc ⟨rfl, wch⟩; obtain ⟨wcc, wcf⟩ := wch.cells; have wcs := wch.size; (try simp at wcs); have wcz : w.heap.size < wc.heap.size := (by omega)); have hz5 : w.heap.size + 1 < wc.heap.size := (by omega); have hz6 : w.heap.size + 2 < wc.heap.size := (by omega)) | (go_at_call 26; (with_reducible refine (h4 _).mono ?_); rintro e w1 ⟨rfl, rfl⟩) | (go_at_call 26; (with_reducible refine (h5 _).mono ?_); rintro e w1 ⟨rfl, rfl⟩))
    go_ret
    exact ⟨rfl, (by repeat (first | (with_reducible exact Gr.refl _) | (with_reducible assumption) | (with_reducible refine Gr.alloc ?_ _) | (with_reducible refine Gr.drew ?_) | (with_reducible refine Gr.drewN ?_ _) | (with_reducible refine Gr.setCell ?_ (by simp <;> omega) _) | (with_reducible refine Gr.trans ?_ (by with_reducible assumption)) | exact Gr.refl _ | assumption | refine Gr.alloc ?_ _ | refine Gr.drew ?_ | refine Gr.drewN ?_ _ | refine Gr.setCell ?_ (by simp <;> omega) _ | refine Gr.trans ?_ (by assumption)))⟩
  · have bn : decide (n < 0) = false := by simp; omega
    clear hn hn0 h4 h5
    go_enter Tryz.func10, Tryz.ntmps10
    go_wp2_with (first | ((go_at_call 11; (with_reducible refine (awake_any _ (HW.out.gr (by repeat (first | (with_reducible exact Gr.refl _) | (with_reducible assumption) | (with_reducible refine Gr.alloc ?_ _) | (with_reducible refine Gr.drew ?_) | (with_reducible refine Gr.drewN ?_ _) | (with_reducible refine Gr.setCell ?_ (by simp <;> omega) _) | (with_reducible refine Gr.trans ?_ (by with_reducible assumption)) | exact Gr.refl _ | assumption | refine Gr.alloc ?_ _ | refine Gr.drew ?_ | refine Gr.drewN ?_ _ | refine Gr.setCell ?_ (by simp <;> omega) _ | refine Gr.trans ?_ (by assumption))))).mono ?_); rintro e wa ⟨rfl, wah⟩; obtain ⟨wac, waf⟩ := wah.cells; have was := wah.size; (try simp at was); have waz : w.heap.size < wa.heap.size := (by omega)); have hz1 : w.heap.size + 1 < wa.heap.size := (by omega); have hz2 : w.heap.size + 2 < wa.heap.size := (by omega)) | ((go_at_call 15; (with_reducible refine (h1 _ (HW.out.gr (by repeat (first | (with_reducible exact Gr.refl _) | (with_reducible assumption) | (with_reducible refine Gr.alloc ?_ _) | (with_reducible refine Gr.drew ?_) | (with_reducible refine Gr.drewN ?_ _) | (with_reducible refine Gr.setCell ?_ (by simp <;> omega) _) | (with_reducible refine Gr.trans ?_ (by with_reducible assumption)) | exact Gr.refl _ | assumption | refine Gr.alloc ?_ _ | refine Gr.drew ?_ | refine Gr.drewN ?_ _ | refine Gr.setCell ?_ (by simp <;> omega) _ | refine Gr.trans ?_ (by assumption)))).tab).mono ?_); rintro e wb ⟨rfl, wbh⟩; obtain ⟨wbc, wbf⟩ := wbh.cells; have wbs := wbh.size; (try simp at wbs); have wbz : w.heap.size < wb.heap.size := (by omega)); have hz3 : w.heap.size + 1 < wb.heap.size := (by omega); have hz4 : w.heap.size + 2 < wb.heap.size := (by omega)) | ((go_at_call 17; (with_reducible refine (h2 _ (HW.out.gr (by repeat (first | (with_reducible exact Gr.refl _) | (with_reducible assumption) | (with_reducible refine Gr.alloc ?_ _) | (with_reducible refine Gr.drew ?_) | (with_reducible refine Gr.drewN ?_ _) | (with_reducible refine Gr.setCell ?_ (by simp <;> omega) _) | (with_reducible refine Gr.trans ?_ (by with_reducible assumption)) | exact Gr.refl _ | assumption | refine Gr.alloc ?_ _ | refine Gr.drew ?_ | refine Gr.drewN ?_ _ | refine Gr.setCell ?_ (by simp <;> omega) _ | refine Gr.trans ?_ (by assumption)))).tab).mono ?_); rintro e wc ⟨rfl, wch⟩; obtain ⟨wcc, wcf⟩ := wch.cells; have wcs := wch.size; (try simp at wcs); have wcz : w.heap.size < wc.heap.size := (by omega)); have hz5 : w.heap.size + 1 < wc.heap.size := (by omega); have hz6 : w.heap.size + 2 < wc.heap.size := (by omega)))
    go_ret
    exact ⟨rfl, (by repeat (first | (with_reducible exact Gr.refl _) | (with_reducible assumption) | (with_reducible refine Gr.alloc ?_ _) | (with_reducible refine Gr.drew ?_) | (with_reducible refine Gr.drewN ?_ _) | (with_reducible refine Gr.setCell ?_ (by simp <;> omega) _) | (with_reducible refine Gr.trans ?_ (by with_reducible assumption)) | exact Gr.refl _ | assumption | refine Gr.alloc ?_ _ | refine Gr.drew ?_ | refine Gr.drewN ?_ _ | refine Gr.setCell ?_ (by simp <;> omega) _ | refine Gr.trans ?_ (by assumption)))⟩
end
theorem law (k l s n : Int) (x : ByteArray) (c8 : UInt8) (f : Int) (w : World) (hx : x.size ≤ maxLen) (hw : PW w) :
    Calls Tryz.prog 10 #[.agg #[.int .i64 k, .int .i64 l, .int .i64 s], .agg #[.int .i64 n, .string x], .agg #[.int .u8 (c8.toNat : Int), .int .i64 f]] w fun e w' => e = .returned (.bool true) ∧ Gr w w' := by
  by_cases h3 : (300 : Int) < x.size
  · exact large k l s n c8.toNat f x h3 w hw
  have h1 := fun w h => Edited_any k l s n f x c8 c8.toNat rfl w h
  have h4 := fun w => Within_any (c8.toNat : Int) 49 52 w
  have h5 := fun w => Within_any (c8.toNat : Int) 88 90 w
  have hlt := c8.toNat_lt
  by_cases hE : edE k l s n x c8 f = 0
  · have hck : ckC k l s c8 f = 0 := by
      unfold edE at hE
      by_cases g : ckC k l s c8 f ≠ 0
      · rw [if_pos g] at hE; exact absurd hE g
      · omega
    have hve : valErr k l s n x = 0 := by
      unfold edE at hE
      rwa [if_neg (by omega)] at hE
    by_cases hg : n < 0 ∧ (withinB (c8.toNat : Int) 49 52 || withinB (c8.toNat : Int) 88 90) = true
    · exact core_sgn k l s n c8.toNat f _ x _ hx h3 h1 hE _ _ h4 h5 (by omega) (by omega) hg.1 hg.2 w hw
    obtain ⟨t1, t2, hcd, f0, f1, hf, h89⟩ := ck_right hck
    obtain ⟨l0, l1, s0, s1, hk⟩ := num_right t1 t2
    obtain ⟨hxs, hfit⟩ := val_fits hve t1 hk
    obtain ⟨d1, d2⟩ := fits_len hfit l0 l1
    have hD := dsL_len l.toNat n.natAbs d1
    have h89' : c8 = 89 → (dsL l.toNat n.natAbs).length = 4 ∨ (dsL l.toNat n.natAbs).length = 6 ∨ (dsL l.toNat n.natAbs).length = 8 := by
      intro e
      have := (h89 e).1
      omega
    have hT : edT k l s n x c8 f = BL (edX l s n c8 f) := by
      unfold edT; rw [if_neg (by omega), if_neg (by omega)]
    have hlen : (edX l s n c8 f).length ≤ 1000 := by
      have := edL_le (dsL l.toNat n.natAbs) (l - s).toNat c8 (decide (n < 0)) (decide (n = 0)) f (by omega) h89'
      unfold edX
      omega
    have hgs : n < 0 → (withinB (c8.toNat : Int) 49 52 || withinB (c8.toNat : Int) 88 90) = false := fun h => by
      cases g : (withinB (c8.toNat : Int) 49 52 || withinB (c8.toNat : Int) 88 90)
      · rfl
      · exact absurd ⟨h, g⟩ hg
    have hsg : n < 0 → sgnB c8 = true := fun h => by
      have g := hgs h
      have e1 : c8 < 49 ↔ c8.toNat < 49 := UInt8.lt_iff_toNat_lt
      have e2 : 52 < c8 ↔ 52 < c8.toNat := UInt8.lt_iff_toNat_lt
      have e3 : c8 < 88 ↔ c8.toNat < 88 := UInt8.lt_iff_toNat_lt
      have e4 : 90 < c8 ↔ 90 < c8.toNat := UInt8.lt_iff_toNat_lt
      unfold sgnB
      simp only [withinB, Bool.or_eq_false_iff, Bool.and_eq_false_iff, decide_eq_false_iff_not] at g
      simp only [Bool.and_eq_true, decide_eq_true_eq, e1, e2, e3, e4]
      omega
    have hu := un_back hck hfit hsg
    have h2 := fun w h => Unedited_any k l s f (edX l s n c8 f) c8 c8.toNat rfl hlen w h
    rw [hu.1, hu.2, ← hT] at h2
    exact core_yes k l s n c8.toNat f _ x _ hx h3 h1 hE _ _ h4 h5 (by omega) (by omega) hgs hxs h2 w hw
  · exact core_no k l s n c8.toNat f _ x _ hx h3 h1 hE w hw

set_option maxRecDepth 100000 in
theorem lifted (os : Os) (started : os.Started) (H : Type) (enc : TypeId × Value → H) :
    ReturnsInHanded {} Tryz.checked os 10 .any (fun w args => (Rows.editBackSpec.pre enc Tryz.prog Tryz.f10 [] false w args ∧ laidMetH Tryz.prog laidL w) ∧ sizedMet enc Tryz.prog Tryz.f10 (OpenSpec.ofChange Rows.editBackSpec) false w args) (Rows.editBackSpec.post enc Tryz.prog Tryz.f10 false true false false) := by
  refine wrap_shaped (C := Tryz.checked) (X := fun w _ => laidMetH Tryz.prog laidL w) (fun _ _ _ hh h => h.of_heap hh) own_knob started (by kernel_rfl) Tryz.func10
    (ChangeSpec.witness_shaped (enc := enc) (C := Tryz.checked) (os := os) (X := fun w _ => laidMetH Tryz.prog laidL w) false (World.laidAll Tryz.prog os laidL) #[.agg #[.int .i64 0, .int .i64 0, .int .i64 0], .agg #[.int .i64 0, .string ⟨#[]⟩], .agg #[.int .u8 0, .int .i64 0]] 8 (World.laidAll_os _ _ _) (shaped_laidAll os _) (by kernel_rfl) (by kernel_rfl) (by kernel_rfl) (met_laidAll os _)) ?_
  intro W base args ds gs before hval0 hW hL hsh
  have hval : ∀ (j : Nat) t v, Tryz.f10.params[j]? = some t → args[j]? = some v → Value.okWide Tryz.prog W .any base t v := hval0
  have hW' := hW
  obtain ⟨p, q, hA0, hV, rfl, hfz, hnd⟩ := hW
  have hA : DataW.TrodAll enc Tryz.prog W 0 (fun _ => true) true Tryz.f10.params.toList args.toList ds p := hA0
  rw [Tryz.params10] at hA hval
  obtain ⟨v0, vs0, d0, ds0, p0, q0, hargs, rfl, rfl, h0, r0⟩ := trodAll_cons hA
  obtain ⟨v1, vs1, d1, ds1, p1, q1, hargs1, rfl, rfl, h1, r1⟩ := trodAll_cons r0
  obtain ⟨v2, vs2, d2, ds2, p2, q2, hargs2, rfl, rfl, h2, r2⟩ := trodAll_cons r1
  obtain ⟨hvz, rfl, rfl⟩ := trodAll_nil r2
  rw [hvz] at hargs2
  rw [hargs2] at hargs1
  rw [hargs1] at hargs
  obtain rfl : args = #[v0, v1, v2] := by cases args; simp_all
  obtain ⟨rfl, rfl⟩ := trodVars_none hV
  obtain ⟨kk, ll, ss, rfl⟩ := open_dtc (hval 0 23 v0 rfl rfl) h0
  obtain ⟨nn, xx, rfl, wx⟩ := open_vlc (hval 1 33 v1 rfl rfl) h1
  obtain ⟨cc, ff, rfl⟩ := open_ecc (hval 2 25 v2 rfl rfl) h2
  refine (law kk ll ss nn xx cc ff W wx (pw_of hL hsh)).mono fun e W' ⟨he, hg⟩ => ?_
  subst he
  have hB : Below W.heap.size W W' := hg
  have hlt := fun x hx => hW'.lt x hx
  have hst := fun (sp' : Nat → Bool) => trodAll_stay laidOut (sp' := sp') (by kernel_rfl) hA0 (fun x hx => hB.same (hlt x (List.mem_append_left _ hx)))
  refine ⟨_, rfl, _, _, _, [], _, [], hW', (trodAll_cons_mk (shut_bool Tryz.underlying4 _) trodAll_mk0), hst _ (fun x hx => by simpa using hlt x (List.mem_append_left _ hx)), rfl, ?_, fun h => by cases h⟩
  exact World.keptBut_mono (fun x hx => ⟨hx, Or.inr (by simpa using hx)⟩) (hB.frame (· ∈ _))

theorem proved : Rows.EditBackSaid :=
  OpenClaim.holds_of_wide 10 Tryz.f10 rfl rfl rfl rfl rfl rfl rfl ⟨rfl, rfl, rfl, rfl, rfl⟩ rfl rfl rfl rfl rfl (by kernel_rfl) Tryz.func10 (by kernel_rfl)
    (of_decide_eq_true (by kernel_rfl)) (by unfold Func.isWrapper; first | (rw [if_pos (by decide +kernel)]; kernel_rfl) | (rw [if_neg (by decide +kernel)]; exact ⟨rfl, rfl⟩))
    (fun os started H enc _ => lifted os started H enc)
#print axioms proved

theorem card : Rows.EditBackCardSaid :=
  Claim7.holds_tied_plain_at .later [] [.data, .data, .data, .data, .pinned] true Rows.editBackCard.stood.harness false
    proved (fun _ h => by cases h) (by kernel_rfl) (fun _ h => by cases h) editBack_row_tie rfl ⟨rfl, rfl⟩ (by kernel_rfl) rfl
    (fun f fn hf hfn => by
      obtain rfl : f = 10 := Option.some.inj ((show Tryz.prog.funcNamed "midrange/midrangelaw02.EditBack" = some 10 by kernel_rfl).symm.trans hf) |>.symm
      obtain rfl : fn = Tryz.f10 := (Option.some.inj (Tryz.func10.symm.trans hfn)).symm
      exact ⟨by kernel_rfl, fun j t ht => by
        rw [Tryz.params10] at ht
        have hm : t ∈ [23, 33, 25] := by simpa using Array.mem_of_getElem? ht
        have hall : ([23, 33, 25].all fun u => !Tryz.prog.wantsStandIn u) = true := by kernel_rfl
        exact (show Tryz.prog.wantsStandIn t = false by simpa using List.all_eq_true.1 hall t hm)⟩)
    (by kernel_rfl)
end Go.Proofs.YtmdpejllbalnnaaGreatDoor.lawEditBack
