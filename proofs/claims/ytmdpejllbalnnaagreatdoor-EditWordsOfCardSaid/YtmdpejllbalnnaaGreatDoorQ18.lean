/- Texts of the walks, merged. -/
import Derived.Test.YtmdpejllbalnnaaGreatDoorQ13
import Derived.Test.YtmdpejllbalnnaaGreatDoorQ17
namespace Go.Proofs.YtmdpejllbalnnaaGreatDoor
set_option linter.unusedSimpArgs false
set_option linter.unusedVariables false
open Go.RowKit

def hwB (l s : Int) (c : UInt8) (f : Int) : Bool := !decide (f = 2) && (gwB c && (if zpB c then decide (s < l) && decide (1 < l) else decide (s = 0) && decide (f = 0)))
def spI (l s : Int) : Int := if s = 0 then l - 2 else l - s - 1
def stC (f : Int) : UInt8 := if f = 1 then 42 else 48
/-- The digits of a word: blanks, and the stop character. -/
def wdB (l s : Int) (c : UInt8) (f : Int) : List UInt8 := if zpB c then (List.replicate l.toNat 32).set (spI l s).toNat (stC f) else List.replicate l.toNat 32
def wdL (l s : Int) (c : UInt8) (f : Int) : List UInt8 := spT (wdB l s c f) (cmB c) (l - s).toNat l.toNat ++ bhL c
def wdT (k l s : Int) (c : UInt8) (f : Int) : ByteArray := if ckC k l s c f ≠ 0 then ⟨#[]⟩ else if hwB l s c f = false then ⟨#[]⟩ else BL (wdL l s c f)
def wdE (k l s : Int) (c : UInt8) (f : Int) : Int := if ckC k l s c f ≠ 0 then ckC k l s c f else if hwB l s c f = false then 39 else 0

theorem style1 (a b c : Bool) (x : ByteArray) (w : World) : (Instr.field 78 (.agg #[.bool a, .bool b, .bool c, .string x]) 1).run Tryz.prog w = .ok (.bool b) w := by
  kernel_rfl
/-- The style of a code of amounts. -/
theorem style_gw (c8 : UInt8) (c : Int) (hc : c = c8.toNat) (h : gwB c8 = true) (w : World) :
    Calls Tryz.prog 48 #[.int .u8 c] w fun e w' => e = .returned (.agg #[.bool (cmB c8), .bool (zpB c8), .bool false, .string (BL (bhL c8))]) ∧ Gr w w' := by
  have hI := ib_any amL ⟨#[49, 50, 51, 52, 65, 66, 67, 68, 74, 75, 76, 77, 78, 79, 80, 81]⟩ rfl c8 c hc
  have hlt : ixA c8 < 16 := by have h := codeB_all c8; unfold codeB at h; simp only [Bool.and_eq_true, decide_eq_true_eq] at h; exact h.2.2
  unfold gwB at h
  simp only [Bool.and_eq_true, decide_eq_true_eq, Bool.not_eq_true', decide_eq_false_iff_not] at h
  have hS := styleOf_core c (ixA c8) h.1 hlt hI w
  unfold stV at hS
  rw [decide_eq_false h.2] at hS
  exact hS
set_option maxHeartbeats 2000000 in
theorem hasWord_any (k l s f : Int) (c8 : UInt8) (c : Int) (hc : c = c8.toNat) (w : World) :
    Calls Tryz.prog 47 #[.agg #[.int .i64 k, .int .i64 l, .int .i64 s], .agg #[.int .u8 c, .int .i64 f]] w fun e w' => e = .returned (.bool (hwB l s c8 f)) ∧ Gr w w' := by
  have hG := goesWithFill_any c8 c hc
  have hS := fun h => style_gw c8 c hc h
  have hF := fun a b c x w => style1 a b c x w
  clear hc
  obtain ⟨r, hr⟩ : ∃ r, hwB l s c8 f = r := ⟨_, rfl⟩
  rw [hr]
  unfold hwB at hr
  generalize gwB c8 = g at *
  generalize zpB c8 = z at *
  generalize cmB c8 = cmm at *
  generalize BL (bhL c8) = B at *
  by_cases h2 : f = 2
  · obtain rfl : r = false := by rw [← hr]; simp [h2]
    have b2 : (f == 2) = true := by simp [h2]
    clear hr h2 hS
    go_enter Tryz.func47, Tryz.ntmps47
    go_wp2_with fail
    go_ret
    exact ⟨rfl, (by repeat (first | (with_reducible exact Gr.refl _) | (with_reducible assumption) | (with_reducible refine Gr.alloc ?_ _) | (with_reducible refine Gr.drew ?_) | (with_reducible refine Gr.drewN ?_ _) | (with_reducible refine Gr.setCell ?_ (by simp <;> omega) _) | (with_reducible refine Gr.trans ?_ (by with_reducible assumption)) | exact Gr.refl _ | assumption | refine Gr.alloc ?_ _ | refine Gr.drew ?_ | refine Gr.drewN ?_ _ | refine Gr.setCell ?_ (by simp <;> omega) _ | refine Gr.trans ?_ (by assumption)))⟩
  · have b2 : (f == 2) = false := by simp [h2]
    cases g
    · obtain rfl : r = false := by rw [← hr]; simp
      clear hr h2 hS
      go_enter Tryz.func47, Tryz.ntmps47
      go_wp2_with ((go_at_call 58; (with_reducible refine (hG _).mono ?_); rintro e w1 ⟨rfl, w1h⟩; obtain ⟨w1c, w1f⟩ := w1h.cells; have w1s := w1h.size; (try simp at w1s); have w1z : w.heap.size < w1.heap.size := (by omega)); have hz1 : w.heap.size + 1 < w1.heap.size := (by omega))
      go_ret
      exact ⟨rfl, (by repeat (first | (with_reducible exact Gr.refl _) | (with_reducible assumption) | (with_reducible refine Gr.alloc ?_ _) | (with_reducible refine Gr.drew ?_) | (with_reducible refine Gr.drewN ?_ _) | (with_reducible refine Gr.setCell ?_ (by simp <;> omega) _) | (with_reducible refine Gr.trans ?_ (by with_reducible assumption)) | exact Gr.refl _ | assumption | refine Gr.alloc ?_ _ | refine Gr.drew ?_ | refine Gr.drewN ?_ _ | refine Gr.setCell ?_ (by simp <;> omega) _ | refine Gr.trans ?_ (by assumption)))⟩
    · replace hS := hS rfl
      cases z
      · by_cases h3 : s = 0
        · have b3 : (s == 0) = true := by simp [h3]
          by_cases h4 : f = 0
          · obtain rfl : r = true := by rw [← hr]; simp [h2, h3, h4]
            have b4 : (f == 0) = true := by simp [h4]
            clear hr h2 h3 h4
            go_enter Tryz.func47, Tryz.ntmps47
            go_wp2_with (first | ((go_at_call 58; (with_reducible refine (hG _).mono ?_); rintro e w1 ⟨rfl, w1h⟩; obtain ⟨w1c, w1f⟩ := w1h.cells; have w1s := w1h.size; (try simp at w1s); have w1z : w.heap.size < w1.heap.size := (by omega)); have hz1 : w.heap.size + 1 < w1.heap.size := (by omega)) | ((go_at_call 48; (with_reducible refine (hS _).mono ?_); rintro e w2 ⟨rfl, w2h⟩; obtain ⟨w2c, w2f⟩ := w2h.cells; have w2s := w2h.size; (try simp at w2s); have w2z : w.heap.size < w2.heap.size := (by omega)); have hz2 : w.heap.size + 1 < w2.heap.size := (by omega)))
            go_ret
            exact ⟨rfl, (by repeat (first | (with_reducible exact Gr.refl _) | (with_reducible assumption) | (with_reducible refine Gr.alloc ?_ _) | (with_reducible refine Gr.drew ?_) | (with_reducible refine Gr.drewN ?_ _) | (with_reducible refine Gr.setCell ?_ (by simp <;> omega) _) | (with_reducible refine Gr.trans ?_ (by with_reducible assumption)) | exact Gr.refl _ | assumption | refine Gr.alloc ?_ _ | refine Gr.drew ?_ | refine Gr.drewN ?_ _ | refine Gr.setCell ?_ (by simp <;> omega) _ | refine Gr.trans ?_ (by assumption)))⟩
          · obtain rfl : r = false := by rw [← hr]; simp [h4]
            have b4 : (f == 0) = false := by simp [h4]
            clear hr h2 h3 h4
            go_enter Tryz.func47, Tryz.ntmps47
            go_wp2_with (first | ((go_at_call 58; (with_reducible refine (hG _).mono ?_); rintro e w1 ⟨rfl, w1h⟩; obtain ⟨w1c, w1f⟩ := w1h.cells; have w1s := w1h.size; (try simp at w1s); have w1z : w.heap.size < w1.heap.size := (by omega)); have hz1 : w.heap.size + 1 < w1.heap.size := (by omega)) | ((go_at_call 48; (with_reducible refine (hS _).mono ?_); rintro e w2 ⟨rfl, w2h⟩; obtain ⟨w2c, w2f⟩ := w2h.cells; have w2s := w2h.size; (try simp at w2s); have w2z : w.heap.size < w2.heap.size := (by omega)); have hz2 : w.heap.size + 1 < w2.heap.size := (by omega)))
            go_ret
            exact ⟨rfl, (by repeat (first | (with_reducible exact Gr.refl _) | (with_reducible assumption) | (with_reducible refine Gr.alloc ?_ _) | (with_reducible refine Gr.drew ?_) | (with_reducible refine Gr.drewN ?_ _) | (with_reducible refine Gr.setCell ?_ (by simp <;> omega) _) | (with_reducible refine Gr.trans ?_ (by with_reducible assumption)) | exact Gr.refl _ | assumption | refine Gr.alloc ?_ _ | refine Gr.drew ?_ | refine Gr.drewN ?_ _ | refine Gr.setCell ?_ (by simp <;> omega) _ | refine Gr.trans ?_ (by assumption)))⟩
        · have b3 : (s == 0) = false := by simp [h3]
          obtain rfl : r = false := by rw [← hr]; simp [h3]
          clear hr h2 h3
          go_enter Tryz.func47, Tryz.ntmps47
          go_wp2_with (first | ((go_at_call 58; (with_reducible refine (hG _).mono ?_); rintro e w1 ⟨rfl, w1h⟩; obtain ⟨w1c, w1f⟩ := w1h.cells; have w1s := w1h.size; (try simp at w1s); have w1z : w.heap.size < w1.heap.size := (by omega)); have hz1 : w.heap.size + 1 < w1.heap.size := (by omega)) | ((go_at_call 48; (with_reducible refine (hS _).mono ?_); rintro e w2 ⟨rfl, w2h⟩; obtain ⟨w2c, w2f⟩ := w2h.cells; have w2s := w2h.size; (try simp at w2s); have w2z : w.heap.size < w2.heap.size := (by omega)); have hz2 : w.heap.size + 1 < w2.heap.size := (by omega)))
          go_ret
          exact ⟨rfl, (by repeat (first | (with_reducible exact Gr.refl _) | (with_reducible assumption) | (with_reducible refine Gr.alloc ?_ _) | (with_reducible refine Gr.drew ?_) | (with_reducible refine Gr.drewN ?_ _) | (with_reducible refine Gr.setCell ?_ (by simp <;> omega) _) | (with_reducible refine Gr.trans ?_ (by with_reducible assumption)) | exact Gr.refl _ | assumption | refine Gr.alloc ?_ _ | refine Gr.drew ?_ | refine Gr.drewN ?_ _ | refine Gr.setCell ?_ (by simp <;> omega) _ | refine Gr.trans ?_ (by assumption)))⟩
      · by_cases h3 : s < l
        · have b3 : decide (s < l) = true := by simp [h3]
          by_cases h4 : 1 < l
          · obtain rfl : r = true := by rw [← hr]; simp [h2, h3, h4]
            have b4 : decide (1 < l) = true := by simp [h4]
            clear hr h2 h3 h4
            go_enter Tryz.func47, Tryz.ntmps47
            go_wp2_with (first | ((go_at_call 58; (with_reducible refine (hG _).mono ?_); rintro e w1 ⟨rfl, w1h⟩; obtain ⟨w1c, w1f⟩ := w1h.cells; have w1s := w1h.size; (try simp at w1s); have w1z : w.heap.size < w1.heap.size := (by omega)); have hz1 : w.heap.size + 1 < w1.heap.size := (by omega)) | ((go_at_call 48; (with_reducible refine (hS _).mono ?_); rintro e w2 ⟨rfl, w2h⟩; obtain ⟨w2c, w2f⟩ := w2h.cells; have w2s := w2h.size; (try simp at w2s); have w2z : w.heap.size < w2.heap.size := (by omega)); have hz2 : w.heap.size + 1 < w2.heap.size := (by omega)))
            go_ret
            exact ⟨rfl, (by repeat (first | (with_reducible exact Gr.refl _) | (with_reducible assumption) | (with_reducible refine Gr.alloc ?_ _) | (with_reducible refine Gr.drew ?_) | (with_reducible refine Gr.drewN ?_ _) | (with_reducible refine Gr.setCell ?_ (by simp <;> omega) _) | (with_reducible refine Gr.trans ?_ (by with_reducible assumption)) | exact Gr.refl _ | assumption | refine Gr.alloc ?_ _ | refine Gr.drew ?_ | refine Gr.drewN ?_ _ | refine Gr.setCell ?_ (by simp <;> omega) _ | refine Gr.trans ?_ (by assumption)))⟩
          · obtain rfl : r = false := by rw [← hr]; simp [h4]
            have b4 : decide (1 < l) = false := by simp [h4]
            clear hr h2 h3 h4
            go_enter Tryz.func47, Tryz.ntmps47
            go_wp2_with (first | ((go_at_call 58; (with_reducible refine (hG _).mono ?_); rintro e w1 ⟨rfl, w1h⟩; obtain ⟨w1c, w1f⟩ := w1h.cells; have w1s := w1h.size; (try simp at w1s); have w1z : w.heap.size < w1.heap.size := (by omega)); have hz1 : w.heap.size + 1 < w1.heap.size := (by omega)) | ((go_at_call 48; (with_reducible refine (hS _).mono ?_); rintro e w2 ⟨rfl, w2h⟩; obtain ⟨w2c, w2f⟩ := w2h.cells; have w2s := w2h.size; (try simp at w2s); have w2z : w.heap.size < w2.heap.size := (by omega)); have hz2 : w.heap.size + 1 < w2.heap.size := (by omega)))
            go_ret
            exact ⟨rfl, (by repeat (first | (with_reducible exact Gr.refl _) | (with_reducible assumption) | (with_reducible refine Gr.alloc ?_ _) | (with_reducible refine Gr.drew ?_) | (with_reducible refine Gr.drewN ?_ _) | (with_reducible refine Gr.setCell ?_ (by simp <;> omega) _) | (with_reducible refine Gr.trans ?_ (by with_reducible assumption)) | exact Gr.refl _ | assumption | refine Gr.alloc ?_ _ | refine Gr.drew ?_ | refine Gr.drewN ?_ _ | refine Gr.setCell ?_ (by simp <;> omega) _ | refine Gr.trans ?_ (by assumption)))⟩
        · have b3 : decide (s < l) = false := by simp [h3]
          obtain rfl : r = false := by rw [← hr]; simp [h3]
          clear hr h2 h3
          go_enter Tryz.func47, Tryz.ntmps47
          go_wp2_with (first | ((go_at_call 58; (with_reducible refine (hG _).mono ?_); rintro e w1 ⟨rfl, w1h⟩; obtain ⟨w1c, w1f⟩ := w1h.cells; have w1s := w1h.size; (try simp at w1s); have w1z : w.heap.size < w1.heap.size := (by omega)); have hz1 : w.heap.size + 1 < w1.heap.size := (by omega)) | ((go_at_call 48; (with_reducible refine (hS _).mono ?_); rintro e w2 ⟨rfl, w2h⟩; obtain ⟨w2c, w2f⟩ := w2h.cells; have w2s := w2h.size; (try simp at w2s); have w2z : w.heap.size < w2.heap.size := (by omega)); have hz2 : w.heap.size + 1 < w2.heap.size := (by omega)))
          go_ret
          exact ⟨rfl, (by repeat (first | (with_reducible exact Gr.refl _) | (with_reducible assumption) | (with_reducible refine Gr.alloc ?_ _) | (with_reducible refine Gr.drew ?_) | (with_reducible refine Gr.drewN ?_ _) | (with_reducible refine Gr.setCell ?_ (by simp <;> omega) _) | (with_reducible refine Gr.trans ?_ (by with_reducible assumption)) | exact Gr.refl _ | assumption | refine Gr.alloc ?_ _ | refine Gr.drew ?_ | refine Gr.drewN ?_ _ | refine Gr.setCell ?_ (by simp <;> omega) _ | refine Gr.trans ?_ (by assumption)))⟩
theorem stopPlace_any (k l s : Int) (hl : 0 ≤ l) (hl' : l ≤ 100) (hs : 0 ≤ s) (hs' : s ≤ 100) (w : World) :
    Calls Tryz.prog 51 #[.agg #[.int .i64 k, .int .i64 l, .int .i64 s]] w fun e w' => e = .returned (.int .i64 (spI l s)) ∧ Gr w w' := by
  unfold spI
  by_cases h : s = 0
  · rw [if_pos h]
    have b : (s == 0) = true := by simp [h]
    clear h
    go_enter Tryz.func51, Tryz.ntmps51
    go_wp2
    go_ret
    exact ⟨ret_int (by go_num), (by repeat (first | (with_reducible exact Gr.refl _) | (with_reducible assumption) | (with_reducible refine Gr.alloc ?_ _) | (with_reducible refine Gr.drew ?_) | (with_reducible refine Gr.drewN ?_ _) | (with_reducible refine Gr.setCell ?_ (by simp <;> omega) _) | (with_reducible refine Gr.trans ?_ (by with_reducible assumption)) | exact Gr.refl _ | assumption | refine Gr.alloc ?_ _ | refine Gr.drew ?_ | refine Gr.drewN ?_ _ | refine Gr.setCell ?_ (by simp <;> omega) _ | refine Gr.trans ?_ (by assumption)))⟩
  · rw [if_neg h]
    have b : (s == 0) = false := by simp [h]
    clear h
    go_enter Tryz.func51, Tryz.ntmps51
    go_wp2
    go_ret
    exact ⟨ret_int (by go_num), (by repeat (first | (with_reducible exact Gr.refl _) | (with_reducible assumption) | (with_reducible refine Gr.alloc ?_ _) | (with_reducible refine Gr.drew ?_) | (with_reducible refine Gr.drewN ?_ _) | (with_reducible refine Gr.setCell ?_ (by simp <;> omega) _) | (with_reducible refine Gr.trans ?_ (by with_reducible assumption)) | exact Gr.refl _ | assumption | refine Gr.alloc ?_ _ | refine Gr.drew ?_ | refine Gr.drewN ?_ _ | refine Gr.setCell ?_ (by simp <;> omega) _ | refine Gr.trans ?_ (by assumption)))⟩
theorem edStopOf_any (f : Int) (w : World) :
    Calls Tryz.prog 50 #[.int .i64 f] w fun e w' => e = .returned (.int .u8 ((stC f).toNat : Int)) ∧ w = w' := by
  unfold stC
  by_cases h : f = 1
  · rw [if_pos h]
    have b : (f == 1) = true := by simp [h]
    clear h
    go_enter Tryz.func50, Tryz.ntmps50
    go_wp2
    go_ret
    exact ⟨rfl, rfl⟩
  · rw [if_neg h]
    have b : (f == 1) = false := by simp [h]
    clear h
    go_enter Tryz.func50, Tryz.ntmps50
    go_wp2
    go_ret
    exact ⟨rfl, rfl⟩
end Go.Proofs.YtmdpejllbalnnaaGreatDoor
namespace Go.Proofs.YtmdpejllbalnnaaGreatDoor
set_option linter.unusedSimpArgs false
set_option linter.unusedVariables false
open Go.RowKit

section
variable (k l s c f E : Int) (H : Bool)
  (h1 : ∀ w, Calls Tryz.prog 27 #[.agg #[.int .i64 k, .int .i64 l, .int .i64 s], .agg #[.int .u8 c, .int .i64 f]] w fun e w' => e = .returned (.int .i64 E) ∧ Gr w w')
include h1
set_option maxHeartbeats 1000000 in
theorem wordOf_a (hE : E ≠ 0) (w : World) : Calls Tryz.prog 23 #[.agg #[.int .i64 k, .int .i64 l, .int .i64 s], .agg #[.int .u8 c, .int .i64 f]] w (EdR ⟨#[]⟩ E w) := by
  have b1 : (E != 0) = true := by simp [hE]
  clear hE
  unfold EdR
  go_enter Tryz.func23, Tryz.ntmps23
  go_wp2_with ((go_at_call 27; (with_reducible refine (h1 _).mono ?_); rintro e w1 ⟨rfl, w1h⟩; obtain ⟨w1c, w1f⟩ := w1h.cells; have w1s := w1h.size; (try simp at w1s); have w1z : w.heap.size < w1.heap.size := (by omega)); have hz1 : w.heap.size + 1 < w1.heap.size := (by omega))
  exact bodyPost_ret (v := .tuple #[.string ⟨#[]⟩, .int .i64 E]) (by simp [results, Tryz.results23, go_sem, *]) rfl ⟨rfl, (by repeat (first | (with_reducible exact Gr.refl _) | (with_reducible assumption) | (with_reducible refine Gr.alloc ?_ _) | (with_reducible refine Gr.drew ?_) | (with_reducible refine Gr.drewN ?_ _) | (with_reducible refine Gr.setCell ?_ (by simp <;> omega) _) | (with_reducible refine Gr.trans ?_ (by with_reducible assumption)) | exact Gr.refl _ | assumption | refine Gr.alloc ?_ _ | refine Gr.drew ?_ | refine Gr.drewN ?_ _ | refine Gr.setCell ?_ (by simp <;> omega) _ | refine Gr.trans ?_ (by assumption)))⟩
variable (h2 : ∀ w, Calls Tryz.prog 47 #[.agg #[.int .i64 k, .int .i64 l, .int .i64 s], .agg #[.int .u8 c, .int .i64 f]] w fun e w' => e = .returned (.bool H) ∧ Gr w w')
include h2
set_option maxHeartbeats 1000000 in
theorem wordOf_b (hE : E = 0) (hH : H = false) (w : World) : Calls Tryz.prog 23 #[.agg #[.int .i64 k, .int .i64 l, .int .i64 s], .agg #[.int .u8 c, .int .i64 f]] w (EdR ⟨#[]⟩ 39 w) := by
  subst hE hH
  unfold EdR
  go_enter Tryz.func23, Tryz.ntmps23
  go_wp2_with (first | ((go_at_call 27; (with_reducible refine (h1 _).mono ?_); rintro e w1 ⟨rfl, w1h⟩; obtain ⟨w1c, w1f⟩ := w1h.cells; have w1s := w1h.size; (try simp at w1s); have w1z : w.heap.size < w1.heap.size := (by omega)); have hz1 : w.heap.size + 1 < w1.heap.size := (by omega)) | ((go_at_call 47; (with_reducible refine (h2 _).mono ?_); rintro e w2 ⟨rfl, w2h⟩; obtain ⟨w2c, w2f⟩ := w2h.cells; have w2s := w2h.size; (try simp at w2s); have w2z : w.heap.size < w2.heap.size := (by omega)); have hz2 : w.heap.size + 1 < w2.heap.size := (by omega)))
  exact bodyPost_ret (v := .tuple #[.string ⟨#[]⟩, .int .i64 39]) (by simp [results, Tryz.results23, go_sem, *]) rfl ⟨rfl, (by repeat (first | (with_reducible exact Gr.refl _) | (with_reducible assumption) | (with_reducible refine Gr.alloc ?_ _) | (with_reducible refine Gr.drew ?_) | (with_reducible refine Gr.drewN ?_ _) | (with_reducible refine Gr.setCell ?_ (by simp <;> omega) _) | (with_reducible refine Gr.trans ?_ (by with_reducible assumption)) | exact Gr.refl _ | assumption | refine Gr.alloc ?_ _ | refine Gr.drew ?_ | refine Gr.drewN ?_ _ | refine Gr.setCell ?_ (by simp <;> omega) _ | refine Gr.trans ?_ (by assumption)))⟩
end
/-- The boxes, the style and the digits. -/
def WoW (w : World) (k l s c f : Int) (g7 g8 : Nat) (cmm z : Bool) (B : ByteArray) (xs : List UInt8) (wr : World) : Prop :=
  ((wr.cell? ⟨w.heap.size, 0, none⟩ = some (.int .i64 k) ∧ wr.cell? ⟨w.heap.size, 1, none⟩ = some (.int .i64 l) ∧ wr.cell? ⟨w.heap.size, 2, none⟩ = some (.int .i64 s)) ∧
  (wr.cell? ⟨w.heap.size + 1, 0, none⟩ = some (.int .u8 c) ∧ wr.cell? ⟨w.heap.size + 1, 1, none⟩ = some (.int .i64 f)) ∧
  (wr.cell? ⟨g7, 0, none⟩ = some (.bool cmm) ∧ wr.cell? ⟨g7, 1, none⟩ = some (.bool z) ∧ wr.cell? ⟨g7, 3, none⟩ = some (.string B))) ∧
  ByW wr g8 xs ∧ Gr w wr ∧ (w.heap.size + 1 < g7 ∧ g7 < g8 ∧ g8 < wr.heap.size)
theorem WoW.gr {w : World} {k l s c f : Int} {g7 g8 : Nat} {cmm z : Bool} {B : ByteArray} {xs : List UInt8} {a b : World} (h : WoW w k l s c f g7 g8 cmm z B xs a) (G : Gr a b) : WoW w k l s c f g7 g8 cmm z B xs b := by
  obtain ⟨⟨⟨c0, c1, c2⟩, ⟨c3, c4⟩, c5, c6, c7⟩, hB, g, hz1, hz2, hz3⟩ := h
  exact ⟨⟨⟨G.keep c0, G.keep c1, G.keep c2⟩, ⟨G.keep c3, G.keep c4⟩, G.keep c5, G.keep c6, G.keep c7⟩, hB.gr G hz3, g.trans G, hz1, hz2, by have := Gr.size G; omega⟩
theorem WoW.set {w : World} {k l s c f : Int} {g7 g8 : Nat} {cmm z : Bool} {B : ByteArray} {xs : List UInt8} {a : World} (h : WoW w k l s c f g7 g8 cmm z B xs a) (q : Nat) (y8 : UInt8) : WoW w k l s c f g7 g8 cmm z B (xs.set q y8) (a.setCell ⟨g8, q, none⟩ (.int .u8 (y8.toNat : Int))) := by
  obtain ⟨⟨⟨c0, c1, c2⟩, ⟨c3, c4⟩, c5, c6, c7⟩, hB, g, hz1, hz2, hz3⟩ := h
  have far : ∀ b j v, b ≠ g8 → a.cell? ⟨b, j, none⟩ = some v → (a.setCell ⟨g8, q, none⟩ (.int .u8 (y8.toNat : Int))).cell? ⟨b, j, none⟩ = some v := fun b j v hb hv =>
    (World.cell?_setCell_far _ _ _ _ (by simp; omega)).trans hv
  exact ⟨⟨⟨far _ _ _ (by omega) c0, far _ _ _ (by omega) c1, far _ _ _ (by omega) c2⟩, ⟨far _ _ _ (by omega) c3, far _ _ _ (by omega) c4⟩, far _ _ _ (by omega) c5, far _ _ _ (by omega) c6, far _ _ _ (by omega) c7⟩, hB.set q y8, g.setCell (by simp; omega) _, hz1, hz2, by rw [World.size_setCell]; exact hz3⟩
set_option maxHeartbeats 4000000 in
set_option maxRecDepth 100000 in
theorem wordOf_c (k l s c f : Int) (cmm z : Bool) (B Y R : ByteArray) (L q : Nat) (y8 : UInt8) (Xs : List UInt8) (hl : l = L) (hL : L ≤ 64)
    (h1 : ∀ w, Calls Tryz.prog 27 #[.agg #[.int .i64 k, .int .i64 l, .int .i64 s], .agg #[.int .u8 c, .int .i64 f]] w fun e w' => e = .returned (.int .i64 0) ∧ Gr w w')
    (h2 : ∀ w, Calls Tryz.prog 47 #[.agg #[.int .i64 k, .int .i64 l, .int .i64 s], .agg #[.int .u8 c, .int .i64 f]] w fun e w' => e = .returned (.bool true) ∧ Gr w w')
    (h3 : ∀ w, Calls Tryz.prog 48 #[.int .u8 c] w fun e w' => e = .returned (.agg #[.bool cmm, .bool z, .bool false, .string B]) ∧ Gr w w')
    (h4 : ∀ w, Calls Tryz.prog 49 #[.int .i64 l] w fun e w' => e = .returned (.string (BL (List.replicate L 32))) ∧ Gr w w')
    (h5 : z = true → q < L ∧ (∀ w, Calls Tryz.prog 51 #[.agg #[.int .i64 k, .int .i64 l, .int .i64 s]] w fun e w' => e = .returned (.int .i64 (q : Int)) ∧ Gr w w') ∧ (∀ w, Calls Tryz.prog 50 #[.int .i64 f] w fun e w' => e = .returned (.int .u8 (y8.toNat : Int)) ∧ w = w'))
    (hX : Xs = if z then (List.replicate L 32).set q y8 else List.replicate L 32)
    (h6 : ∀ w, Calls Tryz.prog 52 #[.agg #[.int .i64 k, .int .i64 l, .int .i64 s], .string (BL Xs), .bool cmm] w fun e w' => e = .returned (.string Y) ∧ Gr w w')
    (hadd : ∀ w, (Op.stringOp .add Y B).run Tryz.prog w = .ok (.string R) w) (w : World) :
    Calls Tryz.prog 23 #[.agg #[.int .i64 k, .int .i64 l, .int .i64 s], .agg #[.int .u8 c, .int .i64 f]] w (EdR R 0 w) := by
  have HX := Lib.hid hX
  have HL := Lib.hid hl
  have hlen : (List.replicate L (32 : UInt8)).length = L := List.length_replicate
  have HLN := Lib.hid hlen
  have hXl : Xs.length = L := by rw [hX]; split <;> simp
  have HXL := Lib.hid hXl
  clear hX hl hlen hXl
  unfold EdR
  go_enter Tryz.func23, Tryz.ntmps23
  go_upto_if 27 with (first | ((go_at_call 27; (with_reducible refine (h1 _).mono ?_); rintro e w1 ⟨rfl, w1h⟩; obtain ⟨w1c, w1f⟩ := w1h.cells; have w1s := w1h.size; (try simp at w1s); have w1z : w.heap.size < w1.heap.size := (by omega)); have hz1 : w.heap.size + 1 < w1.heap.size := (by omega)) | ((go_at_call 47; (with_reducible refine (h2 _).mono ?_); rintro e w2 ⟨rfl, w2h⟩; obtain ⟨w2c, w2f⟩ := w2h.cells; have w2s := w2h.size; (try simp at w2s); have w2z : w.heap.size < w2.heap.size := (by omega)); have hz2 : w.heap.size + 1 < w2.heap.size := (by omega)) | ((go_at_call 48; (with_reducible refine (h3 _).mono ?_); rintro e w3 ⟨rfl, w3h⟩; obtain ⟨w3c, w3f⟩ := w3h.cells; have w3s := w3h.size; (try simp at w3s); have w3z : w.heap.size < w3.heap.size := (by omega)); have hz3 : w.heap.size + 1 < w3.heap.size := (by omega)) | (go_at_call 49; (with_reducible refine (h4 _).mono ?_); rintro e w4 ⟨rfl, hb4⟩; obtain ⟨cap, W5, hcv, hBy, hG5, hz5⟩ := bytes_of w4 (List.replicate L 32); rw [HLN.out] at hcv; have k7 : W5.cell? ⟨w3.heap.size, 1, none⟩ = some (.bool z) := (hb4.trans hG5).keep (by simp [go_sem])))
  have G3 := w1h.trans (w2h.trans w3h)
  have A3 := (Gr.refl w3).alloc (.cells #[.bool cmm, .bool z, .bool false, .string B] 78)
  have G4 := hb4.trans hG5
  have GT := G3.trans (A3.trans G4)
  have hs4 := Gr.size hb4
  simp at hs4
  have WW : WoW w k l s c f w3.heap.size w4.heap.size cmm z B (List.replicate L 32) W5 :=
    ⟨⟨⟨GT.keep (by simp [go_sem]), GT.keep (by simp [go_sem]), GT.keep (by simp [go_sem])⟩, ⟨GT.keep (by simp [go_sem]), GT.keep (by simp [go_sem])⟩, G4.keep (by simp [go_sem]), G4.keep (by simp [go_sem]), G4.keep (by simp [go_sem])⟩, hBy, ((Gr.alloc (Gr.alloc (Gr.refl w) _) _)).trans GT, hz3, by omega, by omega⟩
  clear GT G3 A3 G4 hs4 k7 hBy hG5 hz5 hcv hb4 h1 h2 h3 h4 w1h w1c w1f w1s w1z w2h w2c w2f w2s w2z w3h w3c w3f w3s w3z hz1 hz2 hz3
  have HW := Lib.hid WW
  clear WW
  generalize w3.heap.size = g7 at *
  generalize w4.heap.size = g8 at *
  obtain ⟨⟨⟨c0, c1, c2⟩, ⟨c3, c4⟩, c5, c6, c7⟩, hB, GW, hz1, hz2, hz3⟩ := HW.out
  clear hB
  go_cut [] (fun wx => Hid (WoW w k l s c f g7 g8 cmm z B Xs wx))
  case first =>
    cases z
    · clear h5
      have HW2 : Hid (WoW w k l s c f g7 g8 cmm false B Xs W5) := by
        have h := HX.out
        rw [if_neg (by simp)] at h
        rw [h]; exact HW
      go_wp2
      go_meet
      exact HW2
    · obtain ⟨hq, h51, h52⟩ := h5 rfl
      clear h5
      have HWd := Lib.hid (HW.out.gr (Gr.drew (Gr.refl W5)))
      go_upto_region 9 with (fail)
      go_region_with (first | (go_at_call 51; (with_reducible refine (h51 _).mono ?_); rintro e w6 ⟨rfl, hb6⟩; have H6 := Lib.hid (HWd.out.gr hb6); obtain ⟨v6, f6⟩ := H6.out.2.1 q (by rw [HLN.out]; exact hq); obtain ⟨⟨⟨d0, d1, d2⟩, ⟨d3, d4⟩, d5, d6, d7⟩, -, G6, -⟩ := H6.out) | (go_at_call 50; (with_reducible refine (h52 _).mono ?_); rintro e w1 ⟨rfl, rfl⟩))
      all_goals
        go_wp2
        go_meet
        exact Lib.hid (by have h := HX.out; (first | rw [if_pos rfl] at h | rw [if_pos trivial] at h); rw [h]; exact H6.out.set q y8)
  case rest =>
    have HW2 := hcut
    clear h5 HW c0 c1 c2 c3 c4 c5 c6 c7 GW hz1 hz2 hz3
    generalize wc = W6 at *
    obtain ⟨⟨⟨c0, c1, c2⟩, ⟨c3, c4⟩, c5, c6, c7⟩, hB, GW, hz1, hz2, hz3⟩ := HW2.out
    clear hB
    have HWd := Lib.hid (HW2.out.gr (Gr.drew (Gr.refl W6)))
    have hcs := byw_str HWd.out.2.1 L cap HXL.out
    have keepS : ∀ a, Gr W6 a → (fun w' => w'.cell? ⟨w.heap.size, 0, none⟩ = some (.int .i64 k) ∧ w'.cell? ⟨w.heap.size, 1, none⟩ = some (.int .i64 l) ∧ w'.cell? ⟨w.heap.size, 2, none⟩ = some (.int .i64 s) ∧ w'.cell? ⟨g7, 0, none⟩ = some (.bool cmm) ∧ w'.cell? ⟨g7, 3, none⟩ = some (.string B) ∧ (convert 80 9 (.slice (some ⟨g8, 0, none⟩) L cap)).run Tryz.prog w' = .ok (.string (BL Xs)) w') a := fun a ha => by
      have h := HW2.out.gr ha
      exact ⟨h.1.1.1, h.1.1.2.1, h.1.1.2.2, h.1.2.2.1, h.1.2.2.2.2, byw_str h.2.1 L cap HXL.out⟩
    go_upto_region 10 with (fail)
    go_region_held3 (fun w' => w'.cell? ⟨w.heap.size, 0, none⟩ = some (.int .i64 k) ∧ w'.cell? ⟨w.heap.size, 1, none⟩ = some (.int .i64 l) ∧ w'.cell? ⟨w.heap.size, 2, none⟩ = some (.int .i64 s) ∧ w'.cell? ⟨g7, 0, none⟩ = some (.bool cmm) ∧ w'.cell? ⟨g7, 3, none⟩ = some (.string B) ∧ (convert 80 9 (.slice (some ⟨g8, 0, none⟩) L cap)).run Tryz.prog w' = .ok (.string (BL Xs)) w') (exact keepS _ (by repeat (first | (with_reducible exact Gr.refl _) | (with_reducible assumption) | (with_reducible refine Gr.alloc ?_ _) | (with_reducible refine Gr.drew ?_) | (with_reducible refine Gr.drewN ?_ _) | (with_reducible refine Gr.setCell ?_ (by simp <;> omega) _) | (with_reducible refine Gr.trans ?_ (by with_reducible assumption)) | exact Gr.refl _ | assumption | refine Gr.alloc ?_ _ | refine Gr.drew ?_ | refine Gr.drewN ?_ _ | refine Gr.setCell ?_ (by simp <;> omega) _ | refine Gr.trans ?_ (by assumption)))) ((go_at_call 52; (with_reducible refine (h6 _).mono ?_); rintro e w7 ⟨rfl, hb7⟩))
    all_goals
      go_wp2
      exact bodyPost_ret (v := .tuple #[.string R, .int .i64 0]) (by simp [results, Tryz.results23, go_sem, *]) rfl ⟨rfl, (by repeat (first | (with_reducible exact Gr.refl _) | (with_reducible assumption) | (with_reducible refine Gr.alloc ?_ _) | (with_reducible refine Gr.drew ?_) | (with_reducible refine Gr.drewN ?_ _) | (with_reducible refine Gr.setCell ?_ (by simp <;> omega) _) | (with_reducible refine Gr.trans ?_ (by with_reducible assumption)) | exact Gr.refl _ | assumption | refine Gr.alloc ?_ _ | refine Gr.drew ?_ | refine Gr.drewN ?_ _ | refine Gr.setCell ?_ (by simp <;> omega) _ | refine Gr.trans ?_ (by assumption)))⟩
end Go.Proofs.YtmdpejllbalnnaaGreatDoor
namespace Go.Proofs.YtmdpejllbalnnaaGreatDoor
set_option linter.unusedSimpArgs false
set_option linter.unusedVariables false
open Go.RowKit

theorem hw_right {l s f : Int} {c : UInt8} (h : hwB l s c f = true) : f ≠ 2 ∧ gwB c = true ∧ (zpB c = true → s < l ∧ 1 < l) ∧ (zpB c = false → s = 0 ∧ f = 0) := by
  unfold hwB at h
  simp only [Bool.and_eq_true, Bool.not_eq_true', decide_eq_false_iff_not] at h
  obtain ⟨h1, h2, h3⟩ := h
  refine ⟨h1, h2, fun hz => ?_, fun hz => ?_⟩
  · rw [hz] at h3; simpa using h3
  · rw [hz] at h3; simpa using h3
theorem wdB_len (l s f : Int) (c : UInt8) : (wdB l s c f).length = l.toNat := by
  unfold wdB; split <;> simp
theorem spT_len_le (D : List UInt8) (cmm : Bool) (W : Nat) : ∀ q, (spT D cmm W q).length ≤ 3 * q
  | 0 => by simp [spT]
  | q + 1 => by
    have h := spT_len_le D cmm W q
    rw [spT]
    simp only [List.length_append, List.length_singleton]
    have e1 : (if q = W then [46] else ([] : List UInt8)).length ≤ 1 := by split <;> simp
    have e2 : (if (cm cmm W q && decide (q < W)) = true then [44] else ([] : List UInt8)).length ≤ 1 := by split <;> simp
    omega
theorem bhL_len (c : UInt8) : (bhL c).length ≤ 2 := by
  unfold bhL; split
  · simp
  · split <;> simp
theorem edWordOf_any (k l s f : Int) (c8 : UInt8) (c : Int) (hc : c = c8.toNat) (w : World) :
    Calls Tryz.prog 23 #[.agg #[.int .i64 k, .int .i64 l, .int .i64 s], .agg #[.int .u8 c, .int .i64 f]] w (EdR (wdT k l s c8 f) (wdE k l s c8 f) w) := by
  have h1 := checkCode_any k l s f c8 c hc
  have h2 := hasWord_any k l s f c8 c hc
  unfold wdT wdE
  by_cases hck : ckC k l s c8 f = 0
  · have hk0 : ¬ ckC k l s c8 f ≠ 0 := by omega
    rw [if_neg hk0, if_neg hk0]
    rw [hck] at h1
    by_cases hw : hwB l s c8 f = false
    · rw [if_pos hw, if_pos hw]
      exact wordOf_b k l s c f 0 _ h1 h2 rfl hw w
    · have hw' : hwB l s c8 f = true := by simpa using hw
      rw [if_neg hw, if_neg hw]
      rw [hw'] at h2
      obtain ⟨t1, t2, hcd, f0, f1, hf, h89⟩ := ck_right hck
      obtain ⟨l0, l1, s0, s1, hk⟩ := num_right t1 t2
      obtain ⟨w1, w2, w3, w4⟩ := hw_right hw'
      have hl : l = (l.toNat : Nat) := by omega
      have h6 := spread_any k s (wdB l s c8 f) (cmB c8) (l - s).toNat l.toNat (wdB_len l s f c8) (by omega) (by omega) (by omega) (by omega)
      rw [← hl] at h6
      refine wordOf_c k l s c f (cmB c8) (zpB c8) (BL (bhL c8)) _ _ l.toNat (spI l s).toNat (stC f) (wdB l s c8 f) hl (by omega) h1 h2 (style_gw c8 c hc w2) (blanks_any l l.toNat hl (by omega)) ?_ rfl h6 ?_ w
      · intro hz
        obtain ⟨z1, z2⟩ := w3 hz
        have hsp : 0 ≤ spI l s ∧ spI l s < l := by unfold spI; split <;> omega
        refine ⟨by omega, ?_, edStopOf_any f⟩
        have h := stopPlace_any k l s (by omega) (by omega) s0 (by omega)
        rwa [show (((spI l s).toNat : Nat) : Int) = spI l s by omega]
      · intro w
        have a1 := spT_len_le (wdB l s c8 f) (cmB c8) (l - s).toNat l.toNat
        have a2 := bhL_len c8
        unfold wdL
        rw [add_ss _ _ (by rw [BL_size, BL_size]; omega), BL_append]
  · rw [if_pos hck, if_pos hck]
    exact wordOf_a k l s c f _ h1 hck w
end Go.Proofs.YtmdpejllbalnnaaGreatDoor
