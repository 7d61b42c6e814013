/- Pointers that are loaded and stored. -/
import Derived.Test.YtbgeghodiibmmaaTo
namespace Go.Proofs.Ytbgeghodiibmmaa
set_option linter.unusedSimpArgs false
set_option linter.unusedVariables false
open Go.RowKit

def isQ (x : ByteArray) (a : Int) : Bool := hB x a 16 && decide (a % 16 = 0)
def cqErr (x : ByteArray) (bs : List Bool) (a : Int) : Int := if ckErr x bs ≠ 0 then ckErr x bs else if isQ x a then 0 else 3
theorem isQ_yes {x : ByteArray} {a : Int} (h : isQ x a = true) : ∃ k : Nat, a = 16 * k ∧ 16 * k + 16 ≤ x.size := by
  simp [isQ, hB] at h
  exact ⟨(a / 16).toNat, by omega, by omega⟩
theorem cq_good {x : ByteArray} {bs : List Bool} {a : Int} (h : cqErr x bs a = 0) : ckErr x bs = 0 ∧ isQ x a = true := by
  by_cases h1 : ckErr x bs = 0
  · by_cases h2 : isQ x a = true
    · exact ⟨h1, h2⟩
    · simp [cqErr, h1, h2] at h
  · simp [cqErr, h1] at h
theorem cq_bad {x : ByteArray} {bs : List Bool} {a : Int} (h : ckErr x bs ≠ 0) : cqErr x bs a = ckErr x bs := by unfold cqErr; rw [if_pos h]
theorem cq_out {x : ByteArray} {bs : List Bool} {a : Int} (h : ckErr x bs = 0) (hh : isQ x a = false) : cqErr x bs a = 3 := by unfold cqErr; rw [if_neg (by simp [h]), hh]; rfl
theorem cq_in {x : ByteArray} {bs : List Bool} {a : Int} (h : ckErr x bs = 0) (hh : isQ x a = true) : cqErr x bs a = 0 := by unfold cqErr; rw [if_neg (by simp [h]), hh]; rfl

set_option maxRecDepth 100000 in
theorem checkQuad_any (x : ByteArray) (A : Option Addr) (l c : Nat) (bs : List Bool) (a : Int) (w : World) (hs : Sv w A l c 1 (bv bs)) (hx : x.size ≤ maxLen) :
    Calls Try.prog 61 #[.agg #[.string x, .slice A l c], .int .i64 a] w fun e w' => e = .returned (.int .i64 (cqErr x bs a)) ∧ Gr w w' := by
  have HS := Lib.hid hs
  clear hs
  by_cases he : cbErr x bs a 16 = 0
  · obtain ⟨h1, h2, -, h4⟩ := cb_good he
    have hb0 : (cbErr x bs a 16 != 0) = false := by simp [he]
    have H1 := Lib.hid h1
    by_cases h5 : a % 16 = 0
    · have h5' : (a % 16 != 0) = false := by simp [h5]
      have HQ := Lib.hid (show isQ x a = true by simp [isQ, hB]; omega)
      clear he h1 h5
      go_enter Try.func61, Try.ntmps61
      go_wp2_with (go_at_call 58; (with_reducible refine (checkBytes_any x A l c bs a 16 _ (HS.out.gr ((Gr.refl _).alloc _)) hx (by omega)).mono ?_); rintro e w1 ⟨rfl, hb⟩; obtain ⟨hc, hf⟩ := gcells hb (w.heap.size + 1) (by first | exact hz | omega | (simp; done) | (simp; omega)); have hz : w.heap.size + 1 ≤ w1.heap.size := (by have h := hb.size; (try simp at h); omega); have hz0 : w.heap.size < w1.heap.size := (by omega))
      go_ret
      exact ⟨ret_int (by rw [cq_in H1.out HQ.out]), (by repeat (first | (with_reducible exact Gr.refl _) | (with_reducible assumption) | (with_reducible refine Gr.alloc ?_ _) | (with_reducible refine Gr.drew ?_) | (with_reducible refine Gr.drewN ?_ _) | (with_reducible refine Gr.setCell ?_ (by simp <;> omega) _) | (with_reducible refine Gr.trans ?_ (by with_reducible assumption)) | exact Gr.refl _ | assumption | refine Gr.alloc ?_ _ | refine Gr.drew ?_ | refine Gr.drewN ?_ _ | refine Gr.setCell ?_ (by simp <;> omega) _ | refine Gr.trans ?_ (by assumption)))⟩
    · have h5' : (a % 16 != 0) = true := by simp [h5]
      have HQ := Lib.hid (show isQ x a = false by simp [isQ, h5])
      clear he h1 h5
      go_enter Try.func61, Try.ntmps61
      go_wp2_with (go_at_call 58; (with_reducible refine (checkBytes_any x A l c bs a 16 _ (HS.out.gr ((Gr.refl _).alloc _)) hx (by omega)).mono ?_); rintro e w1 ⟨rfl, hb⟩; obtain ⟨hc, hf⟩ := gcells hb (w.heap.size + 1) (by first | exact hz | omega | (simp; done) | (simp; omega)); have hz : w.heap.size + 1 ≤ w1.heap.size := (by have h := hb.size; (try simp at h); omega); have hz0 : w.heap.size < w1.heap.size := (by omega))
      go_ret
      exact ⟨ret_int (by rw [cq_out H1.out HQ.out]), (by repeat (first | (with_reducible exact Gr.refl _) | (with_reducible assumption) | (with_reducible refine Gr.alloc ?_ _) | (with_reducible refine Gr.drew ?_) | (with_reducible refine Gr.drewN ?_ _) | (with_reducible refine Gr.setCell ?_ (by simp <;> omega) _) | (with_reducible refine Gr.trans ?_ (by with_reducible assumption)) | exact Gr.refl _ | assumption | refine Gr.alloc ?_ _ | refine Gr.drew ?_ | refine Gr.drewN ?_ _ | refine Gr.setCell ?_ (by simp <;> omega) _ | refine Gr.trans ?_ (by assumption)))⟩
  · have hb0 : (cbErr x bs a 16 != 0) = true := by simp [he]
    have HE := Lib.hid (show cbErr x bs a 16 = cqErr x bs a by
      by_cases h1 : ckErr x bs = 0
      · by_cases h2 : hB x a 16 = true
        · exact absurd (by simp [cbErr, h1, h2]) he
        · simp [cbErr, cqErr, isQ, h1, h2]
      · simp [cbErr, cqErr, h1])
    clear he
    go_enter Try.func61, Try.ntmps61
    go_wp2_with (go_at_call 58; (with_reducible refine (checkBytes_any x A l c bs a 16 _ (HS.out.gr ((Gr.refl _).alloc _)) hx (by omega)).mono ?_); rintro e w1 ⟨rfl, hb⟩; obtain ⟨hc, hf⟩ := gcells hb (w.heap.size + 1) (by first | exact hz | omega | (simp; done) | (simp; omega)); have hz : w.heap.size + 1 ≤ w1.heap.size := (by have h := hb.size; (try simp at h); omega); have hz0 : w.heap.size < w1.heap.size := (by omega))
    go_ret
    exact ⟨ret_int HE.out, (by repeat (first | (with_reducible exact Gr.refl _) | (with_reducible assumption) | (with_reducible refine Gr.alloc ?_ _) | (with_reducible refine Gr.drew ?_) | (with_reducible refine Gr.drewN ?_ _) | (with_reducible refine Gr.setCell ?_ (by simp <;> omega) _) | (with_reducible refine Gr.trans ?_ (by with_reducible assumption)) | exact Gr.refl _ | assumption | refine Gr.alloc ?_ _ | refine Gr.drew ?_ | refine Gr.drewN ?_ _ | refine Gr.setCell ?_ (by simp <;> omega) _ | refine Gr.trans ?_ (by assumption)))⟩
theorem IsQuad_any (x : ByteArray) (A : Option Addr) (l c : Nat) (a : Int) (hx : x.size ≤ maxLen) (w : World) :
    Calls Try.prog 33 #[.agg #[.string x, .slice A l c], .int .i64 a] w fun e w' => e = .returned (.bool (isQ x a)) ∧ Gr w w' := by
  unfold maxLen at hx
  by_cases h1 : wiB a 0 ((x.size : Int) - 16) = true
  · have h1' : 0 ≤ a ∧ a ≤ (x.size : Int) - 16 := by simpa [wiB] using h1
    obtain ⟨ha, ha'⟩ := h1'
    have H1 := Lib.hid ha'
    go_enter Try.func33, Try.ntmps33
    go_wp2_with (go_at_call 22; refine (Within_any _ _ _ _).mono ?_; rintro e w1 ⟨rfl, rfl⟩)
    go_ret
    exact ⟨ret_bool (by have := H1.out; rw [Bool.eq_iff_iff]; simp [isQ, hB]; omega), (by repeat (first | (with_reducible exact Gr.refl _) | (with_reducible assumption) | (with_reducible refine Gr.alloc ?_ _) | (with_reducible refine Gr.drew ?_) | (with_reducible refine Gr.drewN ?_ _) | (with_reducible refine Gr.setCell ?_ (by simp <;> omega) _) | (with_reducible refine Gr.trans ?_ (by with_reducible assumption)) | exact Gr.refl _ | assumption | refine Gr.alloc ?_ _ | refine Gr.drew ?_ | refine Gr.drewN ?_ _ | refine Gr.setCell ?_ (by simp <;> omega) _ | refine Gr.trans ?_ (by assumption)))⟩
  · have h1' : wiB a 0 ((x.size : Int) - 16) = false := by simpa using h1
    have H := Lib.hid (show ¬ (0 ≤ a ∧ a ≤ (x.size : Int) - 16) by intro h; apply h1; simpa [wiB] using h)
    clear h1
    go_enter Try.func33, Try.ntmps33
    go_wp2_with (go_at_call 22; refine (Within_any _ _ _ _).mono ?_; rintro e w1 ⟨rfl, rfl⟩)
    go_ret
    exact ⟨ret_bool (by have := H.out; simp [isQ, hB]; omega), (by repeat (first | (with_reducible exact Gr.refl _) | (with_reducible assumption) | (with_reducible refine Gr.alloc ?_ _) | (with_reducible refine Gr.drew ?_) | (with_reducible refine Gr.drewN ?_ _) | (with_reducible refine Gr.setCell ?_ (by simp <;> omega) _) | (with_reducible refine Gr.trans ?_ (by with_reducible assumption)) | exact Gr.refl _ | assumption | refine Gr.alloc ?_ _ | refine Gr.drew ?_ | refine Gr.drewN ?_ _ | refine Gr.setCell ?_ (by simp <;> omega) _ | refine Gr.trans ?_ (by assumption)))⟩
end Go.Proofs.Ytbgeghodiibmmaa
