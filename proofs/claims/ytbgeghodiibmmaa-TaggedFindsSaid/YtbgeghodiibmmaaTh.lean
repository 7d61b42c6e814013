/- Storages: errors alone, ranges, what is read. -/
import Derived.Test.YtbgeghodiibmmaaTg
namespace Go.Proofs.Ytbgeghodiibmmaa
set_option linter.unusedSimpArgs false
set_option linter.unusedVariables false
open Go.RowKit

theorem wf64 {a : Int} (h : (Lit.int .i64 a).wf = true) : -9223372036854775808 ≤ a ∧ a ≤ 9223372036854775807 := by
  simp only [Lit.wf, Bool.and_eq_true, decide_eq_true_eq] at h
  have h1 := h.1
  have h2 := h.2
  simp [IntKind.min, IntKind.max, IntKind.signed, IntKind.bits] at h1 h2
  omega
theorem errorOf_any (x : ByteArray) (A : Option Addr) (n c : Nat) (bs : List Bool) (w : World) (hs : Sv w A n c 1 (bv bs)) (hx : x.size ≤ maxLen) :
    Calls Try.prog 65 #[.agg #[.string x, .slice A n c]] w fun e w' => e = .returned (.int .i64 (ckErr x bs)) ∧ Gr w w' := by
  have HS := Lib.hid hs
  clear hs
  go_enter Try.func65, Try.ntmps65
  go_wp2_with (go_at_call 18; (with_reducible refine (CheckStorage_any x A n c bs _ (HS.out.gr ((Gr.refl _).alloc _)) hx).mono ?_); rintro e w1 ⟨rfl, hb⟩; obtain ⟨hc, hf⟩ := gcells hb (w.heap.size + 1) (by first | exact hz | omega | (simp; done) | (simp; omega)); have hz : w.heap.size + 1 ≤ w1.heap.size := (by have h := hb.size; (try simp at h); omega); have hz0 : w.heap.size < w1.heap.size := (by omega))
  go_ret
  exact ⟨rfl, (by repeat (first | (with_reducible exact Gr.refl _) | (with_reducible assumption) | (with_reducible refine Gr.alloc ?_ _) | (with_reducible refine Gr.drew ?_) | (with_reducible refine Gr.drewN ?_ _) | (with_reducible refine Gr.setCell ?_ (by simp <;> omega) _) | (with_reducible refine Gr.trans ?_ (by with_reducible assumption)) | exact Gr.refl _ | assumption | refine Gr.alloc ?_ _ | refine Gr.drew ?_ | refine Gr.drewN ?_ _ | refine Gr.setCell ?_ (by simp <;> omega) _ | refine Gr.trans ?_ (by assumption)))⟩
theorem Err_any (x : ByteArray) (A : Option Addr) (n c : Nat) (bs : List Bool) (w : World) (hs : Sv w A n c 1 (bv bs)) (hx : x.size ≤ maxLen) :
    Calls Try.prog 28 #[.agg #[.string x, .slice A n c]] w fun e w' => e = .returned (.int .i64 (ckErr x bs)) ∧ Gr w w' := by
  have HS := Lib.hid hs
  clear hs
  go_enter Try.func28, Try.ntmps28
  go_wp2_with (go_at_call 20; (with_reducible refine (Check_any x A n c bs _ (HS.out.gr ((Gr.refl _).alloc _)) hx).mono ?_); rintro e w1 ⟨rfl, hb⟩; obtain ⟨hc, hf⟩ := gcells hb (w.heap.size + 1) (by first | exact hz | omega | (simp; done) | (simp; omega)); have hz : w.heap.size + 1 ≤ w1.heap.size := (by have h := hb.size; (try simp at h); omega); have hz0 : w.heap.size < w1.heap.size := (by omega))
  go_ret
  exact ⟨rfl, (by repeat (first | (with_reducible exact Gr.refl _) | (with_reducible assumption) | (with_reducible refine Gr.alloc ?_ _) | (with_reducible refine Gr.drew ?_) | (with_reducible refine Gr.drewN ?_ _) | (with_reducible refine Gr.setCell ?_ (by simp <;> omega) _) | (with_reducible refine Gr.trans ?_ (by with_reducible assumption)) | exact Gr.refl _ | assumption | refine Gr.alloc ?_ _ | refine Gr.drew ?_ | refine Gr.drewN ?_ _ | refine Gr.setCell ?_ (by simp <;> omega) _ | refine Gr.trans ?_ (by assumption)))⟩
def fewB (x : ByteArray) (n : Nat) : Bool := decide ((x.size : Int) ≤ 1072) && decide ((n : Int) ≤ 67)
theorem few_any (x : ByteArray) (A : Option Addr) (n c : Nat) (w : World) :
    Calls Try.prog 17 #[.agg #[.string x, .slice A n c]] w fun e w' => e = .returned (.bool (fewB x n)) ∧ Gr w w' := by
  by_cases h1 : (x.size : Int) ≤ 1072
  · by_cases h2 : (n : Int) ≤ 67
    all_goals
      go_enter Try.func17, Try.ntmps17
      go_wp2
      go_ret
      exact ⟨ret_bool (by unfold fewB; simp; omega), (by repeat (first | (with_reducible exact Gr.refl _) | (with_reducible assumption) | (with_reducible refine Gr.alloc ?_ _) | (with_reducible refine Gr.drew ?_) | (with_reducible refine Gr.drewN ?_ _) | (with_reducible refine Gr.setCell ?_ (by simp <;> omega) _) | (with_reducible refine Gr.trans ?_ (by with_reducible assumption)) | exact Gr.refl _ | assumption | refine Gr.alloc ?_ _ | refine Gr.drew ?_ | refine Gr.drewN ?_ _ | refine Gr.setCell ?_ (by simp <;> omega) _ | refine Gr.trans ?_ (by assumption)))⟩
  · go_enter Try.func17, Try.ntmps17
    go_wp2
    go_ret
    exact ⟨ret_bool (by unfold fewB; simp; omega), (by repeat (first | (with_reducible exact Gr.refl _) | (with_reducible assumption) | (with_reducible refine Gr.alloc ?_ _) | (with_reducible refine Gr.drew ?_) | (with_reducible refine Gr.drewN ?_ _) | (with_reducible refine Gr.setCell ?_ (by simp <;> omega) _) | (with_reducible refine Gr.trans ?_ (by with_reducible assumption)) | exact Gr.refl _ | assumption | refine Gr.alloc ?_ _ | refine Gr.drew ?_ | refine Gr.drewN ?_ _ | refine Gr.setCell ?_ (by simp <;> omega) _ | refine Gr.trans ?_ (by assumption)))⟩
def hB (x : ByteArray) (a n : Int) : Bool := decide (0 ≤ a) && decide (0 ≤ n) && decide (a ≤ x.size - n)
theorem holds_any (x : ByteArray) (A : Option Addr) (l c : Nat) (a n : Int) (hx : x.size ≤ maxLen) (hn : n ≤ 9223372036854775807) (w : World) :
    Calls Try.prog 73 #[.agg #[.string x, .slice A l c], .int .i64 a, .int .i64 n] w fun e w' => e = .returned (.bool (hB x a n)) ∧ Gr w w' := by
  unfold maxLen at hx
  by_cases h1 : 0 ≤ a
  · by_cases h2 : 0 ≤ n
    · by_cases h3 : a ≤ x.size - n
      all_goals
        go_enter Try.func73, Try.ntmps73
        go_wp2
        go_ret
        exact ⟨ret_bool (by simp [hB]; omega), (by repeat (first | (with_reducible exact Gr.refl _) | (with_reducible assumption) | (with_reducible refine Gr.alloc ?_ _) | (with_reducible refine Gr.drew ?_) | (with_reducible refine Gr.drewN ?_ _) | (with_reducible refine Gr.setCell ?_ (by simp <;> omega) _) | (with_reducible refine Gr.trans ?_ (by with_reducible assumption)) | exact Gr.refl _ | assumption | refine Gr.alloc ?_ _ | refine Gr.drew ?_ | refine Gr.drewN ?_ _ | refine Gr.setCell ?_ (by simp <;> omega) _ | refine Gr.trans ?_ (by assumption)))⟩
    · go_enter Try.func73, Try.ntmps73
      go_wp2
      go_ret
      exact ⟨ret_bool (by simp [hB]; omega), (by repeat (first | (with_reducible exact Gr.refl _) | (with_reducible assumption) | (with_reducible refine Gr.alloc ?_ _) | (with_reducible refine Gr.drew ?_) | (with_reducible refine Gr.drewN ?_ _) | (with_reducible refine Gr.setCell ?_ (by simp <;> omega) _) | (with_reducible refine Gr.trans ?_ (by with_reducible assumption)) | exact Gr.refl _ | assumption | refine Gr.alloc ?_ _ | refine Gr.drew ?_ | refine Gr.drewN ?_ _ | refine Gr.setCell ?_ (by simp <;> omega) _ | refine Gr.trans ?_ (by assumption)))⟩
  · go_enter Try.func73, Try.ntmps73
    go_wp2
    go_ret
    exact ⟨ret_bool (by simp [hB]; omega), (by repeat (first | (with_reducible exact Gr.refl _) | (with_reducible assumption) | (with_reducible refine Gr.alloc ?_ _) | (with_reducible refine Gr.drew ?_) | (with_reducible refine Gr.drewN ?_ _) | (with_reducible refine Gr.setCell ?_ (by simp <;> omega) _) | (with_reducible refine Gr.trans ?_ (by with_reducible assumption)) | exact Gr.refl _ | assumption | refine Gr.alloc ?_ _ | refine Gr.drew ?_ | refine Gr.drewN ?_ _ | refine Gr.setCell ?_ (by simp <;> omega) _ | refine Gr.trans ?_ (by assumption)))⟩
end Go.Proofs.Ytbgeghodiibmmaa
