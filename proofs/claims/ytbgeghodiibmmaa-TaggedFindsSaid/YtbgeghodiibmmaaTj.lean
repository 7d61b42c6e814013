/- slices.Clone of bools; ranges; writes. -/
import Derived.Test.YtbgeghodiibmmaaTi
import Derived.WalkSpells
namespace Go.Proofs.Ytbgeghodiibmmaa
set_option linter.unusedSimpArgs false
set_option linter.unusedVariables false
open Go.RowKit

theorem Clone_any (A : Option Addr) (n c : Nat) (bs : List Bool) (w : World) (hs : Sv w A n c 1 (bv bs)) (hn : n ≤ 1000000) :
    Calls Try.prog 74 #[.slice A n c] w (SlR n 1 (bv bs) w) := by
  obtain ⟨i0, hi, hz0, hz1, hz2⟩ := info_parts infoBool
  have he := fun W : World => Lib.run_eql_slice_nil (P := Try.prog) W 38 4 A n c 0 0 Try.underlying38
  have HS := Lib.hid hs
  rcases A with _ | ad
  · have h0 := hs.2.2.2.1 rfl
    subst h0
    have hb := hs.zero
    have HB := Lib.hid hb
    clear hs hb
    go_enter Try.func74, Try.ntmps74
    go_wp2
    go_ret
    exact ⟨none, 0, rfl, by rw [HB.out]; exact ⟨Sv.nil _ _, fun h => absurd h (by omega)⟩, (by repeat (first | (with_reducible exact Gr.refl _) | (with_reducible assumption) | (with_reducible refine Gr.alloc ?_ _) | (with_reducible refine Gr.drew ?_) | (with_reducible refine Gr.drewN ?_ _) | (with_reducible refine Gr.setCell ?_ (by simp <;> omega) _) | (with_reducible refine Gr.trans ?_ (by with_reducible assumption)) | exact Gr.refl _ | assumption | refine Gr.alloc ?_ _ | refine Gr.drew ?_ | refine Gr.drewN ?_ _ | refine Gr.setCell ?_ (by simp <;> omega) _ | refine Gr.trans ?_ (by assumption)))⟩
  · clear hs
    go_enter Try.func74, Try.ntmps74
    go_wp2_with (at_builtin; go_loud (refine wp_append_sv _ rfl _ _ 38 4 rfl i0 (.bool false) 1 1 Try.underlying38 hi hz0 hz1 hz2 rfl (by omega) w.heap.size _ 0 _ rfl (World.ownsRow_lit w #[] 0 (Nat.le_refl _) (by unfold maxLen; omega) rfl) (some ad) n c (bv bs) rfl (HS.out.gr ((Gr.refl _).alloc _)) (bv_one bs) (by unfold maxLen; omega) (by omega) (by simp) ?_); intro v1 w1 hO hB hG)
    go_ret
    simp only [Nat.zero_add, List.nil_append] at hO
    obtain ⟨A', c', rfl, hW⟩ := wv_of_own hO
    exact ⟨A', c', rfl, hW, (((Below.refl _ _).alloc (Nat.le_refl _) _).trans hB)⟩

theorem IsRange_any (x : ByteArray) (A : Option Addr) (l c : Nat) (a n : Int) (hx : x.size ≤ maxLen) (w : World) :
    Calls Try.prog 29 #[.agg #[.string x, .slice A l c], .int .i64 a, .int .i64 n] w fun e w' => e = .returned (.bool (hB x a n)) ∧ Gr w w' := by
  unfold maxLen at hx
  by_cases h1 : wiB a 0 x.size = true
  · have h1' : 0 ≤ a ∧ a ≤ x.size := by simpa [wiB] using h1
    obtain ⟨ha, ha'⟩ := h1'
    go_enter Try.func29, Try.ntmps29
    go_wp2_with (go_at_call 22; refine (Within_any _ _ _ _).mono ?_; rintro e w1 ⟨rfl, rfl⟩)
    go_ret
    exact ⟨ret_bool (by rw [Bool.eq_iff_iff]; simp [hB, wiB, ha]; omega), (by repeat (first | (with_reducible exact Gr.refl _) | (with_reducible assumption) | (with_reducible refine Gr.alloc ?_ _) | (with_reducible refine Gr.drew ?_) | (with_reducible refine Gr.drewN ?_ _) | (with_reducible refine Gr.setCell ?_ (by simp <;> omega) _) | (with_reducible refine Gr.trans ?_ (by with_reducible assumption)) | exact Gr.refl _ | assumption | refine Gr.alloc ?_ _ | refine Gr.drew ?_ | refine Gr.drewN ?_ _ | refine Gr.setCell ?_ (by simp <;> omega) _ | refine Gr.trans ?_ (by assumption)))⟩
  · have h1' : wiB a 0 x.size = false := by simpa using h1
    have H := Lib.hid (show ¬ (0 ≤ a ∧ a ≤ x.size) by intro h; apply h1; simpa [wiB] using h)
    clear h1
    go_enter Try.func29, Try.ntmps29
    go_wp2_with (go_at_call 22; refine (Within_any _ _ _ _).mono ?_; rintro e w1 ⟨rfl, rfl⟩)
    go_ret
    exact ⟨ret_bool (by have := H.out; simp [hB]; omega), (by repeat (first | (with_reducible exact Gr.refl _) | (with_reducible assumption) | (with_reducible refine Gr.alloc ?_ _) | (with_reducible refine Gr.drew ?_) | (with_reducible refine Gr.drewN ?_ _) | (with_reducible refine Gr.setCell ?_ (by simp <;> omega) _) | (with_reducible refine Gr.trans ?_ (by with_reducible assumption)) | exact Gr.refl _ | assumption | refine Gr.alloc ?_ _ | refine Gr.drew ?_ | refine Gr.drewN ?_ _ | refine Gr.setCell ?_ (by simp <;> omega) _ | refine Gr.trans ?_ (by assumption)))⟩

def cbErr (x : ByteArray) (bs : List Bool) (a n : Int) : Int := if ckErr x bs ≠ 0 then ckErr x bs else if hB x a n then 0 else 3
set_option maxRecDepth 100000 in
theorem checkBytes_any (x : ByteArray) (A : Option Addr) (l c : Nat) (bs : List Bool) (a n : Int) (w : World) (hs : Sv w A l c 1 (bv bs)) (hx : x.size ≤ maxLen) (hn : n ≤ 9223372036854775807) :
    Calls Try.prog 58 #[.agg #[.string x, .slice A l c], .int .i64 a, .int .i64 n] w fun e w' => e = .returned (.int .i64 (cbErr x bs a n)) ∧ Gr w w' := by
  have HS := Lib.hid hs
  clear hs
  by_cases he : ckErr x bs = 0
  · have hb0 : (ckErr x bs != 0) = false := by simp [he]
    have HE := Lib.hid he
    clear he
    rcases Bool.eq_false_or_eq_true (hB x a n) with hh | hh
    all_goals
      go_enter Try.func58, Try.ntmps58
      go_wp2_with (first | (go_at_call 65; (with_reducible refine (errorOf_any x A l c bs _ (HS.out.gr ((Gr.refl _).alloc _)) hx).mono ?_); rintro e w1 ⟨rfl, hb⟩; obtain ⟨hc, hf⟩ := gcells hb (w.heap.size + 1) (by first | exact hz | omega | (simp; done) | (simp; omega)); have hz : w.heap.size + 1 ≤ w1.heap.size := (by have h := hb.size; (try simp at h); omega); have hz0 : w.heap.size < w1.heap.size := (by omega)) | (go_at_call 73; (with_reducible refine (holds_any x A l c a n hx hn _).mono ?_); rintro e w1 ⟨rfl, hb⟩; obtain ⟨hc, hf⟩ := gcells hb (w.heap.size + 1) (by first | exact hz | omega | (simp; done) | (simp; omega)); have hz : w.heap.size + 1 ≤ w1.heap.size := (by have h := hb.size; (try simp at h); omega); have hz0 : w.heap.size < w1.heap.size := (by omega)))
      go_ret
      exact ⟨ret_int (by simp [cbErr, HE.out, hh]), (by repeat (first | (with_reducible exact Gr.refl _) | (with_reducible assumption) | (with_reducible refine Gr.alloc ?_ _) | (with_reducible refine Gr.drew ?_) | (with_reducible refine Gr.drewN ?_ _) | (with_reducible refine Gr.setCell ?_ (by simp <;> omega) _) | (with_reducible refine Gr.trans ?_ (by with_reducible assumption)) | exact Gr.refl _ | assumption | refine Gr.alloc ?_ _ | refine Gr.drew ?_ | refine Gr.drewN ?_ _ | refine Gr.setCell ?_ (by simp <;> omega) _ | refine Gr.trans ?_ (by assumption)))⟩
  · have hb0 : (ckErr x bs != 0) = true := by simp [he]
    have HE := Lib.hid he
    clear he
    go_enter Try.func58, Try.ntmps58
    go_wp2_with (go_at_call 65; (with_reducible refine (errorOf_any x A l c bs _ (HS.out.gr ((Gr.refl _).alloc _)) hx).mono ?_); rintro e w1 ⟨rfl, hb⟩; obtain ⟨hc, hf⟩ := gcells hb (w.heap.size + 1) (by first | exact hz | omega | (simp; done) | (simp; omega)); have hz : w.heap.size + 1 ≤ w1.heap.size := (by have h := hb.size; (try simp at h); omega); have hz0 : w.heap.size < w1.heap.size := (by omega))
    go_ret
    exact ⟨ret_int (by simp [cbErr, HE.out]), (by repeat (first | (with_reducible exact Gr.refl _) | (with_reducible assumption) | (with_reducible refine Gr.alloc ?_ _) | (with_reducible refine Gr.drew ?_) | (with_reducible refine Gr.drewN ?_ _) | (with_reducible refine Gr.setCell ?_ (by simp <;> omega) _) | (with_reducible refine Gr.trans ?_ (by with_reducible assumption)) | exact Gr.refl _ | assumption | refine Gr.alloc ?_ _ | refine Gr.drew ?_ | refine Gr.drewN ?_ _ | refine Gr.setCell ?_ (by simp <;> omega) _ | refine Gr.trans ?_ (by assumption)))⟩
end Go.Proofs.Ytbgeghodiibmmaa
