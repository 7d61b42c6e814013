/- Copies without their tags; the errors of copies. -/
import Derived.Test.YtbgeghodiibmmaaTs
namespace Go.Proofs.Ytbgeghodiibmmaa
set_option linter.unusedSimpArgs false
set_option linter.unusedVariables false
open Go.RowKit

def ccErr (x : ByteArray) (bs : List Bool) (fr tu l : Int) : Int := if ckErr x bs ≠ 0 then ckErr x bs else if hB x fr l && hB x tu l then 0 else 3
theorem cc_bad {x : ByteArray} {bs : List Bool} {fr tu l : Int} (h : ckErr x bs ≠ 0) : ccErr x bs fr tu l = ckErr x bs := by unfold ccErr; rw [if_pos h]
theorem cc_out {x : ByteArray} {bs : List Bool} {fr tu l : Int} (h : ckErr x bs = 0) (hh : (hB x fr l && hB x tu l) = false) : ccErr x bs fr tu l = 3 := by unfold ccErr; rw [if_neg (by simp [h]), hh]; rfl
theorem cc_in {x : ByteArray} {bs : List Bool} {fr tu l : Int} (h : ckErr x bs = 0) (hh : (hB x fr l && hB x tu l) = true) : ccErr x bs fr tu l = 0 := by unfold ccErr; rw [if_neg (by simp [h]), hh]; rfl
theorem cc_good {x : ByteArray} {bs : List Bool} {fr tu l : Int} (h : ccErr x bs fr tu l = 0) : ckErr x bs = 0 ∧ (hB x fr l && hB x tu l) = true := by
  by_cases h1 : ckErr x bs = 0
  · by_cases h2 : (hB x fr l && hB x tu l) = true
    · exact ⟨h1, h2⟩
    · have h2' : (hB x fr l && hB x tu l) = false := by simpa using h2
      rw [cc_out h1 h2'] at h; omega
  · rw [cc_bad h1] at h; exact absurd h h1
theorem hB_bd {x : ByteArray} {a n : Int} (h : hB x a n = true) : 0 ≤ a ∧ 0 ≤ n ∧ a + n ≤ x.size := by simp [hB] at h; omega

set_option maxRecDepth 100000 in
theorem checkCopy_any (x : ByteArray) (A : Option Addr) (n c : Nat) (bs : List Bool) (fr tu l : Int) (w : World) (hs : Sv w A n c 1 (bv bs)) (hx : x.size ≤ maxLen) (hl : l ≤ 9223372036854775807) :
    Calls Try.prog 62 #[.agg #[.string x, .slice A n c], .agg #[.int .i64 fr, .int .i64 tu, .int .i64 l]] w fun e w' => e = .returned (.int .i64 (ccErr x bs fr tu l)) ∧ Gr w w' := by
  have HS := Lib.hid hs
  clear hs
  by_cases he : ckErr x bs = 0
  · have hb0 : (ckErr x bs != 0) = false := by simp [he]
    have HE := Lib.hid he
    clear he
    rcases Bool.eq_false_or_eq_true (hB x fr l) with h1 | h1 <;> rcases Bool.eq_false_or_eq_true (hB x tu l) with h2 | h2
    all_goals
      go_enter Try.func62, Try.ntmps62
      go_wp2_with (first | (go_at_call 65; (with_reducible refine (errorOf_any x A n c bs _ (HS.out.gr (by repeat (first | (with_reducible exact Gr.refl _) | (with_reducible assumption) | (with_reducible refine Gr.alloc ?_ _) | (with_reducible refine Gr.drew ?_) | (with_reducible refine Gr.drewN ?_ _) | (with_reducible refine Gr.setCell ?_ (by simp <;> omega) _) | (with_reducible refine Gr.trans ?_ (by with_reducible assumption)) | exact Gr.refl _ | assumption | refine Gr.alloc ?_ _ | refine Gr.drew ?_ | refine Gr.drewN ?_ _ | refine Gr.setCell ?_ (by simp <;> omega) _ | refine Gr.trans ?_ (by assumption)))) hx).mono ?_); rintro e w1 ⟨rfl, hb⟩; obtain ⟨hc, hf⟩ := gcells hb (w.heap.size + 2) (by first | exact hz | omega | (simp; done) | (simp; omega)); have hz : w.heap.size + 2 ≤ w1.heap.size := (by have h := hb.size; (try simp at h); omega); have hz0 : w.heap.size < w1.heap.size := (by omega)) | (go_at_call 73; (with_reducible refine (holds_any x A n c _ l hx hl _).mono ?_); rintro e w1 ⟨rfl, hb⟩; obtain ⟨hc, hf⟩ := gcells hb (w.heap.size + 2) (by first | exact hz | omega | (simp; done) | (simp; omega)); have hz : w.heap.size + 2 ≤ w1.heap.size := (by have h := hb.size; (try simp at h); omega); have hz0 : w.heap.size < w1.heap.size := (by omega)))
      go_ret
      exact ⟨ret_int (by simp [ccErr, HE.out, h1, h2]), (by repeat (first | (with_reducible exact Gr.refl _) | (with_reducible assumption) | (with_reducible refine Gr.alloc ?_ _) | (with_reducible refine Gr.drew ?_) | (with_reducible refine Gr.drewN ?_ _) | (with_reducible refine Gr.setCell ?_ (by simp <;> omega) _) | (with_reducible refine Gr.trans ?_ (by with_reducible assumption)) | exact Gr.refl _ | assumption | refine Gr.alloc ?_ _ | refine Gr.drew ?_ | refine Gr.drewN ?_ _ | refine Gr.setCell ?_ (by simp <;> omega) _ | refine Gr.trans ?_ (by assumption)))⟩
  · have hb0 : (ckErr x bs != 0) = true := by simp [he]
    have HE := Lib.hid he
    clear he
    go_enter Try.func62, Try.ntmps62
    go_wp2_with (go_at_call 65; (with_reducible refine (errorOf_any x A n c bs _ (HS.out.gr (by repeat (first | (with_reducible exact Gr.refl _) | (with_reducible assumption) | (with_reducible refine Gr.alloc ?_ _) | (with_reducible refine Gr.drew ?_) | (with_reducible refine Gr.drewN ?_ _) | (with_reducible refine Gr.setCell ?_ (by simp <;> omega) _) | (with_reducible refine Gr.trans ?_ (by with_reducible assumption)) | exact Gr.refl _ | assumption | refine Gr.alloc ?_ _ | refine Gr.drew ?_ | refine Gr.drewN ?_ _ | refine Gr.setCell ?_ (by simp <;> omega) _ | refine Gr.trans ?_ (by assumption)))) hx).mono ?_); rintro e w1 ⟨rfl, hb⟩; obtain ⟨hc, hf⟩ := gcells hb (w.heap.size + 2) (by first | exact hz | omega | (simp; done) | (simp; omega)); have hz : w.heap.size + 2 ≤ w1.heap.size := (by have h := hb.size; (try simp at h); omega); have hz0 : w.heap.size < w1.heap.size := (by omega))
    go_ret
    exact ⟨ret_int (by simp [ccErr, HE.out]), (by repeat (first | (with_reducible exact Gr.refl _) | (with_reducible assumption) | (with_reducible refine Gr.alloc ?_ _) | (with_reducible refine Gr.drew ?_) | (with_reducible refine Gr.drewN ?_ _) | (with_reducible refine Gr.setCell ?_ (by simp <;> omega) _) | (with_reducible refine Gr.trans ?_ (by with_reducible assumption)) | exact Gr.refl _ | assumption | refine Gr.alloc ?_ _ | refine Gr.drew ?_ | refine Gr.drewN ?_ _ | refine Gr.setCell ?_ (by simp <;> omega) _ | refine Gr.trans ?_ (by assumption)))⟩

set_option maxHeartbeats 1000000 in
set_option maxRecDepth 100000 in
theorem copied_any (x : ByteArray) (A : Option Addr) (n c : Nat) (bs : List Bool) (f t l : Nat) (w : World) (hs : Sv w A n c 1 (bv bs)) (hx : x.size ≤ 1024) (hn : 16 * n = x.size) (hf : f + l ≤ x.size) (ht : t + l ≤ x.size)
    (D Y : ByteArray) (U : List Bool) (hD : x.extract f (f + l) = D) (hY : pS x t D = Y) (hU : wT bs t l = U) :
    Calls Try.prog 63 #[.agg #[.string x, .slice A n c], .agg #[.int .i64 f, .int .i64 t, .int .i64 l]] w (StR Y n U w) := by
  have hDs : D.size = l := by rw [← hD, ByteArray.size_extract]; omega
  have HS := Lib.hid hs
  have HW := Lib.hid (show ∀ (W : World), Sv W A n c 1 (bv bs) → Calls Try.prog 59 #[.agg #[.string x, .slice A n c], .int .i64 t, .string D] W (StR Y n U W) from fun W h => by
    have := written_any x A n c bs t D W h hx hn (by omega)
    rw [hY, hDs, hU] at this
    exact this)
  have e0 : IntKind.i64.wrap ((f : Int) + l) = f + l := IntWalk.i64_in _ (by omega)
  have e1 := cut_ij x f (f + l) f (f + l) rfl (by omega) (by omega) hf
  rw [hD] at e1
  clear hs hD hY hU hDs
  go_enter Try.func63, Try.ntmps63
  go_wp2
  go_region_held3 (fun w' => w'.cell? ⟨w.heap.size, 0, none⟩ = some (.string x) ∧ w'.cell? ⟨w.heap.size, 1, none⟩ = some (.slice A n c) ∧ w'.cell? ⟨w.heap.size + 1, 0, none⟩ = some (.int .i64 f) ∧ w'.cell? ⟨w.heap.size + 1, 1, none⟩ = some (.int .i64 t) ∧ w'.cell? ⟨w.heap.size + 1, 2, none⟩ = some (.int .i64 l)) (((try go_split_ands); (repeat' apply And.intro) <;> ((try simp only [World.cell?_drew]); first | (with_reducible assumption) | (simp [go_sem]; done) | ((repeat (first | (refine keepFar ?_ (by first | (dsimp only; omega) | (simp; done) | (simp; omega))) | (refine (Gr.alloc (Gr.refl _) _).keep ?_))); (try simp only [World.cell?_drew]); first | (with_reducible assumption) | (refine hb.keep ?_; (try simp only [World.cell?_drew]); first | (with_reducible assumption) | (simp [go_sem]; done) | ((repeat (refine (Gr.alloc (Gr.refl _) _).keep ?_)); (try simp only [World.cell?_drew]); (with_reducible assumption))) | (simp [*, go_sem]; done)))))
    ((go_at_call 59; (with_reducible refine (HW.out _ (HS.out.gr (by repeat (first | (with_reducible exact Gr.refl _) | (with_reducible assumption) | (with_reducible refine Gr.alloc ?_ _) | (with_reducible refine Gr.drew ?_) | (with_reducible refine Gr.drewN ?_ _) | (with_reducible refine Gr.setCell ?_ (by simp <;> omega) _) | (with_reducible refine Gr.trans ?_ (by with_reducible assumption)) | exact Gr.refl _ | assumption | refine Gr.alloc ?_ _ | refine Gr.drew ?_ | refine Gr.drewN ?_ _ | refine Gr.setCell ?_ (by simp <;> omega) _ | refine Gr.trans ?_ (by assumption))))).mono ?_); rintro e w1 ⟨A1, c1, rfl, hV, hb⟩; have HV := Lib.hid hV; clear hV; obtain ⟨hc, hf⟩ := hb.cells; have hz := Gr.size hb; (try simp at hz); have hz1 : w.heap.size + 1 + 1 < w1.heap.size := (by omega); have hz2 : w.heap.size + 1 < w1.heap.size := (by omega); have hz3 : w.heap.size < w1.heap.size := (by omega)))
  go_wp2
  refine bodyPost_ret (v := .agg #[.string Y, .slice A1 n c1]) (by simp [results, Try.results63, go_sem, *]) rfl ⟨A1, c1, rfl, ((HV.out.setLow (by first | (simp; done) | (simp; omega)) _).setLow (by first | (simp; done) | (simp; omega)) _).mono (by simp; omega), (by repeat (first | (with_reducible exact Gr.refl _) | (with_reducible assumption) | (with_reducible refine Gr.alloc ?_ _) | (with_reducible refine Gr.drew ?_) | (with_reducible refine Gr.drewN ?_ _) | (with_reducible refine Gr.setCell ?_ (by simp <;> omega) _) | (with_reducible refine Gr.trans ?_ (by with_reducible assumption)) | exact Gr.refl _ | assumption | refine Gr.alloc ?_ _ | refine Gr.drew ?_ | refine Gr.drewN ?_ _ | refine Gr.setCell ?_ (by simp <;> omega) _ | refine Gr.trans ?_ (by assumption)))⟩
end Go.Proofs.Ytbgeghodiibmmaa
