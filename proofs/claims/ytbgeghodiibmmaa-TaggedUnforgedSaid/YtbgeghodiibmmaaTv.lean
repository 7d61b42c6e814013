/- CopyBytes; the reference's CopyErr; CopyWithTags where it is refused. -/
import Derived.Test.YtbgeghodiibmmaaTu
namespace Go.Proofs.Ytbgeghodiibmmaa
set_option linter.unusedSimpArgs false
set_option linter.unusedVariables false
open Go.RowKit

set_option maxRecDepth 100000 in
theorem CopyBytes_bad (x : ByteArray) (A : Option Addr) (n c : Nat) (bs : List Bool) (fr tu l C : Int) (w : World) (hs : Sv w A n c 1 (bv bs)) (hx : x.size ≤ maxLen) (hl : l ≤ 9223372036854775807) (hC : ccErr x bs fr tu l = C) (h0 : C ≠ 0) :
    Calls Try.prog 36 #[.agg #[.string x, .slice A n c], .agg #[.int .i64 fr, .int .i64 tu, .int .i64 l]] w (StE ⟨#[]⟩ 0 [] C w) := by
  subst hC
  have HS := Lib.hid hs
  have hb0 : (ccErr x bs fr tu l != 0) = true := by simp [h0]
  clear hs h0
  go_enter Try.func36, Try.ntmps36
  go_wp2_with (go_at_call 62; (with_reducible refine (checkCopy_any x A n c bs fr tu l _ (HS.out.gr (by repeat (first | (with_reducible exact Gr.refl _) | (with_reducible assumption) | (with_reducible refine Gr.alloc ?_ _) | (with_reducible refine Gr.drew ?_) | (with_reducible refine Gr.drewN ?_ _) | (with_reducible refine Gr.setCell ?_ (by simp <;> omega) _) | (with_reducible refine Gr.trans ?_ (by with_reducible assumption)) | exact Gr.refl _ | assumption | refine Gr.alloc ?_ _ | refine Gr.drew ?_ | refine Gr.drewN ?_ _ | refine Gr.setCell ?_ (by simp <;> omega) _ | refine Gr.trans ?_ (by assumption)))) hx hl).mono ?_); rintro e w1 ⟨rfl, hb⟩; obtain ⟨hc, hf⟩ := gcells hb (w.heap.size + 3) (by first | exact hz | omega | (simp; done) | (simp; omega)); have hz : w.heap.size + 3 ≤ w1.heap.size := (by have h := hb.size; (try simp at h); omega); have hz0 : w.heap.size < w1.heap.size := (by omega))
  refine bodyPost_ret (v := .tuple #[.agg #[.string ⟨#[]⟩, .slice none 0 0], .int .i64 (ccErr x bs fr tu l)]) (by simp [results, Try.results36, go_sem, *]) rfl ⟨none, 0, rfl, ⟨Sv.nil _ _, fun h => absurd h (by omega)⟩, (by repeat (first | (with_reducible exact Gr.refl _) | (with_reducible assumption) | (with_reducible refine Gr.alloc ?_ _) | (with_reducible refine Gr.drew ?_) | (with_reducible refine Gr.drewN ?_ _) | (with_reducible refine Gr.setCell ?_ (by simp <;> omega) _) | (with_reducible refine Gr.trans ?_ (by with_reducible assumption)) | exact Gr.refl _ | assumption | refine Gr.alloc ?_ _ | refine Gr.drew ?_ | refine Gr.drewN ?_ _ | refine Gr.setCell ?_ (by simp <;> omega) _ | refine Gr.trans ?_ (by assumption)))⟩
set_option maxRecDepth 100000 in
theorem CopyWithTags_bad (x : ByteArray) (A : Option Addr) (n c : Nat) (bs : List Bool) (fr tu l C : Int) (w : World) (hs : Sv w A n c 1 (bv bs)) (hx : x.size ≤ maxLen) (hl : l ≤ 9223372036854775807) (hC : ccErr x bs fr tu l = C) (h0 : C ≠ 0) :
    Calls Try.prog 37 #[.agg #[.string x, .slice A n c], .agg #[.int .i64 fr, .int .i64 tu, .int .i64 l]] w (StE ⟨#[]⟩ 0 [] C w) := by
  subst hC
  have HS := Lib.hid hs
  have hb0 : (ccErr x bs fr tu l != 0) = true := by simp [h0]
  clear hs h0
  go_enter Try.func37, Try.ntmps37
  go_wp2_with (go_at_call 62; (with_reducible refine (checkCopy_any x A n c bs fr tu l _ (HS.out.gr (by repeat (first | (with_reducible exact Gr.refl _) | (with_reducible assumption) | (with_reducible refine Gr.alloc ?_ _) | (with_reducible refine Gr.drew ?_) | (with_reducible refine Gr.drewN ?_ _) | (with_reducible refine Gr.setCell ?_ (by simp <;> omega) _) | (with_reducible refine Gr.trans ?_ (by with_reducible assumption)) | exact Gr.refl _ | assumption | refine Gr.alloc ?_ _ | refine Gr.drew ?_ | refine Gr.drewN ?_ _ | refine Gr.setCell ?_ (by simp <;> omega) _ | refine Gr.trans ?_ (by assumption)))) hx hl).mono ?_); rintro e w1 ⟨rfl, hb⟩; obtain ⟨hc, hf⟩ := gcells hb (w.heap.size + 3) (by first | exact hz | omega | (simp; done) | (simp; omega)); have hz : w.heap.size + 3 ≤ w1.heap.size := (by have h := hb.size; (try simp at h); omega); have hz0 : w.heap.size < w1.heap.size := (by omega))
  refine bodyPost_ret (v := .tuple #[.agg #[.string ⟨#[]⟩, .slice none 0 0], .int .i64 (ccErr x bs fr tu l)]) (by simp [results, Try.results37, go_sem, *]) rfl ⟨none, 0, rfl, ⟨Sv.nil _ _, fun h => absurd h (by omega)⟩, (by repeat (first | (with_reducible exact Gr.refl _) | (with_reducible assumption) | (with_reducible refine Gr.alloc ?_ _) | (with_reducible refine Gr.drew ?_) | (with_reducible refine Gr.drewN ?_ _) | (with_reducible refine Gr.setCell ?_ (by simp <;> omega) _) | (with_reducible refine Gr.trans ?_ (by with_reducible assumption)) | exact Gr.refl _ | assumption | refine Gr.alloc ?_ _ | refine Gr.drew ?_ | refine Gr.drewN ?_ _ | refine Gr.setCell ?_ (by simp <;> omega) _ | refine Gr.trans ?_ (by assumption)))⟩
set_option maxRecDepth 100000 in
theorem CopyWithTags_clash (x : ByteArray) (A : Option Addr) (n c : Nat) (bs : List Bool) (f t l : Nat) (w : World) (hs : Sv w A n c 1 (bv bs)) (hC : ccErr x bs f t l = 0) (h0 : f % 16 ≠ t % 16) :
    Calls Try.prog 37 #[.agg #[.string x, .slice A n c], .agg #[.int .i64 f, .int .i64 t, .int .i64 l]] w (StE ⟨#[]⟩ 0 [] 15 w) := by
  obtain ⟨h1, h2⟩ := cc_good hC
  simp only [Bool.and_eq_true] at h2
  obtain ⟨k1, k2, -⟩ := ck_right h1
  have b1 := hB_bd h2.1
  have b2 := hB_bd h2.2
  have HS := Lib.hid hs
  have hx : x.size ≤ maxLen := by unfold maxLen; omega
  have hl : (l : Int) ≤ 9223372036854775807 := by omega
  have hf : (f : Int) ≤ 1024 := by omega
  have ht : (t : Int) ≤ 1024 := by omega
  have hb0 : (ccErr x bs f t l != 0) = false := by simp [hC]
  have hm : ((f : Int) % 16 != (t : Int) % 16) = true := by simp; omega
  clear hs h0 h1 h2 hC k2 b1 b2
  go_enter Try.func37, Try.ntmps37
  go_wp2_with (go_at_call 62; (with_reducible refine (checkCopy_any x A n c bs f t l _ (HS.out.gr (by repeat (first | (with_reducible exact Gr.refl _) | (with_reducible assumption) | (with_reducible refine Gr.alloc ?_ _) | (with_reducible refine Gr.drew ?_) | (with_reducible refine Gr.drewN ?_ _) | (with_reducible refine Gr.setCell ?_ (by simp <;> omega) _) | (with_reducible refine Gr.trans ?_ (by with_reducible assumption)) | exact Gr.refl _ | assumption | refine Gr.alloc ?_ _ | refine Gr.drew ?_ | refine Gr.drewN ?_ _ | refine Gr.setCell ?_ (by simp <;> omega) _ | refine Gr.trans ?_ (by assumption)))) hx hl).mono ?_); rintro e w1 ⟨rfl, hb⟩; obtain ⟨hc, hf⟩ := gcells hb (w.heap.size + 3) (by first | exact hz | omega | (simp; done) | (simp; omega)); have hz : w.heap.size + 3 ≤ w1.heap.size := (by have h := hb.size; (try simp at h); omega); have hz0 : w.heap.size < w1.heap.size := (by omega))
  refine bodyPost_ret (v := .tuple #[.agg #[.string ⟨#[]⟩, .slice none 0 0], .int .i64 15]) (by simp [results, Try.results37, go_sem, *]) rfl ⟨none, 0, rfl, ⟨Sv.nil _ _, fun h => absurd h (by omega)⟩, (by repeat (first | (with_reducible exact Gr.refl _) | (with_reducible assumption) | (with_reducible refine Gr.alloc ?_ _) | (with_reducible refine Gr.drew ?_) | (with_reducible refine Gr.drewN ?_ _) | (with_reducible refine Gr.setCell ?_ (by simp <;> omega) _) | (with_reducible refine Gr.trans ?_ (by with_reducible assumption)) | exact Gr.refl _ | assumption | refine Gr.alloc ?_ _ | refine Gr.drew ?_ | refine Gr.drewN ?_ _ | refine Gr.setCell ?_ (by simp <;> omega) _ | refine Gr.trans ?_ (by assumption)))⟩
set_option maxHeartbeats 1000000 in
set_option maxRecDepth 100000 in
theorem CopyBytes_good (x : ByteArray) (A : Option Addr) (n c : Nat) (bs : List Bool) (f t l : Nat) (w : World) (hs : Sv w A n c 1 (bv bs)) (hC : ccErr x bs f t l = 0)
    (D Y : ByteArray) (U : List Bool) (hD : x.extract f (f + l) = D) (hY : pS x t D = Y) (hU : wT bs t l = U) :
    Calls Try.prog 36 #[.agg #[.string x, .slice A n c], .agg #[.int .i64 f, .int .i64 t, .int .i64 l]] w (StE Y n U 0 w) := by
  obtain ⟨h1, h2⟩ := cc_good hC
  simp only [Bool.and_eq_true] at h2
  obtain ⟨k1, k2, -⟩ := ck_right h1
  have b1 := hB_bd h2.1
  have b2 := hB_bd h2.2
  have hlen : bs.length = n := by have := hs.len; rw [bv_len] at this; omega
  have HS := Lib.hid hs
  have hx : x.size ≤ maxLen := by unfold maxLen; omega
  have hl : (l : Int) ≤ 9223372036854775807 := by omega
  have hb0 : (ccErr x bs f t l != 0) = false := by simp [hC]
  have HCo := Lib.hid (show ∀ (W : World), Sv W A n c 1 (bv bs) → Calls Try.prog 63 #[.agg #[.string x, .slice A n c], .agg #[.int .i64 f, .int .i64 t, .int .i64 l]] W (StR Y n U W) from fun W h => copied_any x A n c bs f t l W h k1 (by omega) (by omega) (by omega) D Y U hD hY hU)
  clear hs h1 h2 hC k2 b1 b2 hD hY hU hlen
  go_enter Try.func36, Try.ntmps36
  go_wp2_with (first | (go_at_call 62; (with_reducible refine (checkCopy_any x A n c bs f t l _ (HS.out.gr (by repeat (first | (with_reducible exact Gr.refl _) | (with_reducible assumption) | (with_reducible refine Gr.alloc ?_ _) | (with_reducible refine Gr.drew ?_) | (with_reducible refine Gr.drewN ?_ _) | (with_reducible refine Gr.setCell ?_ (by simp <;> omega) _) | (with_reducible refine Gr.trans ?_ (by with_reducible assumption)) | exact Gr.refl _ | assumption | refine Gr.alloc ?_ _ | refine Gr.drew ?_ | refine Gr.drewN ?_ _ | refine Gr.setCell ?_ (by simp <;> omega) _ | refine Gr.trans ?_ (by assumption)))) hx hl).mono ?_); rintro e w1 ⟨rfl, hb⟩; obtain ⟨hc, hf⟩ := gcells hb (w.heap.size + 3) (by first | exact hz | omega | (simp; done) | (simp; omega)); have hz : w.heap.size + 3 ≤ w1.heap.size := (by have h := hb.size; (try simp at h); omega); have hz0 : w.heap.size < w1.heap.size := (by omega)) | (go_at_call 63; (with_reducible refine (HCo.out _ (HS.out.gr (by repeat (first | (with_reducible exact Gr.refl _) | (with_reducible assumption) | (with_reducible refine Gr.alloc ?_ _) | (with_reducible refine Gr.drew ?_) | (with_reducible refine Gr.drewN ?_ _) | (with_reducible refine Gr.setCell ?_ (by simp <;> omega) _) | (with_reducible refine Gr.trans ?_ (by with_reducible assumption)) | exact Gr.refl _ | assumption | refine Gr.alloc ?_ _ | refine Gr.drew ?_ | refine Gr.drewN ?_ _ | refine Gr.setCell ?_ (by simp <;> omega) _ | refine Gr.trans ?_ (by assumption))))).mono ?_); rintro e w2 ⟨A1, c1, rfl, hV, hb2⟩; have HV := Lib.hid hV; clear hV; obtain ⟨hc, hf⟩ := gcells hb2 (w.heap.size + 3) (by exact hz); have hz3 : w.heap.size + 3 ≤ w2.heap.size := (by have h := hb2.size; omega)))
  refine bodyPost_ret (v := .tuple #[.agg #[.string Y, .slice A1 n c1], .int .i64 0]) (by simp [results, Try.results36, go_sem, *]) rfl ⟨A1, c1, rfl, ((HV.out.setLow (by simp; omega) _).setLow (by simp; omega) _).mono (by omega), (by repeat (first | (with_reducible exact Gr.refl _) | (with_reducible assumption) | (with_reducible refine Gr.alloc ?_ _) | (with_reducible refine Gr.drew ?_) | (with_reducible refine Gr.drewN ?_ _) | (with_reducible refine Gr.setCell ?_ (by simp <;> omega) _) | (with_reducible refine Gr.trans ?_ (by with_reducible assumption)) | exact Gr.refl _ | assumption | refine Gr.alloc ?_ _ | refine Gr.drew ?_ | refine Gr.drewN ?_ _ | refine Gr.setCell ?_ (by simp <;> omega) _ | refine Gr.trans ?_ (by assumption)))⟩

def crErr (x : ByteArray) (fr tu l : Int) (tags : Bool) : Int := if (hB x fr l && hB x tu l) = false then 3 else if tags = true ∧ fr % 16 ≠ tu % 16 then 15 else 0
set_option maxRecDepth 100000 in
theorem CopyErr_any (x : ByteArray) (A : Option Addr) (n c : Nat) (fr tu l : Int) (tags : Bool) (w : World) (hx : x.size ≤ maxLen) :
    Calls Try.prog 38 #[.agg #[.string x, .slice A n c], .agg #[.int .i64 fr, .int .i64 tu, .int .i64 l], .bool tags] w fun e w' => e = .returned (.int .i64 (crErr x fr tu l tags)) ∧ Gr w w' := by
  rcases Bool.eq_false_or_eq_true (hB x fr l) with h1 | h1
  · rcases Bool.eq_false_or_eq_true (hB x tu l) with h2 | h2
    · have b1 := hB_bd h1
      have b2 := hB_bd h2
      have g1 := b1.1
      have g2 := b2.1
      unfold maxLen at hx
      have g3 : fr ≤ 9223372036854775807 := by omega
      have g4 : tu ≤ 9223372036854775807 := by omega
      have hx' : x.size ≤ maxLen := by unfold maxLen; omega
      have hx2 := Lib.hid hx'
      clear hx' b1 b2
      cases tags
      · go_enter Try.func38, Try.ntmps38
        go_wp2_with (go_at_call 29; (with_reducible refine (IsRange_any x A n c _ l hx2.out _).mono ?_); rintro e w1 ⟨rfl, hb⟩; obtain ⟨hc, hf⟩ := gcells hb (w.heap.size + 2) (by first | exact hz | omega | (simp; done) | (simp; omega)); have hz : w.heap.size + 2 ≤ w1.heap.size := (by have h := hb.size; (try simp at h); omega); have hz0 : w.heap.size < w1.heap.size := (by omega))
        go_ret
        exact ⟨ret_int (by simp [crErr, h1, h2]), (by repeat (first | (with_reducible exact Gr.refl _) | (with_reducible assumption) | (with_reducible refine Gr.alloc ?_ _) | (with_reducible refine Gr.drew ?_) | (with_reducible refine Gr.drewN ?_ _) | (with_reducible refine Gr.setCell ?_ (by simp <;> omega) _) | (with_reducible refine Gr.trans ?_ (by with_reducible assumption)) | exact Gr.refl _ | assumption | refine Gr.alloc ?_ _ | refine Gr.drew ?_ | refine Gr.drewN ?_ _ | refine Gr.setCell ?_ (by simp <;> omega) _ | refine Gr.trans ?_ (by assumption)))⟩
      · by_cases hm : fr % 16 = tu % 16
        · have hm' : (fr % 16 != tu % 16) = false := by simp [hm]
          have HM := Lib.hid hm
          clear hm
          go_enter Try.func38, Try.ntmps38
          go_wp2_with (go_at_call 29; (with_reducible refine (IsRange_any x A n c _ l hx2.out _).mono ?_); rintro e w1 ⟨rfl, hb⟩; obtain ⟨hc, hf⟩ := gcells hb (w.heap.size + 2) (by first | exact hz | omega | (simp; done) | (simp; omega)); have hz : w.heap.size + 2 ≤ w1.heap.size := (by have h := hb.size; (try simp at h); omega); have hz0 : w.heap.size < w1.heap.size := (by omega))
          go_ret
          exact ⟨ret_int (by have := HM.out; simp [crErr, h1, h2, this]), (by repeat (first | (with_reducible exact Gr.refl _) | (with_reducible assumption) | (with_reducible refine Gr.alloc ?_ _) | (with_reducible refine Gr.drew ?_) | (with_reducible refine Gr.drewN ?_ _) | (with_reducible refine Gr.setCell ?_ (by simp <;> omega) _) | (with_reducible refine Gr.trans ?_ (by with_reducible assumption)) | exact Gr.refl _ | assumption | refine Gr.alloc ?_ _ | refine Gr.drew ?_ | refine Gr.drewN ?_ _ | refine Gr.setCell ?_ (by simp <;> omega) _ | refine Gr.trans ?_ (by assumption)))⟩
        · have hm' : (fr % 16 != tu % 16) = true := by simp [hm]
          have HM := Lib.hid hm
          clear hm
          go_enter Try.func38, Try.ntmps38
          go_wp2_with (go_at_call 29; (with_reducible refine (IsRange_any x A n c _ l hx2.out _).mono ?_); rintro e w1 ⟨rfl, hb⟩; obtain ⟨hc, hf⟩ := gcells hb (w.heap.size + 2) (by first | exact hz | omega | (simp; done) | (simp; omega)); have hz : w.heap.size + 2 ≤ w1.heap.size := (by have h := hb.size; (try simp at h); omega); have hz0 : w.heap.size < w1.heap.size := (by omega))
          go_ret
          exact ⟨ret_int (by have := HM.out; simp [crErr, h1, h2, this]), (by repeat (first | (with_reducible exact Gr.refl _) | (with_reducible assumption) | (with_reducible refine Gr.alloc ?_ _) | (with_reducible refine Gr.drew ?_) | (with_reducible refine Gr.drewN ?_ _) | (with_reducible refine Gr.setCell ?_ (by simp <;> omega) _) | (with_reducible refine Gr.trans ?_ (by with_reducible assumption)) | exact Gr.refl _ | assumption | refine Gr.alloc ?_ _ | refine Gr.drew ?_ | refine Gr.drewN ?_ _ | refine Gr.setCell ?_ (by simp <;> omega) _ | refine Gr.trans ?_ (by assumption)))⟩
    · go_enter Try.func38, Try.ntmps38
      go_wp2_with (go_at_call 29; (with_reducible refine (IsRange_any x A n c _ l hx _).mono ?_); rintro e w1 ⟨rfl, hb⟩; obtain ⟨hc, hf⟩ := gcells hb (w.heap.size + 2) (by first | exact hz | omega | (simp; done) | (simp; omega)); have hz : w.heap.size + 2 ≤ w1.heap.size := (by have h := hb.size; (try simp at h); omega); have hz0 : w.heap.size < w1.heap.size := (by omega))
      go_ret
      exact ⟨ret_int (by simp [crErr, h1, h2]), (by repeat (first | (with_reducible exact Gr.refl _) | (with_reducible assumption) | (with_reducible refine Gr.alloc ?_ _) | (with_reducible refine Gr.drew ?_) | (with_reducible refine Gr.drewN ?_ _) | (with_reducible refine Gr.setCell ?_ (by simp <;> omega) _) | (with_reducible refine Gr.trans ?_ (by with_reducible assumption)) | exact Gr.refl _ | assumption | refine Gr.alloc ?_ _ | refine Gr.drew ?_ | refine Gr.drewN ?_ _ | refine Gr.setCell ?_ (by simp <;> omega) _ | refine Gr.trans ?_ (by assumption)))⟩
  · go_enter Try.func38, Try.ntmps38
    go_wp2_with (go_at_call 29; (with_reducible refine (IsRange_any x A n c _ l hx _).mono ?_); rintro e w1 ⟨rfl, hb⟩; obtain ⟨hc, hf⟩ := gcells hb (w.heap.size + 2) (by first | exact hz | omega | (simp; done) | (simp; omega)); have hz : w.heap.size + 2 ≤ w1.heap.size := (by have h := hb.size; (try simp at h); omega); have hz0 : w.heap.size < w1.heap.size := (by omega))
    go_ret
    exact ⟨ret_int (by simp [crErr, h1]), (by repeat (first | (with_reducible exact Gr.refl _) | (with_reducible assumption) | (with_reducible refine Gr.alloc ?_ _) | (with_reducible refine Gr.drew ?_) | (with_reducible refine Gr.drewN ?_ _) | (with_reducible refine Gr.setCell ?_ (by simp <;> omega) _) | (with_reducible refine Gr.trans ?_ (by with_reducible assumption)) | exact Gr.refl _ | assumption | refine Gr.alloc ?_ _ | refine Gr.drew ?_ | refine Gr.drewN ?_ _ | refine Gr.setCell ?_ (by simp <;> omega) _ | refine Gr.trans ?_ (by assumption)))⟩
end Go.Proofs.Ytbgeghodiibmmaa
