/- TaggedFinds' walk. -/
import Derived.Test.YtbgeghodiibmmaaWc
import Derived.Test.YtbgeghodiibmmaaVb
namespace Go.Proofs.Ytbgeghodiibmmaa
set_option linter.unusedSimpArgs false
set_option linter.unusedVariables false
open Go.RowKit

/-- What the calls return: all cases. -/
def TfH (x d : ByteArray) (n m : Nat) (bs : List Bool) (xs : List Int) (a i e f : Int) : Prop :=
  (∃ C, ckErr x bs = C ∧ C ≠ 0 ∧ e = C ∧ i = 0 ∧ f = C ∧ m = 0) ∨
  (ckErr x bs = 0 ∧ f = 0 ∧
    (∀ W A c, Sv W A n c 1 (bv bs) → Calls Try.prog 43 #[.agg #[.string x, .slice A n c]] W (SlI xs m W)) ∧
    ((wiB a 0 x.size = false ∧ e = 3 ∧ i = 0) ∨
     (wiB a 0 x.size = true ∧ d.toList.isEmpty = true ∧ e = 1 ∧ i = 0) ∨
     (wiB a 0 x.size = true ∧ d.toList.isEmpty = false ∧ ∃ R, (∀ W A c, Calls Try.prog 44 #[.agg #[.string x, .slice A n c], .int .i64 a, .string d] W fun e w' => e = .returned (.int .i64 R) ∧ Gr W w') ∧
        ((R = -1 ∧ e = 40 ∧ i = 0) ∨ (R = i ∧ 0 ≤ i ∧ e = 0)))))

theorem Within_is (n a b : Int) (r : Bool) (hr : wiB n a b = r) (w : World) : Calls Try.prog 22 #[.int .i64 n, .int .i64 a, .int .i64 b] w fun e w' => e = .returned (.bool r) ∧ w = w' := by
  subst hr
  exact Within_any n a b w

set_option maxHeartbeats 4000000 in
set_option maxRecDepth 100000 in
theorem tf_walk (x d : ByteArray) (A : Option Addr) (n c m : Nat) (bs : List Bool) (xs : List Int) (a i e f mm : Int) (w : World) (hs : Sv w A n c 1 (bv bs)) (hx : x.size ≤ maxLen) (hn : n ≤ 1000000)
    (hfew : fewB x n = true) (hd : (d.size : Int) ≤ 1200) (hm : w.cell? ⟨0, 0, none⟩ = some (.int .i64 mm))
    (HF : ∀ W A c, Sv W A n c 1 (bv bs) → W.cell? ⟨0, 0, none⟩ = some (.int .i64 mm) → Calls Try.prog 40 #[.agg #[.string x, .slice A n c], .int .i64 a, .string d] W (IeR i e W))
    (HP : ∀ W A c, Sv W A n c 1 (bv bs) → Calls Try.prog 41 #[.agg #[.string x, .slice A n c]] W (SlE xs m f W))
    (HH : TfH x d n m bs xs a i e f) :
    Calls Try.prog 8 #[.agg #[.string x, .slice A n c], .int .i64 a, .string d] w fun e w' => e = .returned (.bool true) ∧ Gr w w' := by
  have HS := Lib.hid hs
  have HM := Lib.hid hm
  have HF' := Lib.hid HF
  have HP' := Lib.hid HP
  have H := Lib.hid HH
  clear hs HF HP HH hm
  go_enter Try.func8, Try.ntmps8
  go_upto_region 6 with (first
    | (go_at_call 10; (with_reducible refine (awake_any _).mono ?_); rintro e w1 ⟨rfl, hb⟩; obtain ⟨hc, hf⟩ := gcells hb (w.heap.size + 1) (by first | exact hz | omega | (simp; done) | (simp; omega)); have hz : w.heap.size + 1 ≤ w1.heap.size := (by have h := hb.size; (try simp at h); omega); have hz0 : w.heap.size < w1.heap.size := (by omega))
    | (go_at_call 17; (with_reducible refine (few_any x A n c _).mono ?_); rintro e w1 ⟨rfl, hb⟩; obtain ⟨hc, hf⟩ := gcells hb (w.heap.size + 1) (by first | exact hz | omega | (simp; done) | (simp; omega)); have hz : w.heap.size + 1 ≤ w1.heap.size := (by have h := hb.size; (try simp at h); omega); have hz0 : w.heap.size < w1.heap.size := (by omega))
    | (go_at_call 19; (with_reducible refine (OwnStorage_more x A n c bs _ (HS.out.gr (by repeat (first | (with_reducible exact Gr.refl _) | (with_reducible assumption) | (with_reducible refine Gr.alloc ?_ _) | (with_reducible refine Gr.drew ?_) | (with_reducible refine Gr.drewN ?_ _) | (with_reducible refine Gr.setCell ?_ (by simp <;> omega) _) | (with_reducible refine Gr.trans ?_ (by with_reducible assumption)) | exact Gr.refl _ | assumption | refine Gr.alloc ?_ _ | refine Gr.drew ?_ | refine Gr.drewN ?_ _ | refine Gr.setCell ?_ (by simp <;> omega) _ | refine Gr.trans ?_ (by assumption)))) hn).mono ?_); rintro e w4 ⟨⟨A2, c2, rfl, hV, hb⟩, hz4⟩; have HV := Lib.hid hV; clear hV; obtain ⟨hc4, hf4⟩ := hb.cells; (try simp at hz4); have hz40 : w.heap.size < w4.heap.size := (by omega))
    | (go_at_call 40; (with_reducible refine (HF'.out _ _ _ (HV.out.sv.gr (by repeat (first | (with_reducible exact Gr.refl _) | (with_reducible assumption) | (with_reducible refine Gr.alloc ?_ _) | (with_reducible refine Gr.drew ?_) | (with_reducible refine Gr.drewN ?_ _) | (with_reducible refine Gr.setCell ?_ (by simp <;> omega) _) | (with_reducible refine Gr.trans ?_ (by with_reducible assumption)) | exact Gr.refl _ | assumption | refine Gr.alloc ?_ _ | refine Gr.drew ?_ | refine Gr.drewN ?_ _ | refine Gr.setCell ?_ (by simp <;> omega) _ | refine Gr.trans ?_ (by assumption)))) (Gr.keep (by repeat (first | (with_reducible exact Gr.refl _) | (with_reducible assumption) | (with_reducible refine Gr.alloc ?_ _) | (with_reducible refine Gr.drew ?_) | (with_reducible refine Gr.drewN ?_ _) | (with_reducible refine Gr.setCell ?_ (by simp <;> omega) _) | (with_reducible refine Gr.trans ?_ (by with_reducible assumption)) | exact Gr.refl _ | assumption | refine Gr.alloc ?_ _ | refine Gr.drew ?_ | refine Gr.drewN ?_ _ | refine Gr.setCell ?_ (by simp <;> omega) _ | refine Gr.trans ?_ (by assumption))) HM.out)).mono ?_); rintro e w5 ⟨rfl, hb5⟩; obtain ⟨hc5, hf5⟩ := hb5.cells; have hz5 : w.heap.size < w5.heap.size := (by have h := Gr.size hb5; (try simp at h); omega)))
  have G6 := Lib.hid (show Gr w w5 from (by repeat (first | (with_reducible exact Gr.refl _) | (with_reducible assumption) | (with_reducible refine Gr.alloc ?_ _) | (with_reducible refine Gr.drew ?_) | (with_reducible refine Gr.drewN ?_ _) | (with_reducible refine Gr.setCell ?_ (by simp <;> omega) _) | (with_reducible refine Gr.trans ?_ (by with_reducible assumption)) | exact Gr.refl _ | assumption | refine Gr.alloc ?_ _ | refine Gr.drew ?_ | refine Gr.drewN ?_ _ | refine Gr.setCell ?_ (by simp <;> omega) _ | refine Gr.trans ?_ (by assumption))))
  have b0 : w5.cell? ⟨w.heap.size, 0, none⟩ = some (.string x) := by simp [go_sem, *]
  have b1 : w5.cell? ⟨w.heap.size, 1, none⟩ = some (.slice A n c) := by simp [go_sem, *]
  clear hc hf hb hz hz0 hc4 hf4 hz4 hz40 hc5 hf5 hb5 HV HF'
  generalize w5 = W5 at *
  go_upto_region 7 with (first
    | (go_at_call 19; (with_reducible refine (OwnStorage_more x A n c bs _ (HS.out.gr (G6.out.trans (by repeat (first | (with_reducible exact Gr.refl _) | (with_reducible assumption) | (with_reducible refine Gr.alloc ?_ _) | (with_reducible refine Gr.drew ?_) | (with_reducible refine Gr.drewN ?_ _) | (with_reducible refine Gr.setCell ?_ (by simp <;> omega) _) | (with_reducible refine Gr.trans ?_ (by with_reducible assumption)) | exact Gr.refl _ | assumption | refine Gr.alloc ?_ _ | refine Gr.drew ?_ | refine Gr.drewN ?_ _ | refine Gr.setCell ?_ (by simp <;> omega) _ | refine Gr.trans ?_ (by assumption))))) hn).mono ?_); rintro e w4 ⟨⟨A2, c2, rfl, hV, hb⟩, hz4⟩; have HV := Lib.hid hV; clear hV; obtain ⟨hc4, hf4⟩ := hb.cells; (try simp at hz4); have hz40 : w.heap.size < w4.heap.size := (by omega))
    | (go_at_call 41; (with_reducible refine (HP'.out _ _ _ (HV.out.sv.gr (by repeat (first | (with_reducible exact Gr.refl _) | (with_reducible assumption) | (with_reducible refine Gr.alloc ?_ _) | (with_reducible refine Gr.drew ?_) | (with_reducible refine Gr.drewN ?_ _) | (with_reducible refine Gr.setCell ?_ (by simp <;> omega) _) | (with_reducible refine Gr.trans ?_ (by with_reducible assumption)) | exact Gr.refl _ | assumption | refine Gr.alloc ?_ _ | refine Gr.drew ?_ | refine Gr.drewN ?_ _ | refine Gr.setCell ?_ (by simp <;> omega) _ | refine Gr.trans ?_ (by assumption))))).mono ?_); rintro e w6 ⟨A3, c3, rfl, hV3, hb3⟩; have HV3 := Lib.hid hV3; clear hV3; obtain ⟨hc6, hf6⟩ := hb3.cells; have hz6 : w.heap.size < w6.heap.size := (by have h := Gr.size hb3; (try simp at h); omega)))
  have G7 := Lib.hid (G6.out.trans (show Gr W5 w6 from (by repeat (first | (with_reducible exact Gr.refl _) | (with_reducible assumption) | (with_reducible refine Gr.alloc ?_ _) | (with_reducible refine Gr.drew ?_) | (with_reducible refine Gr.drewN ?_ _) | (with_reducible refine Gr.setCell ?_ (by simp <;> omega) _) | (with_reducible refine Gr.trans ?_ (by with_reducible assumption)) | exact Gr.refl _ | assumption | refine Gr.alloc ?_ _ | refine Gr.drew ?_ | refine Gr.drewN ?_ _ | refine Gr.setCell ?_ (by simp <;> omega) _ | refine Gr.trans ?_ (by assumption)))))
  have b0' : w6.cell? ⟨w.heap.size, 0, none⟩ = some (.string x) := by simp [go_sem, *]
  have b1' : w6.cell? ⟨w.heap.size, 1, none⟩ = some (.slice A n c) := by simp [go_sem, *]
  clear hc4 hf4 hz4 hz40 hc6 hf6 hb3 hb HV HP' b0 b1 G6
  generalize w6 = W6 at *
  rcases H.out with ⟨C, hC, hC0, rfl, rfl, rfl, rfl⟩ | ⟨hC, rfl, hP, hcs⟩
  · have e0 : (f == 0) = false := by simp [hC0]
    have e1 : (f != 0) = true := by simp [hC0]
    have HE' := Lib.hid (show ∀ (W : World) (hg : Gr W6 W), Calls Try.prog 28 #[.agg #[.string x, .slice A n c]] W fun e w' => e = .returned (.int .i64 f) ∧ Gr W w' from fun W hg => Err_is x A n c bs f hC W (HS.out.gr (G7.out.trans hg)) hx)
    clear hC0 hC H
    go_wp2_with (go_at_call 28; (with_reducible refine (HE'.out _ (by repeat (first | (with_reducible exact Gr.refl _) | (with_reducible assumption) | (with_reducible refine Gr.alloc ?_ _) | (with_reducible refine Gr.drew ?_) | (with_reducible refine Gr.drewN ?_ _) | (with_reducible refine Gr.setCell ?_ (by simp <;> omega) _) | (with_reducible refine Gr.trans ?_ (by with_reducible assumption)) | exact Gr.refl _ | assumption | refine Gr.alloc ?_ _ | refine Gr.drew ?_ | refine Gr.drewN ?_ _ | refine Gr.setCell ?_ (by simp <;> omega) _ | refine Gr.trans ?_ (by assumption)))).mono ?_); rintro e w7 ⟨rfl, hb⟩)
    go_ret
    exact ⟨rfl, G7.out.trans (by repeat (first | (with_reducible exact Gr.refl _) | (with_reducible assumption) | (with_reducible refine Gr.alloc ?_ _) | (with_reducible refine Gr.drew ?_) | (with_reducible refine Gr.drewN ?_ _) | (with_reducible refine Gr.setCell ?_ (by simp <;> omega) _) | (with_reducible refine Gr.trans ?_ (by with_reducible assumption)) | exact Gr.refl _ | assumption | refine Gr.alloc ?_ _ | refine Gr.drew ?_ | refine Gr.drewN ?_ _ | refine Gr.setCell ?_ (by simp <;> omega) _ | refine Gr.trans ?_ (by assumption)))⟩
  · have HE' := Lib.hid (show ∀ (W : World) (hg : Gr W6 W), Calls Try.prog 28 #[.agg #[.string x, .slice A n c]] W fun e w' => e = .returned (.int .i64 0) ∧ Gr W w' from fun W hg => Err_is x A n c bs 0 hC W (HS.out.gr (G7.out.trans hg)) hx)
    have HQ := Lib.hid (show ∀ (W : World) (hg : Gr W6 W), Calls Try.prog 43 #[.agg #[.string x, .slice A n c]] W (SlI xs m W) from fun W hg => hP W A c (HS.out.gr (G7.out.trans hg)))
    clear hC hP H
    go_upto_region 12 with (first
      | (go_at_call 28; (with_reducible refine (HE'.out _ (by repeat (first | (with_reducible exact Gr.refl _) | (with_reducible assumption) | (with_reducible refine Gr.alloc ?_ _) | (with_reducible refine Gr.drew ?_) | (with_reducible refine Gr.drewN ?_ _) | (with_reducible refine Gr.setCell ?_ (by simp <;> omega) _) | (with_reducible refine Gr.trans ?_ (by with_reducible assumption)) | exact Gr.refl _ | assumption | refine Gr.alloc ?_ _ | refine Gr.drew ?_ | refine Gr.drewN ?_ _ | refine Gr.setCell ?_ (by simp <;> omega) _ | refine Gr.trans ?_ (by assumption)))).mono ?_); rintro e w7 ⟨rfl, hb⟩; obtain ⟨hc7, hf7⟩ := hb.cells; have hz7 : w.heap.size < w7.heap.size := (by have h := Gr.size hb; (try simp at h); omega))
      | (go_at_call 43; (with_reducible refine (HQ.out _ (by repeat (first | (with_reducible exact Gr.refl _) | (with_reducible assumption) | (with_reducible refine Gr.alloc ?_ _) | (with_reducible refine Gr.drew ?_) | (with_reducible refine Gr.drewN ?_ _) | (with_reducible refine Gr.setCell ?_ (by simp <;> omega) _) | (with_reducible refine Gr.trans ?_ (by with_reducible assumption)) | exact Gr.refl _ | assumption | refine Gr.alloc ?_ _ | refine Gr.drew ?_ | refine Gr.drewN ?_ _ | refine Gr.setCell ?_ (by simp <;> omega) _ | refine Gr.trans ?_ (by assumption)))).mono ?_); rintro e w8 ⟨A8, c8, rfl, hV8, hb8⟩; have HV8 := Lib.hid hV8; clear hV8; obtain ⟨hc8, hf8⟩ := hb8.cells; have hz8 : w.heap.size < w8.heap.size := (by have h := Gr.size hb8; (try simp at h); omega))
      | (go_at_call 42; (with_reducible refine (Ints_same A3 A8 m c3 c8 xs _ (HV3.out.gr (by repeat (first | (with_reducible exact Gr.refl _) | (with_reducible assumption) | (with_reducible refine Gr.alloc ?_ _) | (with_reducible refine Gr.drew ?_) | (with_reducible refine Gr.drewN ?_ _) | (with_reducible refine Gr.setCell ?_ (by simp <;> omega) _) | (with_reducible refine Gr.trans ?_ (by with_reducible assumption)) | exact Gr.refl _ | assumption | refine Gr.alloc ?_ _ | refine Gr.drew ?_ | refine Gr.drewN ?_ _ | refine Gr.setCell ?_ (by simp <;> omega) _ | refine Gr.trans ?_ (by assumption)))) (HV8.out.gr (by repeat (first | (with_reducible exact Gr.refl _) | (with_reducible assumption) | (with_reducible refine Gr.alloc ?_ _) | (with_reducible refine Gr.drew ?_) | (with_reducible refine Gr.drewN ?_ _) | (with_reducible refine Gr.setCell ?_ (by simp <;> omega) _) | (with_reducible refine Gr.trans ?_ (by with_reducible assumption)) | exact Gr.refl _ | assumption | refine Gr.alloc ?_ _ | refine Gr.drew ?_ | refine Gr.drewN ?_ _ | refine Gr.setCell ?_ (by simp <;> omega) _ | refine Gr.trans ?_ (by assumption))))).mono ?_); rintro e w9 ⟨rfl, hb9⟩; obtain ⟨hc9, hf9⟩ := hb9.cells; have hz9 : w.heap.size < w9.heap.size := (by have h := Gr.size hb9; (try simp at h); omega)))
    have G9 := Lib.hid (G7.out.trans (show Gr W6 w9 from (by repeat (first | (with_reducible exact Gr.refl _) | (with_reducible assumption) | (with_reducible refine Gr.alloc ?_ _) | (with_reducible refine Gr.drew ?_) | (with_reducible refine Gr.drewN ?_ _) | (with_reducible refine Gr.setCell ?_ (by simp <;> omega) _) | (with_reducible refine Gr.trans ?_ (by with_reducible assumption)) | exact Gr.refl _ | assumption | refine Gr.alloc ?_ _ | refine Gr.drew ?_ | refine Gr.drewN ?_ _ | refine Gr.setCell ?_ (by simp <;> omega) _ | refine Gr.trans ?_ (by assumption)))))
    have b0 : w9.cell? ⟨w.heap.size, 0, none⟩ = some (.string x) := by simp [go_sem, *]
    have b1 : w9.cell? ⟨w.heap.size, 1, none⟩ = some (.slice A n c) := by simp [go_sem, *]
    clear hc7 hf7 hz7 hc8 hf8 hz8 hc9 hf9 hb hb8 hb9 HV3 HV8 HQ HE' b0' b1' G7
    generalize w9 = W9 at *
    rcases hcs with ⟨hw, rfl, rfl⟩ | ⟨hw, hem, rfl, rfl⟩ | ⟨hw, hem, R, hR, hRR⟩
    · have HW := Lib.hid hw
      clear hw
      go_wp2_with (go_at_call 22; (with_reducible refine (Within_is _ _ _ false HW.out _).mono ?_); rintro e w1 ⟨rfl, rfl⟩)
      go_ret
      exact ⟨rfl, G9.out.trans (by repeat (first | (with_reducible exact Gr.refl _) | (with_reducible assumption) | (with_reducible refine Gr.alloc ?_ _) | (with_reducible refine Gr.drew ?_) | (with_reducible refine Gr.drewN ?_ _) | (with_reducible refine Gr.setCell ?_ (by simp <;> omega) _) | (with_reducible refine Gr.trans ?_ (by with_reducible assumption)) | exact Gr.refl _ | assumption | refine Gr.alloc ?_ _ | refine Gr.drew ?_ | refine Gr.drewN ?_ _ | refine Gr.setCell ?_ (by simp <;> omega) _ | refine Gr.trans ?_ (by assumption)))⟩
    · have HW := Lib.hid hw
      clear hw
      go_wp2_with (go_at_call 22; (with_reducible refine (Within_is _ _ _ true HW.out _).mono ?_); rintro e w1 ⟨rfl, rfl⟩)
      go_ret
      exact ⟨rfl, G9.out.trans (by repeat (first | (with_reducible exact Gr.refl _) | (with_reducible assumption) | (with_reducible refine Gr.alloc ?_ _) | (with_reducible refine Gr.drew ?_) | (with_reducible refine Gr.drewN ?_ _) | (with_reducible refine Gr.setCell ?_ (by simp <;> omega) _) | (with_reducible refine Gr.trans ?_ (by with_reducible assumption)) | exact Gr.refl _ | assumption | refine Gr.alloc ?_ _ | refine Gr.drew ?_ | refine Gr.drewN ?_ _ | refine Gr.setCell ?_ (by simp <;> omega) _ | refine Gr.trans ?_ (by assumption)))⟩
    · have HW := Lib.hid hw
      have HR := Lib.hid hR
      clear hw hR
      rcases hRR with ⟨rfl, rfl, rfl⟩ | ⟨rfl, h0, rfl⟩
      · go_wp2_with (first
          | (go_at_call 22; (with_reducible refine (Within_is _ _ _ true HW.out _).mono ?_); rintro e w1 ⟨rfl, rfl⟩)
          | (go_at_call 44; (with_reducible refine (HR.out _ A c).mono ?_); rintro e w10 ⟨rfl, hb10⟩))
        go_ret
        exact ⟨rfl, G9.out.trans (by repeat (first | (with_reducible exact Gr.refl _) | (with_reducible assumption) | (with_reducible refine Gr.alloc ?_ _) | (with_reducible refine Gr.drew ?_) | (with_reducible refine Gr.drewN ?_ _) | (with_reducible refine Gr.setCell ?_ (by simp <;> omega) _) | (with_reducible refine Gr.trans ?_ (by with_reducible assumption)) | exact Gr.refl _ | assumption | refine Gr.alloc ?_ _ | refine Gr.drew ?_ | refine Gr.drewN ?_ _ | refine Gr.setCell ?_ (by simp <;> omega) _ | refine Gr.trans ?_ (by assumption)))⟩
      · have e0 : (R == -1) = false := by simp; omega
        have e1 : (R != -1) = true := by simp; omega
        go_wp2_with (first
          | (go_at_call 22; (with_reducible refine (Within_is _ _ _ true HW.out _).mono ?_); rintro e w1 ⟨rfl, rfl⟩)
          | (go_at_call 44; (with_reducible refine (HR.out _ A c).mono ?_); rintro e w10 ⟨rfl, hb10⟩))
        go_ret
        exact ⟨ret_bool (by simp), G9.out.trans (by repeat (first | (with_reducible exact Gr.refl _) | (with_reducible assumption) | (with_reducible refine Gr.alloc ?_ _) | (with_reducible refine Gr.drew ?_) | (with_reducible refine Gr.drewN ?_ _) | (with_reducible refine Gr.setCell ?_ (by simp <;> omega) _) | (with_reducible refine Gr.trans ?_ (by with_reducible assumption)) | exact Gr.refl _ | assumption | refine Gr.alloc ?_ _ | refine Gr.drew ?_ | refine Gr.drewN ?_ _ | refine Gr.setCell ?_ (by simp <;> omega) _ | refine Gr.trans ?_ (by assumption)))⟩
end Go.Proofs.Ytbgeghodiibmmaa
