/- Texts of the walks, merged. -/
import Derived.Test.YtnaflaokhldfnaaQ09
namespace Go.Proofs.Ytnaflaokhldfnaa
set_option linter.unusedSimpArgs false
set_option linter.unusedVariables false
open Go.RowKit

theorem checkOperation_any (op : Int) (w : World) :
    Calls Try.prog 20 #[.int .i64 op] w fun e w' => e = .returned (.int .i64 (pick (decide (op < 0 ∨ 5 ≤ op)) 4)) ∧ w = w' := by
  by_cases h1 : op < 0
  · have E := Lib.hid (show decide (op < 0 ∨ 5 ≤ op) = true by simp [h1])
    go_enter Try.func20, Try.ntmps20
    go_wp2_with ((go_at_call 50; (with_reducible refine (errorIf_any _ _ _).mono ?_); rintro e w1 ⟨rfl, rfl⟩))
    go_ret
    exact ⟨by rw [E.out]; rfl, rfl⟩
  · by_cases h2 : 5 ≤ op
    · have E := Lib.hid (show decide (op < 0 ∨ 5 ≤ op) = true by simp [h2])
      go_enter Try.func20, Try.ntmps20
      go_wp2_with ((go_at_call 50; (with_reducible refine (errorIf_any _ _ _).mono ?_); rintro e w1 ⟨rfl, rfl⟩))
      go_ret
      exact ⟨by rw [E.out]; rfl, rfl⟩
    · have E := Lib.hid (show decide (op < 0 ∨ 5 ≤ op) = false by rw [decide_eq_false_iff_not]; omega)
      go_enter Try.func20, Try.ntmps20
      go_wp2_with ((go_at_call 50; (with_reducible refine (errorIf_any _ _ _).mono ?_); rintro e w1 ⟨rfl, rfl⟩))
      go_ret
      exact ⟨by rw [E.out]; rfl, rfl⟩
/-- Does an operation divide by zero? -/
def dvB (op m : Int) : Bool := (decide (op = 3) || decide (op = 4)) && decide (m = 0)
theorem checkDivisor_any (op m t : Int) (w : World) :
    Calls Try.prog 24 #[.int .i64 op, .agg #[.int .i64 m, .int .i64 t]] w fun e w' => e = .returned (.int .i64 (pick (dvB op m) 20)) ∧ Gr w w' := by
  by_cases h3 : op = 3
  · subst h3
    by_cases h0 : m = 0
    · subst h0
      go_enter Try.func24, Try.ntmps24
      go_wp2_with ((go_at_call 50; (with_reducible refine (errorIf_any _ _ _).mono ?_); rintro e w1 ⟨rfl, rfl⟩))
      go_ret
      exact ⟨rfl, (by repeat (first | (with_reducible exact Gr.refl _) | (with_reducible assumption) | (with_reducible refine Gr.alloc ?_ _) | (with_reducible refine Gr.drew ?_) | (with_reducible refine Gr.drewN ?_ _) | (with_reducible refine Gr.setCell ?_ (by simp <;> omega) _) | (with_reducible refine Gr.trans ?_ (by with_reducible assumption)) | exact Gr.refl _ | assumption | refine Gr.alloc ?_ _ | refine Gr.drew ?_ | refine Gr.drewN ?_ _ | refine Gr.setCell ?_ (by simp <;> omega) _ | refine Gr.trans ?_ (by assumption)))⟩
    · have E := Lib.hid (show dvB 3 m = false by simp [dvB, h0])
      have h0' : (m == 0) = false := by simp [h0]
      clear h0
      go_enter Try.func24, Try.ntmps24
      go_wp2_with ((go_at_call 50; (with_reducible refine (errorIf_any _ _ _).mono ?_); rintro e w1 ⟨rfl, rfl⟩))
      go_ret
      exact ⟨by rw [E.out]; rfl, (by repeat (first | (with_reducible exact Gr.refl _) | (with_reducible assumption) | (with_reducible refine Gr.alloc ?_ _) | (with_reducible refine Gr.drew ?_) | (with_reducible refine Gr.drewN ?_ _) | (with_reducible refine Gr.setCell ?_ (by simp <;> omega) _) | (with_reducible refine Gr.trans ?_ (by with_reducible assumption)) | exact Gr.refl _ | assumption | refine Gr.alloc ?_ _ | refine Gr.drew ?_ | refine Gr.drewN ?_ _ | refine Gr.setCell ?_ (by simp <;> omega) _ | refine Gr.trans ?_ (by assumption)))⟩
  · by_cases h4 : op = 4
    · subst h4
      by_cases h0 : m = 0
      · subst h0
        go_enter Try.func24, Try.ntmps24
        go_wp2_with ((go_at_call 50; (with_reducible refine (errorIf_any _ _ _).mono ?_); rintro e w1 ⟨rfl, rfl⟩))
        go_ret
        exact ⟨rfl, (by repeat (first | (with_reducible exact Gr.refl _) | (with_reducible assumption) | (with_reducible refine Gr.alloc ?_ _) | (with_reducible refine Gr.drew ?_) | (with_reducible refine Gr.drewN ?_ _) | (with_reducible refine Gr.setCell ?_ (by simp <;> omega) _) | (with_reducible refine Gr.trans ?_ (by with_reducible assumption)) | exact Gr.refl _ | assumption | refine Gr.alloc ?_ _ | refine Gr.drew ?_ | refine Gr.drewN ?_ _ | refine Gr.setCell ?_ (by simp <;> omega) _ | refine Gr.trans ?_ (by assumption)))⟩
      · have E := Lib.hid (show dvB 4 m = false by simp [dvB, h0])
        have h0' : (m == 0) = false := by simp [h0]
        clear h0
        go_enter Try.func24, Try.ntmps24
        go_wp2_with ((go_at_call 50; (with_reducible refine (errorIf_any _ _ _).mono ?_); rintro e w1 ⟨rfl, rfl⟩))
        go_ret
        exact ⟨by rw [E.out]; rfl, (by repeat (first | (with_reducible exact Gr.refl _) | (with_reducible assumption) | (with_reducible refine Gr.alloc ?_ _) | (with_reducible refine Gr.drew ?_) | (with_reducible refine Gr.drewN ?_ _) | (with_reducible refine Gr.setCell ?_ (by simp <;> omega) _) | (with_reducible refine Gr.trans ?_ (by with_reducible assumption)) | exact Gr.refl _ | assumption | refine Gr.alloc ?_ _ | refine Gr.drew ?_ | refine Gr.drewN ?_ _ | refine Gr.setCell ?_ (by simp <;> omega) _ | refine Gr.trans ?_ (by assumption)))⟩
    · have E := Lib.hid (show dvB op m = false by simp [dvB, h3, h4])
      have h3' : (op == 3) = false := by simp [h3]
      have h4' : (op == 4) = false := by simp [h4]
      clear h3 h4
      go_enter Try.func24, Try.ntmps24
      go_wp2_with ((go_at_call 50; (with_reducible refine (errorIf_any _ _ _).mono ?_); rintro e w1 ⟨rfl, rfl⟩))
      go_ret
      exact ⟨by rw [E.out]; rfl, (by repeat (first | (with_reducible exact Gr.refl _) | (with_reducible assumption) | (with_reducible refine Gr.alloc ?_ _) | (with_reducible refine Gr.drew ?_) | (with_reducible refine Gr.drewN ?_ _) | (with_reducible refine Gr.setCell ?_ (by simp <;> omega) _) | (with_reducible refine Gr.trans ?_ (by with_reducible assumption)) | exact Gr.refl _ | assumption | refine Gr.alloc ?_ _ | refine Gr.drew ?_ | refine Gr.drewN ?_ _ | refine Gr.setCell ?_ (by simp <;> omega) _ | refine Gr.trans ?_ (by assumption)))⟩

theorem first0_split {x : Int} {l : List Int} (h : first0 (x :: l) = 0) : x = 0 ∧ first0 l = 0 := by
  unfold first0 at h
  by_cases e : x = 0
  · rw [if_pos e] at h; exact ⟨e, h⟩
  · rw [if_neg e] at h; exact absurd h e
/-- The error of a calculation. -/
def caErr (op n s m t k l sc : Int) : Int := first0 [pick (decide (op < 0 ∨ 5 ≤ op)) 4, numErr n s, numErr m t, typeErr k l sc, pick (!isNum k) 17, pick (dvB op m) 20]
theorem caErr_ok {op n s m t k l sc : Int} (h : caErr op n s m t k l sc = 0) : (0 ≤ op ∧ op ≤ 4) ∧ cvErr n s k l sc = 0 ∧ numErr m t = 0 ∧ dvB op m = false := by
  unfold caErr at h
  obtain ⟨h1, h⟩ := first0_split h
  obtain ⟨h2, h⟩ := first0_split h
  obtain ⟨h3, h⟩ := first0_split h
  obtain ⟨h4, h⟩ := first0_split h
  obtain ⟨h5, h⟩ := first0_split h
  obtain ⟨h6, -⟩ := first0_split h
  refine ⟨?_, ?_, h3, ?_⟩
  · unfold pick at h1
    by_cases e : op < 0 ∨ 5 ≤ op
    · rw [decide_eq_true e] at h1; simp at h1
    · omega
  · unfold cvErr; simp only [first0]; rw [if_pos h2, if_pos h4, h5]; rfl
  · rcases hb : dvB op m with _ | _
    · rfl
    · rw [hb] at h6; simp [pick] at h6
/-- The error of the checks, in its variable. -/
def CcC (a : World) (E : Int) (s12 : Value) (W : World) : Prop := s12 = .int .i64 E ∧ Gr a W

set_option maxHeartbeats 8000000 in
set_option maxRecDepth 100000 in
theorem Calculated_core (op n s m t k l sc N E : Int) (half : Bool) (X : Value) (c : Bool) (F : Int) (hF : caErr op n s m t k l sc = F) (hc : (F != 0) = c) (hNE : c = true → N = 0 ∧ E = F)
    (hR : c = false → ∀ w, Calls Try.prog 25 #[.int .i64 op, .agg #[.int .i64 n, .int .i64 s], .agg #[.int .i64 m, .int .i64 t]] w fun e w' => e = .returned X ∧ Gr w w')
    (hP : c = false → ∀ w, Calls Try.prog 26 #[X, .agg #[.int .i64 k, .int .i64 l, .int .i64 sc], .bool half] w fun e w' => e = .returned (.tuple #[.agg #[.int .i64 N, .string ⟨#[]⟩], .int .i64 E]) ∧ Gr w w') (w : World) :
    Calls Try.prog 8 #[.int .i64 op, .agg #[.int .i64 n, .int .i64 s], .agg #[.int .i64 m, .int .i64 t], .agg #[.int .i64 k, .int .i64 l, .int .i64 sc], .bool half] w fun e w' => e = .returned (.tuple #[.agg #[.int .i64 N, .string ⟨#[]⟩], .int .i64 E]) ∧ Gr w w' := by
  have hfe : ∀ b cap W, W.cell? ⟨b, 0, none⟩ = some (.int .i64 (pick (decide (op < 0 ∨ 5 ≤ op)) 4)) → W.cell? ⟨b, 1, none⟩ = some (.int .i64 (numErr n s)) → W.cell? ⟨b, 2, none⟩ = some (.int .i64 (numErr m t)) → W.cell? ⟨b, 3, none⟩ = some (.int .i64 (typeErr k l sc)) → W.cell? ⟨b, 4, none⟩ = some (.int .i64 (pick (!isNum k) 17)) → W.cell? ⟨b, 5, none⟩ = some (.int .i64 (pick (dvB op m) 20)) → Calls Try.prog 19 #[.slice (some ⟨b, 0, none⟩) 6 cap] W fun e w' => e = .returned (.int .i64 F) ∧ W = w' := fun b cap W h0 h1 h2 h3 h4 h5 => by rw [← hF]; exact firstError6 _ _ _ _ _ _ b cap W h0 h1 h2 h3 h4 h5
  have c1 := checkOperation_any op
  have c2 := CheckNumber_any n s
  have c3 := CheckNumber_any m t
  have c4 := CheckType_any k l sc
  have c5 := checkNumeric_one k l sc
  have c6 := checkDivisor_any op m t
  clear hF
  generalize pick (decide (op < 0 ∨ 5 ≤ op)) 4 = E1 at *
  generalize numErr n s = E2 at *
  generalize numErr m t = E3 at *
  generalize typeErr k l sc = E4 at *
  generalize pick (!isNum k) 17 = E5 at *
  generalize pick (dvB op m) 20 = E6 at *
  go_enter Try.func8, Try.ntmps8
  go_wp2
  have q : ∀ W, W = (((w.alloc (.cells #[.int .i64 n, .int .i64 s] 27)).alloc (.cells #[.int .i64 m, .int .i64 t] 27)).alloc (.cells #[.int .i64 k, .int .i64 l, .int .i64 sc] 23)).alloc (.cells #[.int .i64 0, .string ⟨#[]⟩] 32) → (W.cell? ⟨w.heap.size, 0, none⟩ = some (.int .i64 n) ∧ W.cell? ⟨w.heap.size, 1, none⟩ = some (.int .i64 s) ∧ W.cell? ⟨w.heap.size + 1, 0, none⟩ = some (.int .i64 m) ∧ W.cell? ⟨w.heap.size + 1, 1, none⟩ = some (.int .i64 t) ∧ W.cell? ⟨w.heap.size + 1 + 1, 0, none⟩ = some (.int .i64 k) ∧ W.cell? ⟨w.heap.size + 1 + 1, 1, none⟩ = some (.int .i64 l) ∧ W.cell? ⟨w.heap.size + 1 + 1, 2, none⟩ = some (.int .i64 sc) ∧ W.cell? ⟨w.heap.size + 1 + 1 + 1, 0, none⟩ = some (.int .i64 0) ∧ W.cell? ⟨w.heap.size + 1 + 1 + 1, 1, none⟩ = some (.string ⟨#[]⟩) ∧ W.frozen? ⟨w.heap.size + 1 + 1 + 1, 0, none⟩ = false ∧ W.frozen? ⟨w.heap.size + 1 + 1 + 1, 1, none⟩ = false ∧ Gr w W ∧ w.heap.size + 1 + 1 + 1 < W.heap.size) := by
    rintro W rfl
    refine ⟨?_, ?_, ?_, ?_, ?_, ?_, ?_, ?_, ?_, ?_, ?_, (by repeat (first | (with_reducible exact Gr.refl _) | (with_reducible assumption) | (with_reducible refine Gr.alloc ?_ _) | (with_reducible refine Gr.drew ?_) | (with_reducible refine Gr.drewN ?_ _) | (with_reducible refine Gr.setCell ?_ (by simp <;> omega) _) | (with_reducible refine Gr.trans ?_ (by with_reducible assumption)) | exact Gr.refl _ | assumption | refine Gr.alloc ?_ _ | refine Gr.drew ?_ | refine Gr.drewN ?_ _ | refine Gr.setCell ?_ (by simp <;> omega) _ | refine Gr.trans ?_ (by assumption))), ?_⟩ <;> first | (simp [go_sem]; done) | (simp; done) | (simp; omega)
  obtain ⟨q0, q1, q2, q3, q4, q5, q6, v0, v1, f0, f1, hG, hz⟩ := q _ rfl
  have HG := Lib.hid hG
  clear q hG
  generalize (((w.alloc (.cells #[.int .i64 n, .int .i64 s] 27)).alloc (.cells #[.int .i64 m, .int .i64 t] 27)).alloc (.cells #[.int .i64 k, .int .i64 l, .int .i64 sc] 23)).alloc (.cells #[.int .i64 0, .string ⟨#[]⟩] 32) = W0 at *
  have HWS := Lib.hid (fun (W : World) (h : Gr w W) (u v : Value) => (h.setCell (p := ⟨w.heap.size + 1 + 1 + 1, 0, none⟩) (by simp; omega) u).setCell (p := ⟨w.heap.size + 1 + 1 + 1, 1, none⟩) (by simp; omega) v)
  generalize w.heap.size = G at *
  go_cut [12] (fun s12 wx => CcC W0 F s12 wx)
  case first =>
    go_region_held3 (fun w' => w'.cell? ⟨G, 0, none⟩ = some (.int .i64 n) ∧ w'.cell? ⟨G, 1, none⟩ = some (.int .i64 s) ∧ w'.cell? ⟨G + 1, 0, none⟩ = some (.int .i64 m) ∧ w'.cell? ⟨G + 1, 1, none⟩ = some (.int .i64 t) ∧ w'.cell? ⟨G + 1 + 1, 0, none⟩ = some (.int .i64 k) ∧ w'.cell? ⟨G + 1 + 1, 1, none⟩ = some (.int .i64 l) ∧ w'.cell? ⟨G + 1 + 1, 2, none⟩ = some (.int .i64 sc)) (((try go_split_ands); (repeat' apply And.intro) <;> ((try simp only [World.cell?_drew]); first | (with_reducible assumption) | (simp [go_sem]; done) | ((repeat (first | (refine keepFar ?_ (by first | (dsimp only; omega) | (simp; done) | (simp; omega))) | (refine (Gr.alloc (Gr.refl _) _).keep ?_))); (try simp only [World.cell?_drew]); first | (with_reducible assumption) | (refine hb.keep ?_; (try simp only [World.cell?_drew]); first | (with_reducible assumption) | (simp [go_sem]; done) | ((repeat (refine (Gr.alloc (Gr.refl _) _).keep ?_)); (try simp only [World.cell?_drew]); (with_reducible assumption))) | (simp [*, go_sem]; done)))))
      (first
        | (go_at_call 20; (with_reducible refine (c1 _).mono ?_); rintro e wA ⟨rfl, rfl⟩)
        | (go_at_call 21; (with_reducible refine (c2 _).mono ?_); rintro e wB ⟨rfl, hb⟩; have hB := hb; have gB := Lib.hid (show Gr W0 wB from (by repeat (first | (with_reducible exact Gr.refl _) | (with_reducible assumption) | (with_reducible refine Gr.alloc ?_ _) | (with_reducible refine Gr.drew ?_) | (with_reducible refine Gr.drewN ?_ _) | (with_reducible refine Gr.setCell ?_ (by simp <;> omega) _) | (with_reducible refine Gr.trans ?_ (by with_reducible assumption)) | exact Gr.refl _ | assumption | refine Gr.alloc ?_ _ | refine Gr.drew ?_ | refine Gr.drewN ?_ _ | refine Gr.setCell ?_ (by simp <;> omega) _ | refine Gr.trans ?_ (by assumption)))))
        | (go_at_call 21; (with_reducible refine (c3 _).mono ?_); rintro e wC ⟨rfl, hb⟩; have hC := hb; have gC := Lib.hid (show Gr W0 wC from gB.out.trans (Gr.trans (by repeat (first | (with_reducible exact Gr.refl _) | (with_reducible assumption) | (with_reducible refine Gr.alloc ?_ _) | (with_reducible refine Gr.drew ?_) | (with_reducible refine Gr.drewN ?_ _) | (with_reducible refine Gr.setCell ?_ (by simp <;> omega) _) | (with_reducible refine Gr.trans ?_ (by with_reducible assumption)) | exact Gr.refl _ | assumption | refine Gr.alloc ?_ _ | refine Gr.drew ?_ | refine Gr.drewN ?_ _ | refine Gr.setCell ?_ (by simp <;> omega) _ | refine Gr.trans ?_ (by assumption))) hb)))
        | (go_at_call 22; (with_reducible refine (c4 _).mono ?_); rintro e wD ⟨rfl, hb⟩; have hD := hb; have gD := Lib.hid (show Gr W0 wD from gC.out.trans (Gr.trans (by repeat (first | (with_reducible exact Gr.refl _) | (with_reducible assumption) | (with_reducible refine Gr.alloc ?_ _) | (with_reducible refine Gr.drew ?_) | (with_reducible refine Gr.drewN ?_ _) | (with_reducible refine Gr.setCell ?_ (by simp <;> omega) _) | (with_reducible refine Gr.trans ?_ (by with_reducible assumption)) | exact Gr.refl _ | assumption | refine Gr.alloc ?_ _ | refine Gr.drew ?_ | refine Gr.drewN ?_ _ | refine Gr.setCell ?_ (by simp <;> omega) _ | refine Gr.trans ?_ (by assumption))) hb)))
        | (go_at_call 23; go_loud (refine (c5 _ _ _ ?_ ?_ ?_).mono ?_; (focus ((try with_reducible refine hD.keep ?_); (try with_reducible refine hC.keep ?_); (try with_reducible refine hB.keep ?_); first | (simp; done) | (simp [go_sem]; done))); (focus ((try with_reducible refine hD.keep ?_); (try with_reducible refine hC.keep ?_); (try with_reducible refine hB.keep ?_); first | (simp; done) | (simp [go_sem]; done))); (focus ((try with_reducible refine hD.keep ?_); (try with_reducible refine hC.keep ?_); (try with_reducible refine hB.keep ?_); first | (simp; done) | (simp [go_sem]; done))); rintro e wE ⟨rfl, hb⟩; have hE := hb; have gE := Lib.hid (show Gr W0 wE from gD.out.trans (Gr.trans (by repeat (first | (with_reducible exact Gr.refl _) | (with_reducible assumption) | (with_reducible refine Gr.alloc ?_ _) | (with_reducible refine Gr.drew ?_) | (with_reducible refine Gr.drewN ?_ _) | (with_reducible refine Gr.setCell ?_ (by simp <;> omega) _) | (with_reducible refine Gr.trans ?_ (by with_reducible assumption)) | exact Gr.refl _ | assumption | refine Gr.alloc ?_ _ | refine Gr.drew ?_ | refine Gr.drewN ?_ _ | refine Gr.setCell ?_ (by simp <;> omega) _ | refine Gr.trans ?_ (by assumption))) hb))))
        | (go_at_call 24; (with_reducible refine (c6 _).mono ?_); rintro e wF ⟨rfl, hb⟩; have hFF := hb; have gF := Lib.hid (show Gr W0 wF from gE.out.trans (Gr.trans (by repeat (first | (with_reducible exact Gr.refl _) | (with_reducible assumption) | (with_reducible refine Gr.alloc ?_ _) | (with_reducible refine Gr.drew ?_) | (with_reducible refine Gr.drewN ?_ _) | (with_reducible refine Gr.setCell ?_ (by simp <;> omega) _) | (with_reducible refine Gr.trans ?_ (by with_reducible assumption)) | exact Gr.refl _ | assumption | refine Gr.alloc ?_ _ | refine Gr.drew ?_ | refine Gr.drewN ?_ _ | refine Gr.setCell ?_ (by simp <;> omega) _ | refine Gr.trans ?_ (by assumption))) hb)))
        | (go_at_call 19; go_loud (refine (hfe _ _ _ ?_ ?_ ?_ ?_ ?_ ?_).mono ?_; (focus (first | (simp; done) | (simp [go_sem]; done))); (focus (first | (simp; done) | (simp [go_sem]; done))); (focus (first | (simp; done) | (simp [go_sem]; done))); (focus (first | (simp; done) | (simp [go_sem]; done))); (focus (first | (simp; done) | (simp [go_sem]; done))); (focus (first | (simp; done) | (simp [go_sem]; done))); rintro e wL ⟨rfl, rfl⟩)))
    all_goals
      go_wp2_with fail
      go_meet
      exact ⟨rfl, gF.out.trans (by repeat (first | (with_reducible exact Gr.refl _) | (with_reducible assumption) | (with_reducible refine Gr.alloc ?_ _) | (with_reducible refine Gr.drew ?_) | (with_reducible refine Gr.drewN ?_ _) | (with_reducible refine Gr.setCell ?_ (by simp <;> omega) _) | (with_reducible refine Gr.trans ?_ (by with_reducible assumption)) | exact Gr.refl _ | assumption | refine Gr.alloc ?_ _ | refine Gr.drew ?_ | refine Gr.drewN ?_ _ | refine Gr.setCell ?_ (by simp <;> omega) _ | refine Gr.trans ?_ (by assumption)))⟩
  case rest =>
    obtain ⟨rfl, hG⟩ := hcut
    have p0 := hG.keep q0
    have p1 := hG.keep q1
    have p2 := hG.keep q2
    have p3 := hG.keep q3
    have p4 := hG.keep q4
    have p5 := hG.keep q5
    have p6 := hG.keep q6
    have u0 := hG.keep v0
    have u1 := hG.keep v1
    have g0 := (hG.cells.2 _ _ hz).trans f0
    have g1 := (hG.cells.2 _ _ hz).trans f1
    have GW := Lib.hid (HG.out.trans hG)
    have hzc : G + 1 + 1 + 1 < wc.heap.size := Nat.lt_of_lt_of_le hz hG.size
    clear q0 q1 q2 q3 q4 q5 q6 v0 v1 f0 f1 hG HG hz
    generalize wc = W1 at *
    cases c
    · have hR' := hR rfl
      have hP' := hP rfl
      clear hR hP hNE
      go_wp2
      go_region_held3 (fun w' => w'.cell? ⟨G, 0, none⟩ = some (.int .i64 n) ∧ w'.cell? ⟨G, 1, none⟩ = some (.int .i64 s) ∧ w'.cell? ⟨G + 1, 0, none⟩ = some (.int .i64 m) ∧ w'.cell? ⟨G + 1, 1, none⟩ = some (.int .i64 t) ∧ w'.cell? ⟨G + 1 + 1, 0, none⟩ = some (.int .i64 k) ∧ w'.cell? ⟨G + 1 + 1, 1, none⟩ = some (.int .i64 l) ∧ w'.cell? ⟨G + 1 + 1, 2, none⟩ = some (.int .i64 sc)) (((try go_split_ands); (repeat' apply And.intro) <;> ((try simp only [World.cell?_drew]); first | (with_reducible assumption) | (simp [go_sem]; done) | ((repeat (first | (refine keepFar ?_ (by first | (dsimp only; omega) | (simp; done) | (simp; omega))) | (refine (Gr.alloc (Gr.refl _) _).keep ?_))); (try simp only [World.cell?_drew]); first | (with_reducible assumption) | (refine hb.keep ?_; (try simp only [World.cell?_drew]); first | (with_reducible assumption) | (simp [go_sem]; done) | ((repeat (refine (Gr.alloc (Gr.refl _) _).keep ?_)); (try simp only [World.cell?_drew]); (with_reducible assumption))) | (simp [*, go_sem]; done)))))
        (first
          | (go_at_call 25; (with_reducible refine (hR' _).mono ?_); rintro e wR ⟨rfl, hb⟩; have r9 := (show Gr W1 wR from Gr.trans (by repeat (first | (with_reducible exact Gr.refl _) | (with_reducible assumption) | (with_reducible refine Gr.alloc ?_ _) | (with_reducible refine Gr.drew ?_) | (with_reducible refine Gr.drewN ?_ _) | (with_reducible refine Gr.setCell ?_ (by simp <;> omega) _) | (with_reducible refine Gr.trans ?_ (by with_reducible assumption)) | exact Gr.refl _ | assumption | refine Gr.alloc ?_ _ | refine Gr.drew ?_ | refine Gr.drewN ?_ _ | refine Gr.setCell ?_ (by simp <;> omega) _ | refine Gr.trans ?_ (by assumption))) hb); have R9 := Lib.hid r9; have u0 := r9.keep u0; have u1 := r9.keep u1; have g0 := (r9.cells.2 _ _ hzc).trans g0; have g1 := (r9.cells.2 _ _ hzc).trans g1; have hzc := Nat.lt_of_lt_of_le hzc r9.size; clear r9)
          | (go_at_call 26; (with_reducible refine (hP' _).mono ?_); rintro e wP ⟨rfl, hb⟩; have r9 := (show Gr wR wP from hb); have GP := Lib.hid (GW.out.trans (R9.out.trans r9)); have u0 := r9.keep u0; have u1 := r9.keep u1; have g0 := (r9.cells.2 _ _ hzc).trans g0; have g1 := (r9.cells.2 _ _ hzc).trans g1; clear r9))
      all_goals
        go_wp2
        refine bodyPost_ret (v := .tuple #[.agg #[.int .i64 N, .string ⟨#[]⟩], .int .i64 E]) (by simp [results, Try.results8, go_sem, *]) rfl ⟨rfl, ?_⟩
        exact HWS.out _ GP.out _ _
    · obtain ⟨rfl, rfl⟩ := hNE rfl
      clear hR hP hNE
      go_wp2
      refine bodyPost_ret (v := .tuple #[.agg #[.int .i64 0, .string ⟨#[]⟩], .int .i64 E]) (by simp [results, Try.results8, go_sem, *]) rfl ⟨rfl, ?_⟩
      exact HWS.out _ GW.out _ _
end Go.Proofs.Ytnaflaokhldfnaa
