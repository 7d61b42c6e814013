/- Texts of the walks, merged. -/
import Derived.Test.YtnaflaokhldfnaaQ50
import Derived.Test.YtnaflaokhldfnaaQ14
namespace Go.Proofs.Ytnaflaokhldfnaa
set_option linter.unusedSimpArgs false
set_option linter.unusedVariables false
open Go.RowKit

theorem isDigitT (c : Int) (b : Bool) (hb : dgt c = b) (h0 : 0 ≤ c ∧ c ≤ 255) (w : World) : Calls Try.prog 41 #[.int .u8 c] w fun e w' => e = .returned (.bool b) ∧ w = w' := by
  have HB := Lib.hid hb
  by_cases h1 : 48 ≤ c
  · by_cases h2 : c ≤ 57
    · have e : b = true := by rw [← hb]; simp [dgt, h1, h2]
      subst e
      clear hb
      go_enter Try.func41, Try.ntmps41
      go_wp2
      go_ret
      exact ⟨rfl, rfl⟩
    · have e : b = false := by rw [← hb]; simp [dgt, h1, h2]
      subst e
      clear hb
      go_enter Try.func41, Try.ntmps41
      go_wp2
      go_ret
      exact ⟨rfl, rfl⟩
  · have e : b = false := by rw [← hb]; simp [dgt, h1]
    subst e
    clear hb
    go_enter Try.func41, Try.ntmps41
    go_wp2
    go_ret
    exact ⟨rfl, rfl⟩

theorem ok_pT {f : Nat → Int} {L : Nat} {P : Int} (h : Ok1 f L L P) (hL : L ≠ sgnT f) : pT f L = P := by
  obtain ⟨h1, h2, ⟨rfl, h3, h4, h5⟩ | ⟨q, rfl, h3, h4, h5, h6, h7, h8⟩⟩ := h
  · rw [dE_end] at h3
    have : wE f L = L := by
      unfold wE
      by_cases e : f (sgnT f) = 48
      · rw [if_pos e]; have := h4 e; omega
      · rw [if_neg e]; omega
    unfold pT; rw [if_pos this]
  · unfold pT; rw [← h6, if_neg (by omega)]
theorem ok_dig {f : Nat → Int} {L : Nat} {P : Int} (h : Ok1 f L L P) (hL : L ≠ sgnT f) (j : Nat) (h1 : sgnT f ≤ j) (h2 : j < L) (hj : (j : Int) ≠ P) : dgt (f j) = true := by
  obtain ⟨g1, g2, ⟨rfl, h3, h4, h5⟩ | ⟨q, rfl, h3, h4, h5, h6, h7, h8⟩⟩ := h
  · rw [dE_end] at h3
    exact dE_all f h1 (by omega) g1
  · rw [dE_end] at h8
    by_cases e : j < q
    · by_cases e48 : f (sgnT f) = 48
      · have : q = sgnT f + 1 := by rw [h6]; unfold wE; rw [if_pos e48]
        rw [show j = sgnT f by omega, e48]; decide
      · have : q = dE f L (sgnT f) := by rw [h6]; unfold wE; rw [if_neg e48]
        exact dE_all f h1 (by omega) g1
    · exact dE_all f (L := L) (a := q + 1) (by omega) (by omega) (by omega)

theorem st_skip {f : Nat → Int} {S k : Nat} {P : Int} (h : skp S P k = true) : nvN f S P (k + 1) = nvN f S P k ∧ cntN f S P (k + 1) = cntN f S P k ∧ scN S P (k + 1) = scN S P k := by
  refine ⟨?_, ?_, ?_⟩ <;> simp [nvN, cntN, scN, h]
theorem st_bhd {f : Nat → Int} {S k : Nat} {P : Int} (h : skp S P k = false) (hb : bhd S P k = true) : cntN f S P (k + 1) = cntN f S P k + 1 ∧ scN S P (k + 1) = scN S P k + 1 := by
  refine ⟨?_, ?_⟩ <;> simp [cntN, scN, h, hb]
theorem st_one {f : Nat → Int} {S k : Nat} {P : Int} (h : skp S P k = false) (hb : bhd S P k = false) (hc : 0 < cntN f S P k ∨ f (S + k) ≠ 48) : cntN f S P (k + 1) = cntN f S P k + 1 ∧ scN S P (k + 1) = scN S P k := by
  refine ⟨?_, by simp [scN, h, hb]⟩
  rw [cntN, h, if_neg (by simp), hb, if_pos]
  rcases hc with hc | hc <;> simp [hc]
theorem st_zero {f : Nat → Int} {S k : Nat} {P : Int} (h : skp S P k = false) (hb : bhd S P k = false) (h0 : cntN f S P k = 0) (h48 : f (S + k) = 48) : cntN f S P (k + 1) = cntN f S P k ∧ scN S P (k + 1) = scN S P k := by
  refine ⟨?_, by simp [scN, h, hb]⟩
  rw [cntN, h, if_neg (by simp), hb, if_neg (by simp [h0, h48])]
theorem st_nv {f : Nat → Int} {S k : Nat} {P : Int} (h : skp S P k = false) : (cntN f S P (k + 1) ≤ 15 → nvN f S P (k + 1) = 10 * nvN f S P k + (f (S + k) - 48)) ∧ (15 < cntN f S P (k + 1) → nvN f S P (k + 1) = nvN f S P k) := by
  constructor
  · intro hc; rw [nvN, h, if_neg (by simp), if_pos hc]
  · intro hc; rw [nvN, h, if_neg (by simp), if_neg (by omega)]

/-- The reference's answer. -/
def RpR (x : ByteArray) (w : World) (e : Ending) (w' : World) : Prop := ∃ N Sc At E, TxR x N Sc At E ∧ e = .returned (.agg #[.int .i64 N, .int .i64 Sc, .int .i64 At, .int .i64 E]) ∧ Gr w w'
/-- The second loop's round. -/
def Rd2 (f : Nat → Int) (S L : Nat) (P : Int) (n c s i : Value) : Prop := ∃ (j k : Nat) (V : Int) (C Z : Nat), j = S + k ∧ j ≤ L ∧ i = .int .i64 j ∧ n = .int .i64 V ∧ c = .int .i64 C ∧ s = .int .i64 Z ∧ nvN f S P k = V ∧ cntN f S P k = C ∧ scN S P k = Z
theorem rd2_bd {f : Nat → Int} {S L k : Nat} {P : Int} (hd : ∀ j, S ≤ j → j < L → (j : Int) ≠ P → dgt (f j) = true) (hk : S + k ≤ L) : 0 ≤ nvN f S P k ∧ nvN f S P k < 1000000000000000 ∧ cntN f S P k ≤ k ∧ scN S P k ≤ k := by
  obtain ⟨a, b, -⟩ := nvN_bd (f := f) (a := S) (p := P) k (fun i hi hs => hd (S + i) (by omega) (by omega) (by intro e; simp [skp, e] at hs))
  have := pow15 (k := min (cntN f S P k) 15) (by omega)
  exact ⟨a, by omega, cntN_le _ _ _ _, scN_le _ _ _⟩

set_option maxHeartbeats 1000000 in
set_option maxRecDepth 100000 in
theorem refParse_large (x : ByteArray) (h : 40 < x.size) (hm : x.size ≤ 100) (w : World) : Calls Try.prog 15 #[.string x] w (RpR x w) := by
  go_enter Try.func15, Try.ntmps15
  go_wp2
  exact bodyPost_ret (v := .agg #[.int .i64 0, .int .i64 0, .int .i64 0, .int .i64 2]) (by simp [results, Try.results15, go_sem, *]) rfl ⟨_, _, _, _, .inl ⟨h, rfl, rfl, rfl, rfl⟩, rfl, (by repeat (first | (with_reducible exact Gr.refl _) | (with_reducible assumption) | (with_reducible refine Gr.alloc ?_ _) | (with_reducible refine Gr.drew ?_) | (with_reducible refine Gr.drewN ?_ _) | (with_reducible refine Gr.setCell ?_ (by simp <;> omega) _) | (with_reducible refine Gr.trans ?_ (by with_reducible assumption)) | exact Gr.refl _ | assumption | refine Gr.alloc ?_ _ | refine Gr.drew ?_ | refine Gr.drewN ?_ _ | refine Gr.setCell ?_ (by simp <;> omega) _ | refine Gr.trans ?_ (by assumption)))⟩
set_option maxHeartbeats 1000000 in
set_option maxRecDepth 100000 in
theorem refParse_empty (x : ByteArray) (h : x.size = 0) (hm : x.toList.isEmpty = true) (w : World) : Calls Try.prog 15 #[.string x] w (RpR x w) := by
  go_enter Try.func15, Try.ntmps15
  go_wp2
  exact bodyPost_ret (v := .agg #[.int .i64 0, .int .i64 0, .int .i64 0, .int .i64 1]) (by simp [results, Try.results15, go_sem, *]) rfl ⟨_, _, _, _, .inr (.inl ⟨h, rfl, rfl, rfl, rfl⟩), rfl, (by repeat (first | (with_reducible exact Gr.refl _) | (with_reducible assumption) | (with_reducible refine Gr.alloc ?_ _) | (with_reducible refine Gr.drew ?_) | (with_reducible refine Gr.drewN ?_ _) | (with_reducible refine Gr.setCell ?_ (by simp <;> omega) _) | (with_reducible refine Gr.trans ?_ (by with_reducible assumption)) | exact Gr.refl _ | assumption | refine Gr.alloc ?_ _ | refine Gr.drew ?_ | refine Gr.drewN ?_ _ | refine Gr.setCell ?_ (by simp <;> omega) _ | refine Gr.trans ?_ (by assumption)))⟩
set_option maxHeartbeats 16000000 in
set_option maxRecDepth 100000 in
theorem refParse_main (x : ByteArray) (S : Nat) (bb : Bool) (L : Nat) (hL : x.size = L) (hx1 : 0 < L) (hx : L ≤ 40) (hm : x.toList.isEmpty = false) (hb : (tAt x 0 == 45) = bb)
    (hC : ∀ w, Calls Try.prog 37 #[.bool bb] w fun e w' => e = .returned (.int .i64 S) ∧ w = w') (hSb : Hid ((bb = true ∧ S = 1) ∨ (bb = false ∧ S = 0))) (hS : Hid (sgnT (tAt x) = S)) (hS1 : S ≤ 1) (w : World) : Calls Try.prog 15 #[.string x] w (RpR x w) := by
  have hby0 := tAt_eq x 0 (by omega)
  have HL := Lib.hid hL
  have HX := Lib.hid (show 0 < x.size ∧ x.size ≤ 40 by omega)
  have BD := tAt_bd x
  go_enter Try.func15, Try.ntmps15
  go_wp2_with (go_at_call 37; (with_reducible refine (hC _).mono ?_); rintro e w1 ⟨rfl, rfl⟩)
  go_loop [3, 5] (fun a p => ∃ (q : Nat) (P : Int), S ≤ q ∧ q ≤ L ∧ -1 ≤ P ∧ P ≤ 40 ∧ a = .int .i64 q ∧ p = .int .i64 P ∧ Hid (Ok1 (tAt x) L q P)) (fun a _ => L - (intOf a).toNat)
  case atStart => exact ⟨S, -1, Nat.le_refl _, by omega, by omega, by omega, rfl, rfl, Lib.hid (by rw [← hS.out]; exact ok1_start _ hx1)⟩
  case round =>
    obtain ⟨q, P, hq1, hq2, hP1, hP2, rfl, rfl, hO⟩ := hrel
    clear hby0 hb hC
    by_cases hlt : q < L
    · have hqx : q < x.size := by omega
      have hby := tAt_eq x q hqx
      have hbb := BD q
      have hSx : S < x.size := by omega
      have hbyS := tAt_eq x S hSx
      by_cases hA : tAt x q = 46 ∧ P = -1 ∧ S < q
      · obtain ⟨a1, rfl, a3⟩ := hA
        have e1 : (tAt x q == 46) = true := by simp [a1]
        have HR := Lib.hid (show Ok1 (tAt x) L (q + 1) q from ok1_point _ hO.out (by rw [hS.out]; exact a3) hlt a1)
        clear a1
        go_wp2
        go_round
        case rel => exact ⟨q + 1, q, by omega, by omega, by omega, by omega, by go_num, rfl, HR⟩
        case measure => simp [intOf]; omega
      · by_cases hB : dgt (tAt x q) = true ∧ ¬ (P = -1 ∧ q = S + 1 ∧ tAt x S = 48)
        · obtain ⟨b1, b2⟩ := hB
          have e1 : (tAt x q == 46) = false := by have := dgt_ne46 b1; simp [this]
          have hD := isDigitT (tAt x q) true b1 hbb
          have HR := Lib.hid (show Ok1 (tAt x) L (q + 1) P from ok1_digit _ hO.out hlt b1 (by rw [hS.out]; exact b2))
          by_cases hP : P = -1
          · subst hP
            by_cases hq : q = S + 1
            · have e2 : (tAt x S == 48) = false := by simp; intro e; exact b2 ⟨rfl, hq, e⟩
              have e3 : ((q : Int) == (S : Int) + 1) = true := by simp; omega
              clear b1 b2 hA hq
              go_wp2_with (go_at_call 41; (with_reducible refine (hD _).mono ?_); rintro e w1 ⟨rfl, rfl⟩)
              go_round
              case rel => exact ⟨q + 1, _, by omega, by omega, by omega, by omega, by go_num, rfl, HR⟩
              case measure => simp [intOf]; omega
            · have e3 : ((q : Int) == (S : Int) + 1) = false := by simp; omega
              clear b1 b2 hA hq
              go_wp2_with (go_at_call 41; (with_reducible refine (hD _).mono ?_); rintro e w1 ⟨rfl, rfl⟩)
              go_round
              case rel => exact ⟨q + 1, _, by omega, by omega, by omega, by omega, by go_num, rfl, HR⟩
              case measure => simp [intOf]; omega
          · have e2 : (P == -1) = false := by simp [hP]
            clear b1 b2 hA hP
            go_wp2_with (go_at_call 41; (with_reducible refine (hD _).mono ?_); rintro e w1 ⟨rfl, rfl⟩)
            go_round
            case rel => exact ⟨q + 1, _, by omega, by omega, by omega, by omega, by go_num, rfl, HR⟩
            case measure => simp [intOf]; omega
        · have HR := Lib.hid (show ckT (tAt x) x.size = (q, 8) by
            rw [HL.out]
            refine ck_bad _ hO.out hlt (by rw [hS.out]; exact hA) ?_
            rw [hS.out]
            rcases Bool.eq_false_or_eq_true (dgt (tAt x q)) with g | g
            · exact .inr (Decidable.byContradiction fun g2 => hB ⟨g, g2⟩)
            · exact .inl g)
          rcases Bool.eq_false_or_eq_true (dgt (tAt x q)) with g | g
          · have hz : P = -1 ∧ q = S + 1 ∧ tAt x S = 48 := Decidable.byContradiction fun g2 => hB ⟨g, g2⟩
            obtain ⟨rfl, z2, z3⟩ := hz
            have e1 : (tAt x q == 46) = false := by have := dgt_ne46 g; simp [this]
            have e2 : (tAt x S == 48) = true := by simp [z3]
            have e3 : ((q : Int) == (S : Int) + 1) = true := by simp; omega
            have hD := isDigitT (tAt x q) true g hbb
            clear hA hB g z2 z3
            go_wp2_with (go_at_call 41; (with_reducible refine (hD _).mono ?_); rintro e w1 ⟨rfl, rfl⟩)
            exact bodyPost_ret (v := .agg #[.int .i64 0, .int .i64 0, .int .i64 q, .int .i64 8]) (by simp [results, Try.results15, go_sem, *]) rfl ⟨_, _, _, _, .inr (.inr (.inl ⟨HX.out.1, HX.out.2, by rw [HR.out]; simp, rfl, rfl, by rw [HR.out], by rw [HR.out]⟩)), rfl, (by repeat (first | (with_reducible exact Gr.refl _) | (with_reducible assumption) | (with_reducible refine Gr.alloc ?_ _) | (with_reducible refine Gr.drew ?_) | (with_reducible refine Gr.drewN ?_ _) | (with_reducible refine Gr.setCell ?_ (by simp <;> omega) _) | (with_reducible refine Gr.trans ?_ (by with_reducible assumption)) | exact Gr.refl _ | assumption | refine Gr.alloc ?_ _ | refine Gr.drew ?_ | refine Gr.drewN ?_ _ | refine Gr.setCell ?_ (by simp <;> omega) _ | refine Gr.trans ?_ (by assumption)))⟩
          · have hD := isDigitT (tAt x q) false g hbb
            by_cases h46 : tAt x q = 46
            · have e1 : (tAt x q == 46) = true := by simp [h46]
              by_cases hP : P = -1
              · subst hP
                have h3 : ¬ ((S : Int) < (q : Int)) := by intro e; exact hA ⟨h46, rfl, by omega⟩
                clear hA hB g h46
                go_wp2_with (go_at_call 41; (with_reducible refine (hD _).mono ?_); rintro e w1 ⟨rfl, rfl⟩)
                exact bodyPost_ret (v := .agg #[.int .i64 0, .int .i64 0, .int .i64 q, .int .i64 8]) (by simp [results, Try.results15, go_sem, *]) rfl ⟨_, _, _, _, .inr (.inr (.inl ⟨HX.out.1, HX.out.2, by rw [HR.out]; simp, rfl, rfl, by rw [HR.out], by rw [HR.out]⟩)), rfl, (by repeat (first | (with_reducible exact Gr.refl _) | (with_reducible assumption) | (with_reducible refine Gr.alloc ?_ _) | (with_reducible refine Gr.drew ?_) | (with_reducible refine Gr.drewN ?_ _) | (with_reducible refine Gr.setCell ?_ (by simp <;> omega) _) | (with_reducible refine Gr.trans ?_ (by with_reducible assumption)) | exact Gr.refl _ | assumption | refine Gr.alloc ?_ _ | refine Gr.drew ?_ | refine Gr.drewN ?_ _ | refine Gr.setCell ?_ (by simp <;> omega) _ | refine Gr.trans ?_ (by assumption)))⟩
              · have e2 : (P == -1) = false := by simp [hP]
                clear hA hB g h46 hP
                go_wp2_with (go_at_call 41; (with_reducible refine (hD _).mono ?_); rintro e w1 ⟨rfl, rfl⟩)
                exact bodyPost_ret (v := .agg #[.int .i64 0, .int .i64 0, .int .i64 q, .int .i64 8]) (by simp [results, Try.results15, go_sem, *]) rfl ⟨_, _, _, _, .inr (.inr (.inl ⟨HX.out.1, HX.out.2, by rw [HR.out]; simp, rfl, rfl, by rw [HR.out], by rw [HR.out]⟩)), rfl, (by repeat (first | (with_reducible exact Gr.refl _) | (with_reducible assumption) | (with_reducible refine Gr.alloc ?_ _) | (with_reducible refine Gr.drew ?_) | (with_reducible refine Gr.drewN ?_ _) | (with_reducible refine Gr.setCell ?_ (by simp <;> omega) _) | (with_reducible refine Gr.trans ?_ (by with_reducible assumption)) | exact Gr.refl _ | assumption | refine Gr.alloc ?_ _ | refine Gr.drew ?_ | refine Gr.drewN ?_ _ | refine Gr.setCell ?_ (by simp <;> omega) _ | refine Gr.trans ?_ (by assumption)))⟩
            · have e1 : (tAt x q == 46) = false := by simp [h46]
              clear hA hB g h46
              go_wp2_with (go_at_call 41; (with_reducible refine (hD _).mono ?_); rintro e w1 ⟨rfl, rfl⟩)
              exact bodyPost_ret (v := .agg #[.int .i64 0, .int .i64 0, .int .i64 q, .int .i64 8]) (by simp [results, Try.results15, go_sem, *]) rfl ⟨_, _, _, _, .inr (.inr (.inl ⟨HX.out.1, HX.out.2, by rw [HR.out]; simp, rfl, rfl, by rw [HR.out], by rw [HR.out]⟩)), rfl, (by repeat (first | (with_reducible exact Gr.refl _) | (with_reducible assumption) | (with_reducible refine Gr.alloc ?_ _) | (with_reducible refine Gr.drew ?_) | (with_reducible refine Gr.drewN ?_ _) | (with_reducible refine Gr.setCell ?_ (by simp <;> omega) _) | (with_reducible refine Gr.trans ?_ (by with_reducible assumption)) | exact Gr.refl _ | assumption | refine Gr.alloc ?_ _ | refine Gr.drew ?_ | refine Gr.drewN ?_ _ | refine Gr.setCell ?_ (by simp <;> omega) _ | refine Gr.trans ?_ (by assumption)))⟩
    · obtain rfl : q = L := by omega
      have HE := Lib.hid (show ckT (tAt x) x.size = if q = S ∨ P = (q : Int) - 1 then (q, 9) else (0, 0) by rw [HL.out, ← hS.out]; exact ck_end _ hO.out)
      by_cases h1 : q = S
      · have e1 : ((q : Int) == (S : Int)) = true := by simp [h1]
        have HR := Lib.hid (show ckT (tAt x) x.size = (q, 9) by rw [HE.out, if_pos (Or.inl h1)])
        clear HE h1
        go_wp2
        exact bodyPost_ret (v := .agg #[.int .i64 0, .int .i64 0, .int .i64 q, .int .i64 9]) (by simp [results, Try.results15, go_sem, *]) rfl ⟨_, _, _, _, .inr (.inr (.inl ⟨HX.out.1, HX.out.2, by rw [HR.out]; simp, rfl, rfl, by rw [HR.out], by rw [HR.out]⟩)), rfl, (by repeat (first | (with_reducible exact Gr.refl _) | (with_reducible assumption) | (with_reducible refine Gr.alloc ?_ _) | (with_reducible refine Gr.drew ?_) | (with_reducible refine Gr.drewN ?_ _) | (with_reducible refine Gr.setCell ?_ (by simp <;> omega) _) | (with_reducible refine Gr.trans ?_ (by with_reducible assumption)) | exact Gr.refl _ | assumption | refine Gr.alloc ?_ _ | refine Gr.drew ?_ | refine Gr.drewN ?_ _ | refine Gr.setCell ?_ (by simp <;> omega) _ | refine Gr.trans ?_ (by assumption)))⟩
      · have e1 : ((q : Int) == (S : Int)) = false := by simp; omega
        by_cases h2 : P = (q : Int) - 1
        · have e2 : (P == (q : Int) - 1) = true := by simp [h2]
          have HR := Lib.hid (show ckT (tAt x) x.size = (q, 9) by rw [HE.out, if_pos (Or.inr h2)])
          clear HE h1 h2
          go_wp2
          exact bodyPost_ret (v := .agg #[.int .i64 0, .int .i64 0, .int .i64 q, .int .i64 9]) (by simp [results, Try.results15, go_sem, *]) rfl ⟨_, _, _, _, .inr (.inr (.inl ⟨HX.out.1, HX.out.2, by rw [HR.out]; simp, rfl, rfl, by rw [HR.out], by rw [HR.out]⟩)), rfl, (by repeat (first | (with_reducible exact Gr.refl _) | (with_reducible assumption) | (with_reducible refine Gr.alloc ?_ _) | (with_reducible refine Gr.drew ?_) | (with_reducible refine Gr.drewN ?_ _) | (with_reducible refine Gr.setCell ?_ (by simp <;> omega) _) | (with_reducible refine Gr.trans ?_ (by with_reducible assumption)) | exact Gr.refl _ | assumption | refine Gr.alloc ?_ _ | refine Gr.drew ?_ | refine Gr.drewN ?_ _ | refine Gr.setCell ?_ (by simp <;> omega) _ | refine Gr.trans ?_ (by assumption)))⟩
        · have e2 : (P == (q : Int) - 1) = false := by simp; omega
          have HR := Lib.hid (show ckT (tAt x) x.size = (0, 0) by rw [HE.out, if_neg (by omega)])
          have HP := Lib.hid (show pT (tAt x) x.size = P by rw [HL.out]; exact ok_pT hO.out (by rw [hS.out]; exact h1))
          have HD := Lib.hid (show ∀ j, S ≤ j → j < q → (j : Int) ≠ P → dgt (tAt x j) = true from fun j a b c => ok_dig hO.out (by rw [hS.out]; exact h1) j (by rw [hS.out]; exact a) b c)
          clear HE h1 h2 hO
          go_wp2
          go_loop [7, 8, 9, 10] (fun n c s i => Rd2 (tAt x) S q P n c s i) (fun _ _ _ i => q - (intOf i).toNat)
          case atStart => exact ⟨S, 0, 0, 0, 0, rfl, by omega, rfl, rfl, rfl, rfl, rfl, rfl, rfl⟩
          case round =>
            obtain ⟨j, k, V, C, Z, hj, hjq, rfl, rfl, rfl, rfl, hV, hCC, hZ⟩ := hrel
            have hbd := rd2_bd HD.out (k := k) (by omega)
            rw [hV, hCC, hZ] at hbd
            obtain ⟨v0, v1, c1, z1⟩ := hbd
            have hc40 : (C : Int) ≤ 40 := by omega
            have hz40 : (Z : Int) ≤ 40 := by omega
            have HJ := Lib.hid hj
            have HV := Lib.hid hV
            have HC := Lib.hid hCC
            have HZ := Lib.hid hZ
            clear hV hCC hZ
            by_cases hlt2 : j < q
            · have hjx : j < x.size := by omega
              have hbyj := tAt_eq x j hjx
              have hSj : S ≤ j := by omega
              clear hj c1 z1
              by_cases hsk : (j : Int) = P
              · have f1 : ((j : Int) == P) = true := by simp [hsk]
                have hs2 : skp S P k = true := by have := HJ.out; simp [skp]; omega
                have ST := Lib.hid (st_skip (f := tAt x) hs2)
                clear hsk hs2
                go_wp2
                go_round
                case rel => exact ⟨j + 1, k + 1, V, C, Z, by have := HJ.out; omega, by omega, by go_num, rfl, rfl, rfl, by rw [ST.out.1]; exact HV.out, by rw [ST.out.2.1]; exact HC.out, by rw [ST.out.2.2]; exact HZ.out⟩
                case measure => simp [intOf]; omega
              · have f1 : ((j : Int) == P) = false := by simp [hsk]
                have hs2 : skp S P k = false := by have := HJ.out; simp [skp]; omega
                have hdj := HD.out j hSj hlt2 hsk
                have NV := Lib.hid (st_nv (f := tAt x) hs2)
                simp only [dgt, Bool.and_eq_true, decide_eq_true_eq] at hdj
                obtain ⟨d1, d2⟩ := hdj
                by_cases hb1 : P ≠ -1 ∧ P < (j : Int)
                · obtain ⟨b1, b2⟩ := hb1
                  have f2 : (P != -1) = true := by simp [b1]
                  have hb2 : bhd S P k = true := by have := HJ.out; simp [bhd]; omega
                  have ST := Lib.hid (st_bhd (f := tAt x) hs2 hb2)
                  clear hsk hs2 hb2 b1
                  by_cases h15 : C + 1 ≤ 15
                  · have g15 : (C : Int) + 1 ≤ 15 := by omega
                    have EN := Lib.hid (show nvN (tAt x) S P (k + 1) = 10 * V + (tAt x j - 48) by rw [NV.out.1 (by rw [ST.out.1, HC.out]; exact h15), HV.out, ← HJ.out])
                    go_wp2
                    go_round
                    case rel => exact ⟨j + 1, k + 1, 10 * V + (tAt x j - 48), C + 1, Z + 1, by have := HJ.out; omega, by omega, by go_num, rfl, by go_num, by go_num, EN.out, by rw [ST.out.1, HC.out], by rw [ST.out.2, HZ.out]⟩
                    case measure => simp [intOf]; omega
                  · have g15 : ¬ ((C : Int) + 1 ≤ 15) := by omega
                    have EN := Lib.hid (show nvN (tAt x) S P (k + 1) = V by rw [NV.out.2 (by rw [ST.out.1, HC.out]; omega), HV.out])
                    go_wp2
                    go_round
                    case rel => exact ⟨j + 1, k + 1, V, C + 1, Z + 1, by have := HJ.out; omega, by omega, by go_num, rfl, by go_num, by go_num, EN.out, by rw [ST.out.1, HC.out], by rw [ST.out.2, HZ.out]⟩
                    case measure => simp [intOf]; omega
                · have hb2 : bhd S P k = false := by have := HJ.out; simp [bhd]; omega
                  by_cases hP : P = -1
                  · subst hP
                    have f2 : True := trivial
                    by_cases h0 : 0 < C
                    · have g0 : (0 : Int) < (C : Int) := by omega
                      have ST := Lib.hid (st_one (f := tAt x) hs2 hb2 (.inl (by rw [HC.out]; exact h0)))
                      clear hsk hs2 hb2 h0 hb1
                      by_cases h15 : C + 1 ≤ 15
                      · have g15 : (C : Int) + 1 ≤ 15 := by omega
                        have EN := Lib.hid (show nvN (tAt x) S (-1) (k + 1) = 10 * V + (tAt x j - 48) by rw [NV.out.1 (by rw [ST.out.1, HC.out]; exact h15), HV.out, ← HJ.out])
                        go_wp2
                        go_round
                        case rel => exact ⟨j + 1, k + 1, 10 * V + (tAt x j - 48), C + 1, Z, by have := HJ.out; omega, by omega, by go_num, rfl, by go_num, by go_num, EN.out, by rw [ST.out.1, HC.out], by rw [ST.out.2, HZ.out]⟩
                        case measure => simp [intOf]; omega
                      · have g15 : ¬ ((C : Int) + 1 ≤ 15) := by omega
                        have EN := Lib.hid (show nvN (tAt x) S (-1) (k + 1) = V by rw [NV.out.2 (by rw [ST.out.1, HC.out]; omega), HV.out])
                        go_wp2
                        go_round
                        case rel => exact ⟨j + 1, k + 1, V, C + 1, Z, by have := HJ.out; omega, by omega, by go_num, rfl, by go_num, by go_num, EN.out, by rw [ST.out.1, HC.out], by rw [ST.out.2, HZ.out]⟩
                        case measure => simp [intOf]; omega
                    · obtain rfl : C = 0 := by omega
                      by_cases h48 : tAt x j = 48
                      · have f4 : (tAt x j != 48) = false := by simp [h48]
                        have ST := Lib.hid (st_zero (f := tAt x) hs2 hb2 HC.out (by rw [← HJ.out]; exact h48))
                        have EN := Lib.hid (show nvN (tAt x) S (-1) (k + 1) = 10 * V + (tAt x j - 48) by rw [NV.out.1 (by rw [ST.out.1, HC.out]; omega), HV.out, ← HJ.out])
                        clear hsk hs2 hb2 h0 hb1 h48
                        go_wp2
                        go_round
                        case rel => exact ⟨j + 1, k + 1, 10 * V + (tAt x j - 48), 0, Z, by have := HJ.out; omega, by omega, by go_num, rfl, by simp, rfl, EN.out, by rw [ST.out.1, HC.out], by rw [ST.out.2, HZ.out]⟩
                        case measure => simp [intOf]; omega
                      · have f4 : (tAt x j != 48) = true := by simp [h48]
                        have ST := Lib.hid (st_one (f := tAt x) hs2 hb2 (.inr (by rw [← HJ.out]; exact h48)))
                        have EN := Lib.hid (show nvN (tAt x) S (-1) (k + 1) = 10 * V + (tAt x j - 48) by rw [NV.out.1 (by rw [ST.out.1, HC.out]; omega), HV.out, ← HJ.out])
                        clear hsk hs2 hb2 h0 hb1 h48
                        go_wp2
                        go_round
                        case rel => exact ⟨j + 1, k + 1, 10 * V + (tAt x j - 48), 1, Z, by have := HJ.out; omega, by omega, by go_num, rfl, by simp, rfl, EN.out, by rw [ST.out.1, HC.out], by rw [ST.out.2, HZ.out]⟩
                        case measure => simp [intOf]; omega
                  · have f2 : (P != -1) = true := by simp [hP]
                    have f3 : ¬ (P < (j : Int)) := by intro e; exact hb1 ⟨hP, e⟩
                    clear hP
                    by_cases h0 : 0 < C
                    · have g0 : (0 : Int) < (C : Int) := by omega
                      have ST := Lib.hid (st_one (f := tAt x) hs2 hb2 (.inl (by rw [HC.out]; exact h0)))
                      clear hsk hs2 hb2 h0 hb1
                      by_cases h15 : C + 1 ≤ 15
                      · have g15 : (C : Int) + 1 ≤ 15 := by omega
                        have EN := Lib.hid (show nvN (tAt x) S P (k + 1) = 10 * V + (tAt x j - 48) by rw [NV.out.1 (by rw [ST.out.1, HC.out]; exact h15), HV.out, ← HJ.out])
                        go_wp2
                        go_round
                        case rel => exact ⟨j + 1, k + 1, 10 * V + (tAt x j - 48), C + 1, Z, by have := HJ.out; omega, by omega, by go_num, rfl, by go_num, by go_num, EN.out, by rw [ST.out.1, HC.out], by rw [ST.out.2, HZ.out]⟩
                        case measure => simp [intOf]; omega
                      · have g15 : ¬ ((C : Int) + 1 ≤ 15) := by omega
                        have EN := Lib.hid (show nvN (tAt x) S P (k + 1) = V by rw [NV.out.2 (by rw [ST.out.1, HC.out]; omega), HV.out])
                        go_wp2
                        go_round
                        case rel => exact ⟨j + 1, k + 1, V, C + 1, Z, by have := HJ.out; omega, by omega, by go_num, rfl, by go_num, by go_num, EN.out, by rw [ST.out.1, HC.out], by rw [ST.out.2, HZ.out]⟩
                        case measure => simp [intOf]; omega
                    · obtain rfl : C = 0 := by omega
                      by_cases h48 : tAt x j = 48
                      · have f4 : (tAt x j != 48) = false := by simp [h48]
                        have ST := Lib.hid (st_zero (f := tAt x) hs2 hb2 HC.out (by rw [← HJ.out]; exact h48))
                        have EN := Lib.hid (show nvN (tAt x) S P (k + 1) = 10 * V + (tAt x j - 48) by rw [NV.out.1 (by rw [ST.out.1, HC.out]; omega), HV.out, ← HJ.out])
                        clear hsk hs2 hb2 h0 hb1 h48
                        go_wp2
                        go_round
                        case rel => exact ⟨j + 1, k + 1, 10 * V + (tAt x j - 48), 0, Z, by have := HJ.out; omega, by omega, by go_num, rfl, by simp, rfl, EN.out, by rw [ST.out.1, HC.out], by rw [ST.out.2, HZ.out]⟩
                        case measure => simp [intOf]; omega
                      · have f4 : (tAt x j != 48) = true := by simp [h48]
                        have ST := Lib.hid (st_one (f := tAt x) hs2 hb2 (.inr (by rw [← HJ.out]; exact h48)))
                        have EN := Lib.hid (show nvN (tAt x) S P (k + 1) = 10 * V + (tAt x j - 48) by rw [NV.out.1 (by rw [ST.out.1, HC.out]; omega), HV.out, ← HJ.out])
                        clear hsk hs2 hb2 h0 hb1 h48
                        go_wp2
                        go_round
                        case rel => exact ⟨j + 1, k + 1, 10 * V + (tAt x j - 48), 1, Z, by have := HJ.out; omega, by omega, by go_num, rfl, by simp, rfl, EN.out, by rw [ST.out.1, HC.out], by rw [ST.out.2, HZ.out]⟩
                        case measure => simp [intOf]; omega
            · obtain rfl : j = q := by omega
              have hK : x.size - sgnT (tAt x) = k := by rw [HL.out, hS.out]; omega
              have HCn := Lib.hid (show cnT x = C by unfold cnT; rw [hK, hS.out, HP.out]; exact HC.out)
              have HSc := Lib.hid (show scT x = Z by unfold scT; rw [hK, hS.out, HP.out]; exact HZ.out)
              have HNv := Lib.hid (show nvT x = V by unfold nvT; rw [hK, hS.out, HP.out]; exact HV.out)
              clear hK hj c1 z1
              by_cases h15 : C ≤ 15
              · have g1 : ¬ ((15 : Int) < (C : Int)) := by omega
                rcases hSb.out with ⟨rfl, rfl⟩ | ⟨rfl, rfl⟩
                · have h45 := Lib.hid (show decide (tAt x 0 = 45) = true by
                    by_cases e : tAt x 0 = 45
                    · simp [e]
                    · have := hS.out; unfold sgnT at this; rw [if_neg e] at this; omega)
                  go_wp2
                  exact bodyPost_ret (v := .agg #[.int .i64 (-V), .int .i64 Z, .int .i64 j, .int .i64 0]) (by simp [results, Try.results15, go_sem, *]) rfl ⟨_, _, _, _, .inr (.inr (.inr (.inr ⟨HX.out.1, HX.out.2, by rw [HR.out], by rw [HCn.out]; exact h15, by rw [h45.out, HNv.out]; rfl, by rw [HSc.out], by rw [HL.out], rfl⟩))), rfl, (by repeat (first | (with_reducible exact Gr.refl _) | (with_reducible assumption) | (with_reducible refine Gr.alloc ?_ _) | (with_reducible refine Gr.drew ?_) | (with_reducible refine Gr.drewN ?_ _) | (with_reducible refine Gr.setCell ?_ (by simp <;> omega) _) | (with_reducible refine Gr.trans ?_ (by with_reducible assumption)) | exact Gr.refl _ | assumption | refine Gr.alloc ?_ _ | refine Gr.drew ?_ | refine Gr.drewN ?_ _ | refine Gr.setCell ?_ (by simp <;> omega) _ | refine Gr.trans ?_ (by assumption)))⟩
                · have h45 := Lib.hid (show decide (tAt x 0 = 45) = false by
                    by_cases e : tAt x 0 = 45
                    · have := hS.out; unfold sgnT at this; rw [if_pos e] at this; omega
                    · simp [e])
                  go_wp2
                  exact bodyPost_ret (v := .agg #[.int .i64 V, .int .i64 Z, .int .i64 j, .int .i64 0]) (by simp [results, Try.results15, go_sem, *]) rfl ⟨_, _, _, _, .inr (.inr (.inr (.inr ⟨HX.out.1, HX.out.2, by rw [HR.out], by rw [HCn.out]; exact h15, by rw [h45.out, HNv.out]; rfl, by rw [HSc.out], by rw [HL.out], rfl⟩))), rfl, (by repeat (first | (with_reducible exact Gr.refl _) | (with_reducible assumption) | (with_reducible refine Gr.alloc ?_ _) | (with_reducible refine Gr.drew ?_) | (with_reducible refine Gr.drewN ?_ _) | (with_reducible refine Gr.setCell ?_ (by simp <;> omega) _) | (with_reducible refine Gr.trans ?_ (by with_reducible assumption)) | exact Gr.refl _ | assumption | refine Gr.alloc ?_ _ | refine Gr.drew ?_ | refine Gr.drewN ?_ _ | refine Gr.setCell ?_ (by simp <;> omega) _ | refine Gr.trans ?_ (by assumption)))⟩
              · have g1 : (15 : Int) < (C : Int) := by omega
                go_wp2
                exact bodyPost_ret (v := .agg #[.int .i64 0, .int .i64 0, .int .i64 0, .int .i64 19]) (by simp [results, Try.results15, go_sem, *]) rfl ⟨_, _, _, _, .inr (.inr (.inr (.inl ⟨HX.out.1, HX.out.2, by rw [HR.out], by rw [HCn.out]; omega, rfl, rfl, rfl, rfl⟩))), rfl, (by repeat (first | (with_reducible exact Gr.refl _) | (with_reducible assumption) | (with_reducible refine Gr.alloc ?_ _) | (with_reducible refine Gr.drew ?_) | (with_reducible refine Gr.drewN ?_ _) | (with_reducible refine Gr.setCell ?_ (by simp <;> omega) _) | (with_reducible refine Gr.trans ?_ (by with_reducible assumption)) | exact Gr.refl _ | assumption | refine Gr.alloc ?_ _ | refine Gr.drew ?_ | refine Gr.drewN ?_ _ | refine Gr.setCell ?_ (by simp <;> omega) _ | refine Gr.trans ?_ (by assumption)))⟩
theorem refParse_any (x : ByteArray) (hm : x.size ≤ 100) (w : World) : Calls Try.prog 15 #[.string x] w (RpR x w) := by
  by_cases h1 : 40 < x.size
  · exact refParse_large x h1 hm w
  by_cases h2 : x.size = 0
  · exact refParse_empty x h2 (empty_yes h2) w
  by_cases e : tAt x 0 = 45
  · exact refParse_main x 1 true _ rfl (by omega) (by omega) (empty_no (by omega)) (by simp [e]) (fun w => (Count_any true w).mono fun _ _ h => ⟨h.1, h.2.1⟩) (Lib.hid (.inl ⟨rfl, rfl⟩)) (Lib.hid (sgnT_1 e)) (by omega) w
  · exact refParse_main x 0 false _ rfl (by omega) (by omega) (empty_no (by omega)) (by simp [e]) (fun w => (Count_any false w).mono fun _ _ h => ⟨h.1, h.2.1⟩) (Lib.hid (.inr ⟨rfl, rfl⟩)) (Lib.hid (sgnT_0 e)) (by omega) w
end Go.Proofs.Ytnaflaokhldfnaa
