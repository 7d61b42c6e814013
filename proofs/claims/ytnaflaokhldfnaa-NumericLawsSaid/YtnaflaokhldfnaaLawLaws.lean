/- NumericLaws: for all pairs of numbers the law returns true (sums and products do not depend on the order; of a sum, from which one operand is taken away, the other one is left; a quotient and a remainder make the dividend); no condition. -/
import Derived.Test.YtnaflaokhldfnaaQ39
import Derived.Test.YtnaflaokhldfnaaQ32
import Derived.Test.YtnaflaokhldfnaaQ33
import Derived.Test.YtnaflaokhldfnaaQ35
import Derived.Test.YtnaflaokhldfnaaQ37
namespace Go.Proofs.Ytnaflaokhldfnaa.lawLaws
set_option linter.unusedSimpArgs false
set_option linter.unusedVariables false
open Go.Proofs.Ytnaflaokhldfnaa
open Go.ChangeShapes Go.WideShapes Go.ChangeAt Go.RowKit Go.Joins Go.Deep
set_option linter.unusedVariables false

set_option maxHeartbeats 2000000 in
set_option maxRecDepth 100000 in
theorem nl_e1 (n s m t E : Int) (h0 : (E != 0) = true)
    (h1 : ∀ w, Calls Try.prog 12 #[.agg #[.int .i64 n, .int .i64 s]] w fun e w' => e = .returned (.int .i64 E) ∧ Gr w w') (w : World) :
    Calls Try.prog 5 #[.agg #[.int .i64 n, .int .i64 s, .int .i64 m, .int .i64 t]] w fun e w' => e = .returned (.bool true) ∧ Gr w w' := by
  go_enter Try.func5, Try.ntmps5
  go_wp2_with (first
    | (go_at_call 7; (with_reducible refine (awake_any _).mono ?_); rintro e wa ⟨rfl, hb⟩; have c0 := hb.keep (p := ⟨w.heap.size, 0, none⟩) (v := .int .i64 n) (by simp [go_sem]); have c1 := hb.keep (p := ⟨w.heap.size, 1, none⟩) (v := .int .i64 s) (by simp [go_sem]))
    | (go_at_call 12; (with_reducible refine (h1 _).mono ?_); rintro e wb ⟨rfl, hb⟩))
  go_ret
  exact ⟨rfl, (by repeat (first | (with_reducible exact Gr.refl _) | (with_reducible assumption) | (with_reducible refine Gr.alloc ?_ _) | (with_reducible refine Gr.drew ?_) | (with_reducible refine Gr.drewN ?_ _) | (with_reducible refine Gr.setCell ?_ (by simp <;> omega) _) | (with_reducible refine Gr.trans ?_ (by with_reducible assumption)) | exact Gr.refl _ | assumption | refine Gr.alloc ?_ _ | refine Gr.drew ?_ | refine Gr.drewN ?_ _ | refine Gr.setCell ?_ (by simp <;> omega) _ | refine Gr.trans ?_ (by assumption)))⟩
set_option maxHeartbeats 2000000 in
set_option maxRecDepth 100000 in
theorem nl_e2 (n s m t E : Int) (h0 : (E != 0) = true)
    (h1 : ∀ w, Calls Try.prog 12 #[.agg #[.int .i64 n, .int .i64 s]] w fun e w' => e = .returned (.int .i64 0) ∧ Gr w w')
    (h2 : ∀ w, Calls Try.prog 12 #[.agg #[.int .i64 m, .int .i64 t]] w fun e w' => e = .returned (.int .i64 E) ∧ Gr w w') (w : World) :
    Calls Try.prog 5 #[.agg #[.int .i64 n, .int .i64 s, .int .i64 m, .int .i64 t]] w fun e w' => e = .returned (.bool true) ∧ Gr w w' := by
  go_enter Try.func5, Try.ntmps5
  go_wp2_with (first
    | (go_at_call 7; (with_reducible refine (awake_any _).mono ?_); rintro e wa ⟨rfl, hb⟩; have c0 := hb.keep (p := ⟨w.heap.size, 0, none⟩) (v := .int .i64 n) (by simp [go_sem]); have c1 := hb.keep (p := ⟨w.heap.size, 1, none⟩) (v := .int .i64 s) (by simp [go_sem]); have c2 := hb.keep (p := ⟨w.heap.size, 2, none⟩) (v := .int .i64 m) (by simp [go_sem]); have c3 := hb.keep (p := ⟨w.heap.size, 3, none⟩) (v := .int .i64 t) (by simp [go_sem]))
    | (go_at_call 12; (with_reducible refine (h1 _).mono ?_); rintro e wb ⟨rfl, hb⟩; have c0 := hb.keep c0; have c1 := hb.keep c1; have c2 := hb.keep c2; have c3 := hb.keep c3)
    | (go_at_call 12; (with_reducible refine (h2 _).mono ?_); rintro e wd ⟨rfl, hb⟩))
  go_ret
  exact ⟨rfl, (by repeat (first | (with_reducible exact Gr.refl _) | (with_reducible assumption) | (with_reducible refine Gr.alloc ?_ _) | (with_reducible refine Gr.drew ?_) | (with_reducible refine Gr.drewN ?_ _) | (with_reducible refine Gr.setCell ?_ (by simp <;> omega) _) | (with_reducible refine Gr.trans ?_ (by with_reducible assumption)) | exact Gr.refl _ | assumption | refine Gr.alloc ?_ _ | refine Gr.drew ?_ | refine Gr.drewN ?_ _ | refine Gr.setCell ?_ (by simp <;> omega) _ | refine Gr.trans ?_ (by assumption)))⟩

theorem numErr_of {z S : Int} (h : z.natAbs ≤ 999999999999999) (hS : 0 ≤ S ∧ S ≤ 15) : numErr z S = 0 := by unfold numErr; rw [if_neg (by omega)]
theorem back {n m z3 z4 : Int} {d e : Nat}
    (h3 : z3 = ((n.natAbs * 10 ^ d / (m.natAbs * 10 ^ e) : Nat) : Int) ∧ ¬ ((n < 0) ↔ ¬ (m < 0)) ∨ z3 = -((n.natAbs * 10 ^ d / (m.natAbs * 10 ^ e) : Nat) : Int) ∧ ((n < 0) ↔ ¬ (m < 0)))
    (h4 : z4 = ((n.natAbs * 10 ^ d % (m.natAbs * 10 ^ e) : Nat) : Int) ∧ ¬ n < 0 ∨ z4 = -((n.natAbs * 10 ^ d % (m.natAbs * 10 ^ e) : Nat) : Int) ∧ n < 0) :
    z3 * (m * 10 ^ e) + z4 = n * 10 ^ d := by
  have a := abs_up n d
  have b := abs_up m e
  have hdm := Nat.div_add_mod (n.natAbs * 10 ^ d) (m.natAbs * 10 ^ e)
  generalize n.natAbs * 10 ^ d = A at *
  generalize m.natAbs * 10 ^ e = B at *
  generalize n * 10 ^ d = X at *
  generalize m * 10 ^ e = Y at *
  have hI : (B : Int) * ((A / B : Nat) : Int) + ((A % B : Nat) : Int) = A := by exact_mod_cast hdm
  generalize ((A / B : Nat) : Int) = k at *
  generalize ((A % B : Nat) : Int) = r at *
  have hc : (B : Int) * k = k * B := Int.mul_comm _ _
  by_cases hn : n < 0 <;> by_cases hm : m < 0 <;> simp only [hn, hm, if_true, if_false, not_true_eq_false, not_false_eq_true, iff_false, iff_true, and_true, and_false, or_false, false_or] at a b h3 h4
  · have hY : Y = -(B : Int) := by omega
    subst h3 h4 hY
    rw [Int.mul_neg]
    omega
  · have hY : Y = (B : Int) := by omega
    subst h3 h4 hY
    rw [Int.neg_mul]
    omega
  · have hY : Y = -(B : Int) := by omega
    subst h3 h4 hY
    rw [Int.neg_mul_neg]
    omega
  · have hY : Y = (B : Int) := by omega
    subst h3 h4 hY
    omega

theorem law (n s m t : Int) (w : World) :
    Calls Try.prog 5 #[.agg #[.int .i64 n, .int .i64 s, .int .i64 m, .int .i64 t]] w fun e w' => e = .returned (.bool true) ∧ Gr w w' := by
  have hN1 := NumberErr_any n s
  have hN2 := NumberErr_any m t
  by_cases h1 : numErr n s = 0
  rotate_left
  · exact nl_e1 n s m t _ (by simp [h1]) hN1 w
  by_cases h2 : numErr m t = 0
  rotate_left
  · rw [h1] at hN1
    exact nl_e2 n s m t _ (by simp [h2]) hN1 hN2 w
  rw [h1] at hN1
  rw [h2] at hN2
  obtain ⟨-, -, s0, s1⟩ := numErr_ok h1
  obtain ⟨-, -, t0, t1⟩ := numErr_ok h2
  obtain ⟨M, hM⟩ : ∃ M, max s t = M := ⟨_, rfl⟩
  have hM2 : max t s = M := by omega
  have hA0 := Calculated_any remOk 0 n s m t 1 15 M false
  have hB0 := Calculated_any remOk 0 m t n s 1 15 M false
  have hA2 := Calculated_any remOk 2 n s m t 1 15 M false
  have hB2 := Calculated_any remOk 2 m t n s 1 15 M false
  have hQ := Calculated_any remOk 3 n s m t 1 15 0 false
  have hR := Calculated_any remOk 4 n s m t 1 15 M false
  have v1 := add_val h1 h2 hM
  have v2 := add_val h2 h1 hM2
  rw [Int.add_comm] at v2
  have v3 := mul_comm_ca h1 h2 (show 0 ≤ M ∧ M ≤ 15 by omega)
  rw [v1.1, v1.2] at hA0
  rw [v2.1, v2.2] at hB0
  rw [← v3.1, ← v3.2] at hB2
  have hY := Converted_any m t 1 15 M false
  have vY := cv_val (n := m) (s := t) (M := M) h2 (by omega) (by omega)
  rw [vY.1, vY.2] at hY
  have hZ := Converted_any n s 1 15 M false
  have vZ := cv_val (n := n) (s := s) (M := M) h1 (by omega) (by omega)
  rw [vZ.1, vZ.2] at hZ
  -- what the tail wants, for any first part
  by_cases hm : m = 0
  · subst hm
    have e3 : caErr 3 n s 0 t 1 15 0 = 20 := by rw [caErr_wide (by omega) h1 h2 (by omega)]; rfl
    have e4 : caErr 4 n s 0 t 1 15 M = 20 := by rw [caErr_wide (by omega) h1 h2 (by omega)]; rfl
    have q3 : caE 3 n s 0 t 1 15 0 false = 20 := by unfold caE; rw [e3]; rfl
    have q4 : caE 4 n s 0 t 1 15 M false = 20 := by unfold caE; rw [e4]; rfl
    rw [q3] at hQ
    rw [q4] at hR
    rcases pO_or (n * 10 ^ (M - s).toNat + 0 * 10 ^ (M - t).toNat) with h0 | h0
    · obtain ⟨p1, p2⟩ := pO_zero h0
      have vS := sub_val (numErr_of p2 (show 0 ≤ M ∧ M ≤ 15 by omega)) h1 (show max M s = M by omega)
      have hS := Calculated_any remOk 1 (n * 10 ^ (M - s).toNat + 0 * 10 ^ (M - t).toNat) M n s 1 15 M false
      rw [Int.sub_self, show (0 : Int).toNat = 0 from rfl, Int.pow_zero, Int.mul_one, show n * 10 ^ (M - s).toNat + 0 * 10 ^ (M - t).toNat - n * 10 ^ (M - s).toNat = 0 * 10 ^ (M - t).toNat by omega] at vS
      rw [vS.1, vS.2] at hS
      rw [h0, p1] at hA0 hB0
      exact nl_1_zero n s 0 t M _ _ _ _ _ _ _ hM awake_any hN1 hN2 hA0 hB0 hA2 hB2 hS hY hQ hR rfl w
    · rw [h0] at hA0 hB0
      exact nl_0_zero n s 0 t M _ _ _ _ _ _ hM awake_any hN1 hN2 hA0 hB0 hA2 hB2 (by decide) hQ hR rfl w
  · have d3 : dvB 3 m = false := by simp [dvB, hm]
    have d4 : dvB 4 m = false := by simp [dvB, hm]
    obtain ⟨z3, f3, c3, g3⟩ := div_val h1 h2 hM d3
    obtain ⟨z4, f4, c4, g4⟩ := rem_val h1 h2 hM d4
    rw [c3, g3] at hQ
    rw [c4, g4] at hR
    have hback := back f3 f4
    rcases pO_or (n * 10 ^ (M - s).toNat + m * 10 ^ (M - t).toNat) with h0 | h0
    · obtain ⟨p1, p2⟩ := pO_zero h0
      have vS := sub_val (numErr_of p2 (show 0 ≤ M ∧ M ≤ 15 by omega)) h1 (show max M s = M by omega)
      have hS := Calculated_any remOk 1 (n * 10 ^ (M - s).toNat + m * 10 ^ (M - t).toNat) M n s 1 15 M false
      rw [Int.sub_self, show (0 : Int).toNat = 0 from rfl, Int.pow_zero, Int.mul_one, show n * 10 ^ (M - s).toNat + m * 10 ^ (M - t).toNat - n * 10 ^ (M - s).toNat = m * 10 ^ (M - t).toNat by omega] at vS
      rw [vS.1, vS.2] at hS
      rw [h0, p1] at hA0 hB0
      rcases pO_or z3 with k3 | k3
      rotate_left
      · rw [k3] at hQ
        exact nl_1_bad1 n s m t M _ _ _ _ _ _ _ _ _ hM awake_any hN1 hN2 hA0 hB0 hA2 hB2 hS hY hQ hR (by decide) (by decide) (by rcases pO_or z4 with k4 | k4 <;> rw [k4] <;> decide) w
      rcases pO_or z4 with k4 | k4
      rotate_left
      · rw [k3] at hQ
        rw [k4] at hR
        exact nl_1_bad2 n s m t M _ _ _ _ _ _ _ _ hM awake_any hN1 hN2 hA0 hB0 hA2 hB2 hS hY hQ hR (by decide) (by decide) w
      obtain ⟨a3, b3⟩ := pO_zero k3
      obtain ⟨a4, b4⟩ := pO_zero k4
      rw [k3, a3] at hQ
      rw [k4, a4] at hR
      have hP := Calculated_any remOk 2 z3 0 m t 1 15 M false
      have vP := mul_val (numErr_of b3 (show (0 : Int) ≤ 0 ∧ (0 : Int) ≤ 15 by omega)) h2 (show t ≤ M by omega) (show M ≤ 15 by omega)
      rw [vP.1, vP.2] at hP
      rcases pO_or (z3 * (m * 10 ^ (M - t).toNat)) with k5 | k5
      · obtain ⟨a5, b5⟩ := pO_zero k5
        rw [k5, a5] at hP
        have hT := Calculated_any remOk 0 (z3 * (m * 10 ^ (M - t).toNat)) M z4 M 1 15 M false
        have vT := add_val (numErr_of b5 (show 0 ≤ M ∧ M ≤ 15 by omega)) (numErr_of b4 (show 0 ≤ M ∧ M ≤ 15 by omega)) (show max M M = M by omega)
        rw [Int.sub_self, show (0 : Int).toNat = 0 from rfl, Int.pow_zero, Int.mul_one, Int.mul_one, hback] at vT
        rw [vT.1, vT.2] at hT
        exact nl_1_fine n s m t M _ _ _ _ _ _ _ _ _ _ hM awake_any hN1 hN2 hA0 hB0 hA2 hB2 hS hY hQ hR hP hT hZ w
      · rw [k5] at hP
        exact nl_1_over n s m t M _ _ _ _ _ _ _ _ hM awake_any hN1 hN2 hA0 hB0 hA2 hB2 hS hY hQ hR hP w
    · rw [h0] at hA0 hB0
      rcases pO_or z3 with k3 | k3
      rotate_left
      · rw [k3] at hQ
        exact nl_0_bad1 n s m t M _ _ _ _ _ _ _ _ hM awake_any hN1 hN2 hA0 hB0 hA2 hB2 (by decide) hQ hR (by decide) (by decide) (by rcases pO_or z4 with k4 | k4 <;> rw [k4] <;> decide) w
      rcases pO_or z4 with k4 | k4
      rotate_left
      · rw [k3] at hQ
        rw [k4] at hR
        exact nl_0_bad2 n s m t M _ _ _ _ _ _ _ hM awake_any hN1 hN2 hA0 hB0 hA2 hB2 (by decide) hQ hR (by decide) (by decide) w
      obtain ⟨a3, b3⟩ := pO_zero k3
      obtain ⟨a4, b4⟩ := pO_zero k4
      rw [k3, a3] at hQ
      rw [k4, a4] at hR
      have hP := Calculated_any remOk 2 z3 0 m t 1 15 M false
      have vP := mul_val (numErr_of b3 (show (0 : Int) ≤ 0 ∧ (0 : Int) ≤ 15 by omega)) h2 (show t ≤ M by omega) (show M ≤ 15 by omega)
      rw [vP.1, vP.2] at hP
      rcases pO_or (z3 * (m * 10 ^ (M - t).toNat)) with k5 | k5
      · obtain ⟨a5, b5⟩ := pO_zero k5
        rw [k5, a5] at hP
        have hT := Calculated_any remOk 0 (z3 * (m * 10 ^ (M - t).toNat)) M z4 M 1 15 M false
        have vT := add_val (numErr_of b5 (show 0 ≤ M ∧ M ≤ 15 by omega)) (numErr_of b4 (show 0 ≤ M ∧ M ≤ 15 by omega)) (show max M M = M by omega)
        rw [Int.sub_self, show (0 : Int).toNat = 0 from rfl, Int.pow_zero, Int.mul_one, Int.mul_one, hback] at vT
        rw [vT.1, vT.2] at hT
        exact nl_0_fine n s m t M _ _ _ _ _ _ _ _ _ hM awake_any hN1 hN2 hA0 hB0 hA2 hB2 (by decide) hQ hR hP hT hZ w
      · rw [k5] at hP
        exact nl_0_over n s m t M _ _ _ _ _ _ _ hM awake_any hN1 hN2 hA0 hB0 hA2 hB2 (by decide) hQ hR hP w

set_option maxRecDepth 100000 in
theorem lifted (os : Os) (started : os.Started) (H : Type) (enc : TypeId × Value → H) :
    ReturnsInHanded {} Try.checked os 5 .any (Rows.numericLawsSpec.pre6 enc Try.prog Try.f5 Rows.numericLawsRow.domain false) (Rows.numericLawsSpec.post enc Try.prog Try.f5 false true false false) := by
  refine returnsInHanded_of_change (C := Try.checked) own_knob started (by kernel_rfl) Try.func5
    (ChangeSpec.witness6 (enc := enc) (C := Try.checked) false ⟨#[], #[.agg #[.int .i64 0, .int .i64 0, .int .i64 0, .int .i64 0]], []⟩ 8 (by kernel_rfl) (by kernel_rfl) (by kernel_rfl) (by kernel_rfl)) ?_
  intro W base args ds gs before hval0 hW hcnd _
  have hval : ∀ (j : Nat) t v, Try.f5.params[j]? = some t → args[j]? = some v → Value.okWide Try.prog W .any base t v := hval0
  have hW' := hW
  obtain ⟨p, q, hA0, hV, rfl, hfz, hnd⟩ := hW
  have hA : DataW.TrodAll enc Try.prog W 0 (fun _ => true) true Try.f5.params.toList args.toList ds p := hA0
  rw [Try.params5] at hA hval
  obtain ⟨v0, vs0, d0, ds0, p0, q0, hargs, rfl, rfl, h0, r0⟩ := trodAll_cons hA
  obtain ⟨hvz, rfl, rfl⟩ := trodAll_nil r0
  rw [hvz] at hargs
  obtain rfl : args = #[v0] := by cases args; simp_all
  obtain ⟨rfl, rfl⟩ := trodVars_none hV
  obtain ⟨b0, b1, b2, b3, rfl, -, -, -, -, -, -⟩ := open_pair (hval 0 29 v0 rfl rfl) h0
  refine (law b0 b1 b2 b3 W ).mono fun e W' ⟨he, hg⟩ => ?_
  subst he
  have hB : Below W.heap.size W W' := hg
  have hlt := fun x hx => hW'.lt x hx
  have hst := fun (sp' : Nat → Bool) => trodAll_stay laidOut (sp' := sp') (by kernel_rfl) hA0 (fun x hx => hB.same (hlt x (List.mem_append_left _ hx)))
  refine ⟨_, rfl, _, _, _, [], _, [], hW', (trodAll_cons_mk (shut_bool Try.underlying4 _) trodAll_mk0), hst _ (fun x hx => by simpa using hlt x (List.mem_append_left _ hx)), rfl, ?_, fun h => by cases h⟩
  exact World.keptBut_mono (fun x hx => ⟨hx, Or.inr (by simpa using hx)⟩) (hB.frame (· ∈ _))

theorem proved : Rows.NumericLawsSaid :=
  OpenClaim.holds_of_wide 5 Try.f5 rfl rfl rfl rfl rfl rfl rfl ⟨rfl, rfl, rfl, rfl, rfl⟩ rfl rfl rfl rfl rfl (by kernel_rfl) Try.func5 (by kernel_rfl)
    (of_decide_eq_true (by kernel_rfl)) (by unfold Func.isWrapper; first | (rw [if_pos (by decide +kernel)]; kernel_rfl) | (rw [if_neg (by decide +kernel)]; exact ⟨rfl, rfl⟩))
    (fun os started H enc _ => lifted os started H enc)
#print axioms proved
end Go.Proofs.Ytnaflaokhldfnaa.lawLaws
