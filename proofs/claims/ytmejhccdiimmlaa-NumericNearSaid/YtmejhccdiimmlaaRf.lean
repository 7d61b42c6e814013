/- Digit lists: the rounds of a sum, of a difference, and of a division (plain facts). -/
import Derived.Test.YtmejhccdiimmlaaRe
namespace Go.Proofs.Ytmejhccdiimmlaa
set_option linter.unusedSimpArgs false
set_option linter.unusedVariables false
open Go.RowKit

theorem getD_big {xs : List Int} {k : Nat} (h : xs.length ≤ k) : xs.getD k 0 = 0 := by
  rw [List.getD_eq_getElem?_getD, List.getElem?_eq_none h]; rfl

/-- The state of a sum behind k rounds: carry c, digits zs. -/
def PR (xs ys : List Int) (k : Nat) (c : Int) (zs : List Int) : Prop :=
  zs.length = k ∧ Dg zs ∧ vl zs + 10 ^ k * c = vt xs k + vt ys k ∧ 0 ≤ c ∧ c ≤ 1 ∧ (k ≤ max xs.length ys.length ∨ (k = max xs.length ys.length + 1 ∧ c = 0 ∧ (10 : Int) ^ (max xs.length ys.length) ≤ vl zs))
theorem PR.start (xs ys : List Int) : PR xs ys 0 0 [] := ⟨rfl, Dg.nil, rfl, by omega, by omega, .inl (Nat.zero_le _)⟩
theorem PR.step {xs ys zs : List Int} {k : Nat} {c d c' : Int} (h : PR xs ys k c zs) (hx : Dg xs) (hy : Dg ys) (hc : k < xs.length ∨ k < ys.length ∨ 0 < c)
    (hd : d = (c + xs.getD k 0 + ys.getD k 0) % 10) (hc' : c' = (c + xs.getD k 0 + ys.getD k 0) / 10) : PR xs ys (k + 1) c' (zs ++ [d]) := by
  obtain ⟨h1, h2, h3, h4, h5, h6⟩ := h
  have bx := hx.getD k
  have by_ := hy.getD k
  have hs := plus_step (P := 10 ^ k) (o := vl zs) (c := c) (a := vt xs k) (b := vt ys k) (x := xs.getD k 0) (y := ys.getD k 0) h3
  refine ⟨by simp [h1], h2.snoc (by omega) (by omega), ?_, by omega, by omega, ?_⟩
  · rw [vl_snoc, h1, hd, hc', Int.pow_succ, vt, vt]; exact hs
  · rcases Nat.lt_or_ge k (max xs.length ys.length) with g | g
    · exact .inl g
    · have gx : xs.length ≤ k := by omega
      have gy : ys.length ≤ k := by omega
      rw [getD_big gx, getD_big gy] at hd hc'
      rcases h6 with h6 | ⟨h6, h7, _⟩
      · have e : k = max xs.length ys.length := by omega
        have e1 : c = 1 := by omega
        subst e1
        refine .inr ⟨by omega, by omega, ?_⟩
        rw [vl_snoc, h1, ← e, hd]
        have := h2.bd.1
        simp
        omega
      · omega
theorem PR.done {xs ys zs : List Int} {k : Nat} {c : Int} (h : PR xs ys k c zs) (hc : ¬ (k < xs.length ∨ k < ys.length ∨ 0 < c)) :
    vl zs = vl xs + vl ys ∧ Dg zs ∧ zs.length ≤ max xs.length ys.length + 1 ∧ (Cn xs → Cn ys → Cn zs) := by
  obtain ⟨h1, h2, h3, h4, h5, h6⟩ := h
  have e0 : c = 0 := by omega
  subst e0
  rw [vt_all (by omega), vt_all (by omega)] at h3
  have hv : vl zs = vl xs + vl ys := by omega
  refine ⟨hv, h2, by omega, fun cx cy => ⟨h2, fun hne => ?_⟩⟩
  have bx := cx.bd.1
  have by_ := cy.bd.1
  rcases h6 with h6 | ⟨h6, _, h7⟩
  · have hz : 0 < zs.length := by cases zs with | nil => exact absurd rfl hne | cons _ _ => simp
    rcases Nat.lt_or_ge (k - 1) xs.length with g | g
    · have := cx.ge g; rw [h1]; omega
    · have := cy.ge (n := k - 1) (by omega); rw [h1]; omega
  · rw [h1, h6]; exact h7

/-- The state of a difference behind k rounds: borrowed c, digits zs. -/
def MR (xs ys : List Int) (k : Nat) (c : Int) (zs : List Int) : Prop :=
  zs.length = k ∧ Dg zs ∧ vl zs - 10 ^ k * c = vt xs k - vt ys k ∧ 0 ≤ c ∧ c ≤ 1
theorem MR.start (xs ys : List Int) : MR xs ys 0 0 [] := ⟨rfl, Dg.nil, rfl, by omega, by omega⟩
theorem MR.step {xs ys zs : List Int} {k : Nat} {c d c' : Int} (h : MR xs ys k c zs) (hx : Dg xs) (hy : Dg ys)
    (hc' : c' = countI (decide (xs.getD k 0 - c - ys.getD k 0 < 0))) (hd : d = xs.getD k 0 - c - ys.getD k 0 + 10 * c') : MR xs ys (k + 1) c' (zs ++ [d]) := by
  obtain ⟨h1, h2, h3, h4, h5⟩ := h
  have bx := hx.getD k
  have by_ := hy.getD k
  have hs := minus_step (P := 10 ^ k) (o := vl zs) (c := c) (a := vt xs k) (b := vt ys k) (x := xs.getD k 0) (y := ys.getD k 0) (c' := c') h3
  have hcc : (c' = 1 ∧ xs.getD k 0 - c - ys.getD k 0 < 0) ∨ (c' = 0 ∧ ¬ xs.getD k 0 - c - ys.getD k 0 < 0) := by
    by_cases g : xs.getD k 0 - c - ys.getD k 0 < 0
    · rw [decide_eq_true g] at hc'; exact .inl ⟨hc', g⟩
    · rw [decide_eq_false g] at hc'; exact .inr ⟨hc', g⟩
  refine ⟨by simp [h1], h2.snoc (by omega) (by omega), ?_, by omega, by omega⟩
  rw [vl_snoc, h1, hd, Int.pow_succ, vt, vt]
  exact hs
theorem MR.done {xs ys zs : List Int} {c : Int} (h : MR xs ys xs.length c zs) (hl : ys.length ≤ xs.length) (hv : vl ys ≤ vl xs) : vl zs = vl xs - vl ys := by
  obtain ⟨h1, h2, h3, h4, h5⟩ := h
  rw [vt_all (Nat.le_refl _), vt_all hl] at h3
  have := h2.bd.2
  rw [h1] at this
  have e : c = 0 := by
    rcases (by omega : c = 0 ∨ c = 1) with e | e
    · exact e
    · subst e; omega
  subst e
  omega

/-- The digits of a quotient, from what stands behind. -/
def dq (xs : List Int) (V : Int) (j : Nat) : Int := vl (xs.drop j) / V % 10
theorem dv_step {x A V : Int} (hV : 0 < V) (hx : 0 ≤ x) (hx' : x ≤ 9) :
    (x + 10 * A) / V = (x + 10 * (A % V)) / V + 10 * (A / V) ∧ (x + 10 * A) % V = (x + 10 * (A % V)) % V ∧ 0 ≤ (x + 10 * (A % V)) / V ∧ (x + 10 * (A % V)) / V ≤ 9 := by
  have e : x + 10 * A = (x + 10 * (A % V)) + V * (10 * (A / V)) := by
    have h1 := Int.mul_ediv_add_emod A V
    have h2 : 10 * A = 10 * (V * (A / V) + A % V) := by rw [h1]
    rw [h2, Int.mul_add, Int.mul_left_comm V 10]
    omega
  have r0 := Int.emod_nonneg A (Int.ne_of_gt hV)
  have r1 := Int.emod_lt_of_pos A hV
  refine ⟨?_, ?_, Int.ediv_nonneg (by omega) (by omega), ?_⟩
  · rw [e, Int.add_mul_ediv_left _ _ (Int.ne_of_gt hV)]
  · rw [e, Int.add_mul_emod_self_left]
  · have : (x + 10 * (A % V)) / V < 10 := Int.ediv_lt_of_lt_mul hV (by omega)
    omega
theorem dq_vl {xs : List Int} (hx : Dg xs) {V : Int} (hV : 0 < V) : ∀ i k, k + i = xs.length → vl ((fl xs.length (dq xs V)).drop k) = vl (xs.drop k) / V
  | 0, k, h => by
    rw [List.drop_of_length_le (by rw [fl_length]; omega), List.drop_of_length_le (by omega)]; simp [vl]
  | i + 1, k, h => by
    have ih := dq_vl hx hV i (k + 1) (by omega)
    have hk : k < xs.length := by omega
    rw [vl_drop _ (by rw [fl_length]; exact hk), ih, fl_getD hk]
    have e := vl_drop xs hk
    have b := hx.getD k
    obtain ⟨s1, s2, s3, s4⟩ := dv_step (A := vl (xs.drop (k + 1))) hV b.1 b.2
    unfold dq
    rw [e, s1]
    omega
theorem dq_all {xs : List Int} (hx : Dg xs) {V : Int} (hV : 0 < V) : vl (fl xs.length (dq xs V)) = vl xs / V := dq_vl hx hV xs.length 0 (by omega)
theorem dq_dg (xs : List Int) (V : Int) : Dg (fl xs.length (dq xs V)) := by
  intro d hd
  unfold fl at hd
  obtain ⟨i, _, rfl⟩ := List.mem_map.1 hd
  unfold dq
  omega
end Go.Proofs.Ytmejhccdiimmlaa
