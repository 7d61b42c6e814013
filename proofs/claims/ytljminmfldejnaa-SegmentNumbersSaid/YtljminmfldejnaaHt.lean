/- Stores behind writing, plainly. -/
import Derived.Test.YtljminmfldejnaaHs
import Derived.Test.YtljminmfldejnaaBA
namespace Go.Proofs.Ytljminmfldejnaa
set_option linter.unusedSimpArgs false
set_option linter.unusedVariables false
open Go.RowKit

theorem fB_none (f : Nat → Bool) : ∀ m i, (∀ k, i ≤ k → k < i + m → f k = false) → fB f m i = i + m
  | 0, i, _ => rfl
  | m + 1, i, h => by
    have h0 := h i (Nat.le_refl _) (by omega)
    rw [fB, if_neg (by simp [h0]), fB_none f m (i + 1) (fun k h1 h2 => h k (by omega) (by omega))]
    omega
theorem fB_first (f : Nat → Bool) : ∀ m i k, i ≤ k → k < fB f m i → f k = false
  | 0, i, k, h1, h2 => by simp [fB] at h2; omega
  | m + 1, i, k, h1, h2 => by
    by_cases e : f i = true
    · rw [fB, if_pos e] at h2; omega
    · rw [fB, if_neg e] at h2
      rcases Nat.eq_or_lt_of_le h1 with rfl | h3
      · simpa using e
      · exact fB_first f m (i + 1) k (by omega) h2
theorem st_zero {nx : Int} {gs : List (Int × ByteArray)} (h : stE nx gs = 0) : gs.length ≤ 10 ∧ wiB nx 1 1001 = true ∧ ∀ i, i < gs.length → sgErr nx gs i = 0 := by
  by_cases h1 : 10 < gs.length
  · rw [(st_large h1).1] at h; omega
  rcases Bool.eq_false_or_eq_true (wiB nx 1 1001) with h2 | h2
  rotate_left
  · rw [(st_range h1 h2).1] at h; omega
  by_cases h3 : badI nx gs < gs.length
  · rw [(st_bad h1 h2 h3 rfl rfl).1] at h
    have hb : badG nx gs (badI nx gs) = true := fB_bad (badG nx gs) gs.length 0 (by unfold badI at h3; omega)
    unfold badG at hb
    rw [h] at hb
    cases hb
  refine ⟨by omega, h2, fun i hi => ?_⟩
  have hle := fB_le (badG nx gs) gs.length 0
  have := fB_all (badG nx gs) gs.length 0 (by unfold badI at h3; omega) i (by omega) (by omega)
  unfold badG at this
  simpa using this
theorem st_make {nx : Int} {gs : List (Int × ByteArray)} (h1 : gs.length ≤ 10) (h2 : wiB nx 1 1001 = true) (h3 : ∀ i, i < gs.length → sgErr nx gs i = 0) : stE nx gs = 0 ∧ stI nx gs = 0 :=
  st_good (by omega) h2 (by
    unfold badI
    rw [fB_none _ _ _ (fun k _ hk => by unfold badG; rw [h3 k (by omega)]; rfl)]
    omega)
theorem sgE_size {nx bf m : Int} {x y : ByteArray} (h : x.size = y.size) : sgE nx bf m x = sgE nx bf m y := by
  unfold sgE pgs
  rw [h]
theorem bfG_congr {gs hs : List (Int × ByteArray)} (h : ∀ j, nuG hs j = nuG gs j) (i : Nat) : bfG hs i = bfG gs i := by
  unfold bfG; rw [h]
/-- A store with the same numbers and sizes is as right. -/
theorem st_like {nx : Int} {gs hs : List (Int × ByteArray)} (hl : hs.length = gs.length) (hn : ∀ j, nuG hs j = nuG gs j) (hz : ∀ j, j < gs.length → (byG hs j).size = (byG gs j).size) (h : stE nx gs = 0) : stE nx hs = 0 := by
  obtain ⟨h1, h2, h3⟩ := st_zero h
  refine (st_make (by omega) h2 fun i hi => ?_).1
  unfold sgErr
  rw [bfG_congr hn, hn, sgE_size (hz i (by omega))]
  exact h3 i (by omega)
theorem fI_like {gs hs : List (Int × ByteArray)} (hl : hs.length = gs.length) (hn : ∀ j, nuG hs j = nuG gs j) (k : Int) : fI hs k = fI gs k := by
  have e : eqG hs k = eqG gs k := by funext j; unfold eqG; rw [hn]
  unfold fI
  rw [hl, e]
/-- Numbers ascend. -/
theorem nu_lt {nx : Int} {gs : List (Int × ByteArray)} (h : stE nx gs = 0) : ∀ j i, i < j → j < gs.length → nuG gs i < nuG gs j
  | 0, i, h1, _ => absurd h1 (by omega)
  | j + 1, i, h1, h2 => by
    have h3 := ((st_right h).2.2.2 (j + 1) h2).2.1
    have h4 : bfG gs (j + 1) = nuG gs j := by simp [bfG]
    rw [h4] at h3
    rcases Nat.eq_or_lt_of_le (show i ≤ j by omega) with rfl | h5
    · exact h3
    · have := nu_lt h j i h5 (by omega)
      omega
theorem fI_nu {nx : Int} {gs : List (Int × ByteArray)} (h : stE nx gs = 0) {j : Nat} (hj : j < gs.length) : fI gs (nuG gs j) = j := by
  have hle : fI gs (nuG gs j) ≤ j := by
    rcases Nat.lt_or_ge j (fI gs (nuG gs j)) with h1 | h1
    · have := fB_first (eqG gs (nuG gs j)) gs.length 0 j (by omega) h1
      simp [eqG] at this
    · exact h1
  have hb := fB_bad (eqG gs (nuG gs j)) gs.length 0 (by unfold fI at hle; omega)
  have he : nuG gs (fI gs (nuG gs j)) = nuG gs j := by simpa [eqG, fI] using hb
  rcases Nat.eq_or_lt_of_le hle with e | h1
  · exact e
  · have := nu_lt h j _ h1 hj
    omega
theorem ix_nu {nx : Int} {gs : List (Int × ByteArray)} (h : stE nx gs = 0) {j : Nat} (hj : j < gs.length) : ixE nx gs (nuG gs j) = 0 := by
  rw [ixE, if_pos h, nbE, if_pos (by rw [fI_nu h hj]; exact hj)]

/-- The store behind writing. -/
theorem pS_cut {x : ByteArray} {a : Nat} {d : ByteArray} (h : a + d.size ≤ x.size) : (pS x a d).extract a (a + d.size) = d := by
  have hz := pS_size h
  have e : d = d.extract 0 (0 + d.size) := by rw [Nat.zero_add, ByteArray.extract_zero_size]
  conv => rhs; rw [e]
  refine cut_same (by omega) (by omega) fun i hi => ?_
  rw [pS_at h (a + i) (by omega), if_neg (by omega), if_pos (by omega), Nat.zero_add, show a + i - a = i by omega]
theorem pS_out {x : ByteArray} {a : Nat} {d : ByteArray} (h : a + d.size ≤ x.size) {p : Nat} (hp : p < x.size) (ho : p < a ∨ a + d.size ≤ p) : (pS x a d).extract p (p + 1) = x.extract p (p + 1) := by
  have hz := pS_size h
  refine cut_same (by omega) (by omega) fun i hi => ?_
  obtain rfl : i = 0 := by omega
  rw [pS_at h (p + 0) (by omega)]
  rcases ho with h1 | h1
  · rw [if_pos (by omega)]
  · rw [if_neg (by omega), if_neg (by omega)]
section
variable {nx k : Int} {gs : List (Int × ByteArray)} {a : Nat} {d : ByteArray}
theorem wr_le (h : iwE nx gs k a d.size = 0) : a + d.size ≤ (byG gs (fI gs k)).size := by
  have := rgB_iff.1 (iwE_zero h).2
  omega
/-- The store behind writing is right; its segments. -/
theorem wr_store (h : iwE nx gs k a d.size = 0) : stE nx (setG gs (fI gs k) (pS (byG gs (fI gs k)) a d)) = 0 ∧ (∀ j, nuG (setG gs (fI gs k) (pS (byG gs (fI gs k)) a d)) j = nuG gs j) ∧ (setG gs (fI gs k) (pS (byG gs (fI gs k)) a d)).length = gs.length := by
  obtain ⟨e1, e2, -⟩ := ix_zero (iwE_zero h).1
  have hle := wr_le h
  refine ⟨st_like (setG_len _ _ _) (setG_nu e2) (fun j hj => ?_) e1, setG_nu e2, setG_len _ _ _⟩
  rw [setG_by e2]
  split
  · rename_i e; subst e; exact pS_size hle
  · rfl
theorem wr_read (h : iwE nx gs k a d.size = 0) : iwE nx (setG gs (fI gs k) (pS (byG gs (fI gs k)) a d)) k a d.size = 0 ∧ (byG (setG gs (fI gs k) (pS (byG gs (fI gs k)) a d)) (fI (setG gs (fI gs k) (pS (byG gs (fI gs k)) a d)) k)).extract a (a + d.size) = d := by
  obtain ⟨e1, e2, e3, -⟩ := ix_zero (iwE_zero h).1
  obtain ⟨s1, s2, s3⟩ := wr_store h
  have hle := wr_le h
  have hf := fI_like s3 s2 k
  have hb : byG (setG gs (fI gs k) (pS (byG gs (fI gs k)) a d)) (fI gs k) = pS (byG gs (fI gs k)) a d := by rw [setG_by e2, if_pos rfl]
  have hix : ixE nx (setG gs (fI gs k) (pS (byG gs (fI gs k)) a d)) k = 0 := by
    have := ix_nu s1 (j := fI gs k) (by rw [s3]; exact e2)
    rw [s2, e3] at this
    exact this
  refine ⟨iwE_yes hix ?_, ?_⟩
  · rw [hf, hb]
    refine rgB_iff.2 ?_
    rw [pS_size hle]
    omega
  · rw [hf, hb]; exact pS_cut hle
theorem wr_other (h : iwE nx gs k a d.size = 0) {j p : Nat} (hj : j < gs.length) (hp : p < (byG gs j).size) (ho : nuG gs j = k → p < a ∨ a + d.size ≤ p) :
    iwE nx (setG gs (fI gs k) (pS (byG gs (fI gs k)) a d)) (nuG gs j) p 1 = 0 ∧ (byG (setG gs (fI gs k) (pS (byG gs (fI gs k)) a d)) (fI (setG gs (fI gs k) (pS (byG gs (fI gs k)) a d)) (nuG gs j))).extract p (p + 1) = (byG gs j).extract p (p + 1) := by
  obtain ⟨e1, e2, e3, -⟩ := ix_zero (iwE_zero h).1
  obtain ⟨s1, s2, s3⟩ := wr_store h
  have hle := wr_le h
  have hf : fI (setG gs (fI gs k) (pS (byG gs (fI gs k)) a d)) (nuG gs j) = j := by rw [fI_like s3 s2, fI_nu e1 hj]
  have hix : ixE nx (setG gs (fI gs k) (pS (byG gs (fI gs k)) a d)) (nuG gs j) = 0 := by
    have := ix_nu s1 (j := j) (by rw [s3]; exact hj)
    rw [s2] at this
    exact this
  by_cases e : j = fI gs k
  · have hb : byG (setG gs (fI gs k) (pS (byG gs (fI gs k)) a d)) j = pS (byG gs (fI gs k)) a d := by rw [setG_by e2, if_pos e]
    have hx : byG gs j = byG gs (fI gs k) := by rw [e]
    have hk : nuG gs j = k := by rw [e]; exact e3
    refine ⟨iwE_yes hix ?_, ?_⟩
    · rw [hf, hb]
      refine rgB_iff.2 ?_
      rw [pS_size hle, ← hx]
      omega
    · rw [hf, hb, hx]
      exact pS_out hle (by rw [← hx]; exact hp) (ho hk)
  · have hb : byG (setG gs (fI gs k) (pS (byG gs (fI gs k)) a d)) j = byG gs j := by rw [setG_by e2, if_neg e]
    refine ⟨iwE_yes hix ?_, ?_⟩
    · rw [hf, hb]; exact rgB_iff.2 (by omega)
    · rw [hf, hb]
end
end Go.Proofs.Ytljminmfldejnaa
