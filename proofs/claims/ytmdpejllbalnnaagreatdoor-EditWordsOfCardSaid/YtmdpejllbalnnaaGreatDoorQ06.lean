/- Texts of the walks, merged. -/
import Derived.Test.YtmdpejllbalnnaaGreatDoorQ04
import Derived.Lib.ItoaNum
namespace Go.Proofs.YtmdpejllbalnnaaGreatDoor
set_option linter.unusedSimpArgs false
set_option linter.unusedVariables false
open Go.RowKit

theorem dE_eq (f : Nat → Int) {L q : Nat} : ∀ k a, q = a + k → (∀ j, a ≤ j → j < q → dgt (f j) = true) → (q = L ∨ dgt (f q) = false) → q ≤ L → dE f L a = q
  | 0, a, h, _, h2, h3 => by
    obtain rfl : q = a := by omega
    rcases h2 with h2 | h2
    · rw [h2]; exact dE_end f L
    · by_cases e : q = L
      · rw [e]; exact dE_end f L
      · exact dE_stop f (by omega) h2
  | k + 1, a, h, h1, h2, h3 => by
    rw [dE_step f (by omega) (h1 a (by omega) (by omega))]
    exact dE_eq f k (a + 1) (by omega) (fun j a b => h1 j (by omega) b) h2 h3
theorem pvN_shift (f : Nat → Int) (h : f 0 = 48) : ∀ k, pvN f (k + 1) = pvN (fun i => f (i + 1)) k
  | 0 => by simp [pvN, h]
  | k + 1 => by
    rw [pvN, pvN_shift f h k]
    simp only [pvN]
theorem pvN_congr {f g : Nat → Int} : ∀ k, (∀ i, i < k → f i = g i) → pvN f k = pvN g k
  | 0, _ => rfl
  | k + 1, h => by rw [pvN, pvN, pvN_congr k (fun i hi => h i (by omega)), h k (by omega)]
/-- A number's text is read as the number. -/
theorem back_ck (f Z : Nat → Int) (L m s : Nat) (b : Bool) (a : Nat) (ha : a = if b then 1 else 0) (hm : s + 1 ≤ m) (hL : L = a + m + (if 0 < s then 1 else 0))
    (hZ : ∀ j, j < m → dgt (Z j) = true) (h0 : s + 1 < m → Z 0 ≠ 48) (hb : b = true → f 0 = 45)
    (f1 : ∀ j, j < m - s → f (a + j) = Z j) (f2 : 0 < s → f (a + (m - s)) = 46) (f3 : ∀ j, j < s → f (a + (m - s) + 1 + j) = Z (m - s + j)) :
    sgnT f = a ∧ wE f L = a + (m - s) ∧ ckT f L = (0, 0) := by
  have hs : sgnT f = a := by
    cases b
    · simp at ha; subst ha
      have := f1 0 (by omega)
      have hz := hZ 0 (by omega)
      simp only [dgt, Bool.and_eq_true, decide_eq_true_eq] at hz
      unfold sgnT; rw [if_neg]
      simp at this; omega
    · simp at ha; subst ha
      unfold sgnT; rw [if_pos (hb rfl)]
  have hd : ∀ j, a ≤ j → j < a + (m - s) → dgt (f j) = true := by
    intro j h1 h2
    have := f1 (j - a) (by omega)
    rw [show a + (j - a) = j by omega] at this
    rw [this]; exact hZ _ (by omega)
  have hq : a + (m - s) = L ∨ dgt (f (a + (m - s))) = false := by
    by_cases e : 0 < s
    · right; rw [f2 e]; decide
    · left; rw [hL, if_neg e]; omega
  have hqL : a + (m - s) ≤ L := by rw [hL]; split <;> omega
  have hE : dE f L a = a + (m - s) := dE_eq f (m - s) a rfl hd hq hqL
  have hw : wE f L = a + (m - s) := by
    unfold wE; rw [hs]
    by_cases e : f a = 48
    · rw [if_pos e]
      have h1 := f1 0 (by omega)
      rw [Nat.add_zero, e] at h1
      by_cases g : s + 1 < m
      · exact absurd h1.symm (h0 g)
      · omega
    · rw [if_neg e]; exact hE
  refine ⟨hs, hw, ?_⟩
  unfold ckT
  rw [hs, hE, if_neg (by omega), hw]
  by_cases e : 0 < s
  · rw [if_neg (by rw [hL, if_pos e]; omega), if_pos (f2 e)]
    have hE2 : dE f L (a + (m - s) + 1) = L := dE_eq f s _ (by rw [hL, if_pos e]; omega) (by
      intro j h1 h2
      have := f3 (j - (a + (m - s) + 1)) (by rw [hL, if_pos e] at h2; omega)
      rw [show a + (m - s) + 1 + (j - (a + (m - s) + 1)) = j by omega] at this
      rw [this]; exact hZ _ (by rw [hL, if_pos e] at h2; omega)) (Or.inl rfl) (Nat.le_refl _)
    rw [hE2, if_neg (by rw [hL, if_pos e]; omega)]
  · rw [if_pos (by rw [hL, if_neg e]; omega)]
theorem back_num (f Z : Nat → Int) (L m s a : Nat) (p : Int) (hp : p = if a + (m - s) = L then -1 else ((a + (m - s) : Nat) : Int)) (hm : s + 1 ≤ m) (hL : L = a + m + (if 0 < s then 1 else 0))
    (h0 : s + 1 < m → Z 0 ≠ 48)
    (f1 : ∀ j, j < m - s → f (a + j) = Z j) (f3 : ∀ j, j < s → f (a + (m - s) + 1 + j) = Z (m - s + j)) :
    cntN f a p (L - a) = m - (if Z 0 = 48 then 1 else 0) ∧ scN a p (L - a) = s ∧ (m - (if Z 0 = 48 then 1 else 0) ≤ 15 → nvN f a p (L - a) = pvN Z m) := by
  have e0 : f a = Z 0 := by have := f1 0 (by omega); simpa using this
  obtain ⟨z, hz⟩ : ∃ z : Nat, z = if f a = 48 then 1 else 0 := ⟨_, rfl⟩
  have hz2 : (if Z 0 = 48 then 1 else 0) = z := by rw [hz, e0]
  rw [hz2]
  have hqL : a + (m - s) ≤ L := by rw [hL]; split <;> omega
  have hp2 : (p = -1 ∧ a + (m - s) = L) ∨ (p = ((a + (m - s) : Nat) : Int) ∧ a + (m - s) < L) := by
    rw [hp]
    by_cases e : a + (m - s) = L
    · rw [if_pos e]; exact Or.inl ⟨rfl, e⟩
    · rw [if_neg e]; exact Or.inr ⟨rfl, by omega⟩
  have h48 : f a = 48 → a + (m - s) = a + 1 := by
    intro e
    by_cases g : s + 1 < m
    · rw [e0] at e; exact absurd e (h0 g)
    · omega
  have hg1 : ∀ k, k + z < a + (m - s) - a → (fun i => Z (z + i)) k = f (a + z + k) := by
    intro k hk
    have := f1 (z + k) (by omega)
    rw [show a + z + k = a + (z + k) by omega, this]
  have hg2 : ∀ k, k < L - (a + (m - s) + 1) → (fun i => Z (z + i)) (a + (m - s) - a - z + k) = f (a + (m - s) + 1 + k) := by
    intro k hk
    have hs : 0 < s := by
      by_cases e : 0 < s
      · exact e
      · rw [hL, if_neg e] at hk; omega
    rw [hL, if_pos hs] at hk
    have hz1 : z ≤ 1 := by rw [hz]; split <;> omega
    rw [f3 k (by omega)]
    show Z (z + (a + (m - s) - a - z + k)) = _
    congr 1; omega
  obtain ⟨k1, k2⟩ := cnt_pv f (fun i => Z (z + i)) a (a + (m - s)) L 0 p z hz (by omega) hqL hp2 h48 hg1 hg2
  have hzm : z ≤ 1 := by rw [hz]; split <;> omega
  have hpv : pvN (fun i => Z (z + i)) (m - z) = pvN Z m := by
    by_cases e : f a = 48
    · have hz1 : z = 1 := by rw [hz, if_pos e]
      subst hz1
      obtain ⟨k, hk⟩ : ∃ k, m = k + 1 := ⟨m - 1, by omega⟩
      rw [hk, pvN_shift Z (by rw [← e0]; exact e)]
      exact pvN_congr _ (fun i _ => by congr 1; omega)
    · have hz0 : z = 0 := by rw [hz, if_neg e]
      subst hz0
      exact pvN_congr _ (fun i _ => by congr 1; omega)
  rcases hp2 with ⟨_, e⟩ | ⟨_, e⟩
  · have hs : s = 0 := by
      by_cases g : 0 < s
      · rw [hL, if_pos g] at e; omega
      · omega
    obtain ⟨b1, b2, b3⟩ := k1 (m - s) (by omega)
    rw [show L - a = m - s by omega]
    refine ⟨by rw [b1]; omega, by rw [b2]; omega, fun h => ?_⟩
    rw [b3 (by omega), ← hpv, show m - s - z = m - z by omega]
  · have hs : 0 < s := by
      by_cases g : 0 < s
      · exact g
      · rw [hL, if_neg g] at e; omega
    have hL2 : L = a + m + 1 := by rw [hL, if_pos hs]
    obtain ⟨b1, b2, b3⟩ := k2 s e (by omega)
    rw [show a + (m - s) - a + 1 + s = L - a by omega] at b1 b2 b3
    refine ⟨by rw [b1]; omega, b2, fun h => ?_⟩
    rw [b3 (by omega), ← hpv, show a + (m - s) - a - z + s = m - z by omega]
/-- Decimal digits as a text. -/
def dcS (u : Nat) : ByteArray := ⟨(Lib.decDigits u).toArray⟩
theorem dcS_lo {u : Nat} (h : u < 10) : dcS u = ⟨#[UInt8.ofNat (48 + u)]⟩ := by unfold dcS; rw [Lib.decDigits, dif_pos h]
theorem dcS_hi {u : Nat} (h : ¬ u < 10) : dcS u = dcS (u / 10) ++ ⟨#[UInt8.ofNat (48 + u % 10)]⟩ := by
  refine ba_listT ?_
  unfold dcS
  rw [Lib.decDigits, dif_neg h, ByteArray.data_append, Array.toList_append]
theorem one_at (n : Nat) (h : n < 256) : tAt ⟨#[UInt8.ofNat n]⟩ 0 = n := by
  unfold tAt
  show ((UInt8.ofNat n).toNat : Int) = n
  rw [UInt8.toNat_ofNat']; omega
theorem dcS_len (u : Nat) : ∀ k, u < 10 ^ k → 1 ≤ k → 1 ≤ (dcS u).size ∧ (dcS u).size ≤ k := by
  intro k
  induction k generalizing u with
  | zero => intro _ h; omega
  | succ k ih =>
    intro h _
    by_cases e : u < 10
    · rw [dcS_lo e]; show 1 ≤ 1 ∧ 1 ≤ _; omega
    · rw [dcS_hi e, ByteArray.size_append]
      have hk : 1 ≤ k := by
        rcases Nat.eq_zero_or_pos k with g | g
        · subst g; simp at h; omega
        · exact g
      have := ih (u / 10) (by rw [Nat.pow_succ] at h; omega) hk
      show 1 ≤ _ + 1 ∧ _ + 1 ≤ _
      omega
/-- The digits are digits, they make the number, and none but that of 0 begins with 0. -/
theorem dcS_right (k : Nat) : ∀ u : Nat, u ≤ k → (∀ i, i < (dcS u).size → dgt (tAt (dcS u) i) = true) ∧ pvN (tAt (dcS u)) (dcS u).size = u ∧ 1 ≤ (dcS u).size ∧ (1 < (dcS u).size → tAt (dcS u) 0 ≠ 48) ∧ ((dcS u).size = 1 → u < 10) := by
  induction k with
  | zero =>
    intro u hu
    obtain rfl : u = 0 := by omega
    rw [dcS_lo (by omega)]
    have h1 := one_at (48 + 0) (by omega)
    refine ⟨fun i hi => ?_, ?_, by show 1 ≤ 1; omega, fun h => absurd h (by show ¬ 1 < 1; omega), fun _ => by omega⟩
    · obtain rfl : i = 0 := by have : i < 1 := hi; omega
      rw [h1]; decide
    · show pvN _ 1 = _
      simp only [pvN]; rw [h1]; rfl
  | succ k ih =>
    intro u hu
    by_cases e : u < 10
    · rw [dcS_lo e]
      have h1 := one_at (48 + u) (by omega)
      refine ⟨fun i hi => ?_, ?_, by show 1 ≤ 1; omega, fun h => absurd h (by show ¬ 1 < 1; omega), fun _ => e⟩
      · obtain rfl : i = 0 := by have : i < 1 := hi; omega
        rw [h1]; simp [dgt]; omega
      · show pvN _ 1 = _
        simp only [pvN]; rw [h1]; omega
    · obtain ⟨i1, i2, i3, i4, i5⟩ := ih (u / 10) (by omega)
      have h1 := one_at (48 + u % 10) (by omega)
      have hs : (dcS u).size = (dcS (u / 10)).size + 1 := by rw [dcS_hi e, ByteArray.size_append]; rfl
      have hl : ∀ i, i < (dcS (u / 10)).size → tAt (dcS u) i = tAt (dcS (u / 10)) i := fun i hi => by rw [dcS_hi e, tAt_append, if_pos hi]
      have hr : tAt (dcS u) (dcS (u / 10)).size = ((48 + u % 10 : Nat) : Int) := by rw [dcS_hi e, tAt_append, if_neg (by omega), Nat.sub_self]; exact h1
      refine ⟨fun i hi => ?_, ?_, by omega, fun _ => ?_, fun h => by omega⟩
      · by_cases g : i < (dcS (u / 10)).size
        · rw [hl i g]; exact i1 i g
        · rw [show i = (dcS (u / 10)).size by omega, hr]; simp [dgt]; omega
      · rw [hs, pvN, pvN_congr _ hl, i2, hr]; omega
      · rw [hl 0 (by omega)]
        by_cases g : 1 < (dcS (u / 10)).size
        · exact i4 g
        · have h10 := i5 (by omega)
          rw [dcS_lo h10, one_at _ (by omega)]; omega
/-- So many zeros in front. -/
def zrS (j : Nat) : ByteArray := strOfNums (List.replicate j 48)
theorem zrS_size (j : Nat) : (zrS j).size = j := by unfold zrS strOfNums; show Array.size _ = _; simp
theorem zrS_at (j i : Nat) (h : i < j) : tAt (zrS j) i = 48 := by
  unfold tAt zrS
  rw [strOfNums_data, List.getD_eq_getElem?_getD, List.getElem?_map, List.getElem?_replicate, if_pos h]; rfl
theorem zrS_succ (j : Nat) (d : ByteArray) : (⟨#[48]⟩ : ByteArray) ++ (zrS j ++ d) = zrS (j + 1) ++ d := by
  refine ba_listT ?_
  simp only [ByteArray.data_append, Array.toList_append]
  unfold zrS
  rw [strOfNums_data, strOfNums_data, List.replicate_succ]
  rfl
theorem zrS_zero (d : ByteArray) : zrS 0 ++ d = d := by
  refine ba_listT ?_
  simp only [ByteArray.data_append, Array.toList_append]
  unfold zrS
  rw [strOfNums_data]; rfl
theorem pv_zeros (d : ByteArray) : ∀ j, pvN (tAt (zrS j ++ d)) (j + d.size) = pvN (tAt d) d.size
  | 0 => by rw [zrS_zero, Nat.zero_add]
  | j + 1 => by
    rw [show j + 1 + d.size = (j + d.size) + 1 by omega, pvN_shift _ (by rw [tAt_append, if_pos (by rw [zrS_size]; omega), zrS_at _ _ (by omega)]), ← pv_zeros d j]
    refine pvN_congr _ fun i hi => ?_
    rw [tAt_append, tAt_append, zrS_size, zrS_size]
    by_cases g : i < j
    · rw [if_pos (by omega), if_pos g, zrS_at _ _ (by omega), zrS_at _ _ g]
    · rw [if_neg (by omega), if_neg g]; congr 1; omega

/-- The text of a number. -/
def fzS (u s : Nat) : ByteArray := zrS (s + 1 - (dcS u).size) ++ dcS u
def fpS (u s : Nat) : ByteArray := if 0 < s then (fzS u s).extract 0 ((fzS u s).size - s) ++ ((⟨#[46]⟩ : ByteArray) ++ (fzS u s).extract ((fzS u s).size - s) (fzS u s).size) else (fzS u s).extract 0 ((fzS u s).size - s)
def fmtS (n : Int) (s : Nat) : ByteArray := if n < 0 then (⟨#[45]⟩ : ByteArray) ++ fpS n.natAbs s else fpS n.natAbs s
theorem fzS_size (u s : Nat) : (fzS u s).size = (s + 1 - (dcS u).size) + (dcS u).size := by unfold fzS; rw [ByteArray.size_append, zrS_size]
theorem fzS_right (u s : Nat) (hu : u ≤ 999999999999999) (hs : s ≤ 15) :
    s + 1 ≤ (fzS u s).size ∧ (fzS u s).size ≤ 16 ∧ (∀ j, j < (fzS u s).size → dgt (tAt (fzS u s) j) = true) ∧ (s + 1 < (fzS u s).size → tAt (fzS u s) 0 ≠ 48) ∧ pvN (tAt (fzS u s)) (fzS u s).size = u ∧ (fzS u s).size - (if tAt (fzS u s) 0 = 48 then 1 else 0) ≤ 15 := by
  obtain ⟨d1, d2, d3, d4, d5⟩ := dcS_right u u (Nat.le_refl _)
  have hl := (dcS_len u 15 (by omega) (by omega)).2
  have hz := fzS_size u s
  have h1 : s + 1 ≤ (fzS u s).size := by omega
  have h2 : (fzS u s).size ≤ 16 := by omega
  have h5 : pvN (tAt (fzS u s)) (fzS u s).size = u := by rw [hz]; unfold fzS; rw [pv_zeros, d2]
  have hnz : s + 1 ≤ (dcS u).size → fzS u s = dcS u := fun h => by unfold fzS; rw [show s + 1 - (dcS u).size = 0 by omega, zrS_zero]
  refine ⟨h1, h2, fun j hj => ?_, fun h => ?_, h5, ?_⟩
  · unfold fzS; rw [tAt_append, zrS_size]
    by_cases g : j < s + 1 - (dcS u).size
    · rw [if_pos g, zrS_at _ _ g]; decide
    · rw [if_neg g]; exact d1 _ (by omega)
  · rw [hnz (by omega)] at h ⊢; exact d4 (by omega)
  · by_cases g : (dcS u).size < s + 1
    · have : tAt (fzS u s) 0 = 48 := by unfold fzS; rw [tAt_append, zrS_size, if_pos (by omega), zrS_at _ _ (by omega)]
      rw [if_pos this]; omega
    · have : (fzS u s).size = (dcS u).size := by omega
      split <;> omega
theorem fmt_back (n : Int) (s : Nat) (hn : n.natAbs ≤ 999999999999999) (hs : s ≤ 15) : TxR (fmtS n s) n s (fmtS n s).size 0 ∧ (fmtS n s).size ≤ 40 := by
  obtain ⟨z1, z2, z3, z4, z5, z6⟩ := fzS_right n.natAbs s hn hs
  generalize hZ : fzS n.natAbs s = Z at *
  obtain ⟨a, ha⟩ : ∃ a : Nat, a = if decide (n < 0) then 1 else 0 := ⟨_, rfl⟩
  have hpt : fpS n.natAbs s = if 0 < s then Z.extract 0 (Z.size - s) ++ ((⟨#[46]⟩ : ByteArray) ++ Z.extract (Z.size - s) Z.size) else Z.extract 0 (Z.size - s) := by unfold fpS; rw [hZ]
  have e1 : (Z.extract 0 (Z.size - s)).size = Z.size - s := by rw [ByteArray.size_extract]; omega
  have e2 : (Z.extract (Z.size - s) Z.size).size = s := by rw [ByteArray.size_extract]; omega
  have hdot : (⟨#[46]⟩ : ByteArray).size = 1 := rfl
  have hmin : (⟨#[45]⟩ : ByteArray).size = 1 := rfl
  have hps : (fpS n.natAbs s).size = Z.size + (if 0 < s then 1 else 0) := by
    rw [hpt]
    by_cases g : 0 < s
    · rw [if_pos g, if_pos g, ByteArray.size_append, ByteArray.size_append, e1, e2, hdot]; omega
    · rw [if_neg g, if_neg g, e1]; omega
  have p1 : ∀ j, j < Z.size - s → tAt (fpS n.natAbs s) j = tAt Z j := by
    intro j hj
    rw [hpt]
    by_cases g : 0 < s
    · rw [if_pos g, tAt_append, if_pos (by omega), tAt_extract _ _ _ _ (by omega) (by omega), Nat.zero_add]
    · rw [if_neg g, tAt_extract _ _ _ _ (by omega) (by omega), Nat.zero_add]
  have p2 : 0 < s → tAt (fpS n.natAbs s) (Z.size - s) = 46 := by
    intro g
    rw [hpt, if_pos g, tAt_append, if_neg (by omega), e1, Nat.sub_self, tAt_append, if_pos (by rw [hdot]; omega)]; rfl
  have p3 : ∀ j, j < s → tAt (fpS n.natAbs s) (Z.size - s + 1 + j) = tAt Z (Z.size - s + j) := by
    intro j hj
    rw [hpt, if_pos (by omega), tAt_append, if_neg (by omega), e1, tAt_append, hdot, if_neg (by omega), tAt_extract _ _ _ _ (by omega) (by omega)]
    congr 1; omega
  have hL : (fmtS n s).size = a + Z.size + (if 0 < s then 1 else 0) := by
    unfold fmtS
    by_cases g : n < 0
    · rw [if_pos g, ByteArray.size_append, hmin, hps, ha, decide_eq_true g, if_pos rfl]; omega
    · rw [if_neg g, hps, ha, decide_eq_false g]; simp
  have hat : ∀ i, tAt (fmtS n s) (a + i) = tAt (fpS n.natAbs s) i := by
    intro i
    unfold fmtS
    by_cases g : n < 0
    · rw [if_pos g, tAt_append, hmin]
      rw [decide_eq_true g, if_pos rfl] at ha
      rw [if_neg (by omega)]; congr 1; omega
    · rw [if_neg g]
      rw [decide_eq_false g] at ha
      simp at ha
      congr 1; omega
  have hb : decide (n < 0) = true → tAt (fmtS n s) 0 = 45 := by
    intro g
    unfold fmtS
    rw [if_pos (of_decide_eq_true g), tAt_append, if_pos (by rw [hmin]; omega)]; rfl
  have f1 : ∀ j, j < Z.size - s → tAt (fmtS n s) (a + j) = tAt Z j := fun j hj => by rw [hat, p1 j hj]
  have f2 : 0 < s → tAt (fmtS n s) (a + (Z.size - s)) = 46 := fun g => by rw [hat, p2 g]
  have f3 : ∀ j, j < s → tAt (fmtS n s) (a + (Z.size - s) + 1 + j) = tAt Z (Z.size - s + j) := fun j hj => by rw [show a + (Z.size - s) + 1 + j = a + (Z.size - s + 1 + j) by omega, hat, p3 j hj]
  obtain ⟨c1, c2, c3⟩ := back_ck (tAt (fmtS n s)) (tAt Z) (fmtS n s).size Z.size s (decide (n < 0)) a ha z1 hL z3 z4 hb f1 f2 f3
  obtain ⟨m1, m2, m3⟩ := back_num (tAt (fmtS n s)) (tAt Z) (fmtS n s).size Z.size s a (pT (tAt (fmtS n s)) (fmtS n s).size) (by unfold pT; rw [c2]) z1 hL z4 f1 f3
  have ha1 : a ≤ 1 := by rw [ha]; split <;> omega
  have hsz : (fmtS n s).size ≤ 40 := by rw [hL]; split <;> omega
  have hneg : decide (tAt (fmtS n s) 0 = 45) = decide (n < 0) := by
    by_cases g : n < 0
    · rw [hb (by simp [g]), decide_eq_true g]; rfl
    · rw [decide_eq_false g]
      rw [decide_eq_false g] at ha
      simp at ha
      have := f1 0 (by omega)
      rw [ha] at this
      have hz := z3 0 (by omega)
      simp only [dgt, Bool.and_eq_true, decide_eq_true_eq] at hz
      rw [decide_eq_false_iff_not]
      simp at this
      omega
  refine ⟨.inr (.inr (.inr (.inr ⟨by rw [hL]; omega, hsz, by rw [c3], ?_, ?_, ?_, rfl, rfl⟩))), hsz⟩
  · unfold cnT; rw [c1, m1]; exact z6
  · unfold nvT; rw [c1, m3 z6, z5, hneg]
    unfold negB
    by_cases g : n < 0
    · rw [decide_eq_true g, if_pos rfl]; omega
    · rw [decide_eq_false g]; simp; omega
  · unfold scT; rw [c1, m2]
end Go.Proofs.YtmdpejllbalnnaaGreatDoor
