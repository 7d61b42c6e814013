/- Texts of the walks, merged. -/
import Derived.Test.YtmdpejllbalnnaaGreatDoorQ28
namespace Go.Proofs.YtmdpejllbalnnaaGreatDoor
set_option linter.unusedSimpArgs false
set_option linter.unusedVariables false
open Go.RowKit

theorem mem_sup {T : List UInt8} {m : Nat} {b : UInt8} (h : b ∈ sup T m) : b = 32 ∨ b ∈ T := by
  unfold sup at h
  rcases List.mem_append.1 h with h | h
  · exact Or.inl (List.eq_of_mem_replicate h)
  · exact Or.inr (List.mem_of_mem_drop h)
theorem mem_fl {T : List UInt8} {c b : UInt8} (h : b ∈ flL T c) : b = 32 ∨ b = c ∨ b ∈ T := by
  unfold flL at h
  split at h
  · rcases List.mem_append.1 h with h | h
    · rcases List.mem_append.1 h with h | h
      · exact Or.inl (List.eq_of_mem_replicate h)
      · exact Or.inr (Or.inl (by simpa using h))
    · exact Or.inr (Or.inr (List.mem_of_mem_drop h))
  · rcases List.mem_cons.1 h with h | h
    · exact Or.inl h
    · exact Or.inr (Or.inr h)
theorem fl_mem (T : List UInt8) (c : UInt8) (h : lb T < T.length) : c ∈ flL T c := by
  unfold flL
  rw [if_pos h]
  simp
theorem lb_mem {T : List UInt8} {b : UInt8} (h : b ∈ T) (hb : b ≠ 32) : b ∈ T.drop (lb T) := by
  rw [← List.take_append_drop (lb T) T, lb_take T _ (Nat.le_refl _)] at h
  rcases List.mem_append.1 h with h | h
  · exact absurd (List.eq_of_mem_replicate h) hb
  · exact h
theorem mem_fl' {T : List UInt8} (c : UInt8) {b : UInt8} (h : b ∈ T) (hb : b ≠ 32) : b ∈ flL T c := by
  unfold flL
  split
  · exact List.mem_append_right _ (lb_mem h hb)
  · exact List.mem_cons_of_mem _ h
theorem mem_st {T : List UInt8} {b : UInt8} (h : b ∈ stL T) : b = 42 ∨ b ∈ T := by
  unfold stL at h
  split at h
  · rcases List.mem_append.1 h with h | h
    · exact Or.inl (List.eq_of_mem_replicate h)
    · exact Or.inr (List.mem_of_mem_drop h)
  · exact Or.inr h
theorem mem_st' {T : List UInt8} {b : UInt8} (h : b ∈ T) (hb : b ≠ 32) : b ∈ stL T := by
  unfold stL
  split
  · exact List.mem_append_right _ (lb_mem h hb)
  · exact h
/-- What a number's text has: digits, blanks, commas, a point. -/
def plB (b : UInt8) : Bool := isDg b || b == 32 || b == 44 || b == 46
theorem plB_spT {D : List UInt8} (cmm : Bool) (W : Nat) (hd : ∀ i, i < D.length → isDg (dAt D i) = true) : ∀ q, q ≤ D.length → ∀ b ∈ spT D cmm W q, plB b = true
  | 0, _, b, h => by simp [spT] at h
  | q + 1, hq, b, h => by
    rw [spT] at h
    rcases List.mem_append.1 h with h | h
    · rcases List.mem_append.1 h with h | h
      · rcases List.mem_append.1 h with h | h
        · exact plB_spT cmm W hd q (by omega) b h
        · split at h
          · have : b = 46 := by simpa using h
            subst this; decide
          · simp at h
      · split at h
        · have : b = 44 := by simpa using h
          subst this; decide
        · simp at h
    · have : b = dAt D q := by simpa using h
      subst this
      unfold plB; rw [hd q (by omega)]; rfl
theorem plB_tx {D : List UInt8} (cmm : Bool) (W : Nat) (hd : ∀ i, i < D.length → isDg (dAt D i) = true) : ∀ b ∈ txL D cmm W, plB b = true := by
  intro b h
  rcases mem_sup h with h | h
  · subst h; decide
  · exact plB_spT cmm W hd _ (Nat.le_refl _) b h
theorem plB_body {D : List UInt8} (W : Nat) (c : UInt8) (hd : ∀ i, i < D.length → isDg (dAt D i) = true) : ∀ b ∈ bodyL D W c false false, plB b = true := by
  intro b h
  unfold bodyL at h
  rw [if_neg (by simp), if_neg (by simp)] at h
  rcases List.mem_append.1 h with h | h
  · exact plB_tx _ _ hd b h
  · rw [List.eq_of_mem_replicate h]; decide
theorem plB_fr {D : List UInt8} (W : Nat) (c : UInt8) (f : Int) (hd : ∀ i, i < D.length → isDg (dAt D i) = true) : ∀ b ∈ frL c false f (bodyL D W c false false), plB b = true ∨ b = 36 ∨ b = 42 := by
  intro b h
  unfold frL at h
  rw [if_neg (c := false = true) (by simp)] at h
  split at h
  · rcases List.mem_cons.1 h with h | h
    · subst h; exact Or.inl (by decide)
    · exact Or.inl (plB_body W c hd b h)
  · split at h
    · rcases mem_fl h with h | h | h
      · subst h; exact Or.inl (by decide)
      · exact Or.inr (Or.inl h)
      · exact Or.inl (plB_body W c hd b h)
    · split at h
      · rcases mem_st h with h | h
        · exact Or.inr (Or.inr h)
        · exact Or.inl (plB_body W c hd b h)
      · exact Or.inl (plB_body W c hd b h)
theorem spT_nb {D : List UInt8} (cmm : Bool) (W : Nat) (hd : ∀ i, i < D.length → isDg (dAt D i) = true) : ∀ q, q ≤ D.length → ∀ b ∈ spT D cmm W q, b ≠ 32
  | 0, _, b, h => by simp [spT] at h
  | q + 1, hq, b, h => by
    rw [spT] at h
    rcases List.mem_append.1 h with h | h
    · rcases List.mem_append.1 h with h | h
      · rcases List.mem_append.1 h with h | h
        · exact spT_nb cmm W hd q (by omega) b h
        · split at h
          · have : b = 46 := by simpa using h
            subst this; decide
          · simp at h
      · split at h
        · have : b = 44 := by simpa using h
          subst this; decide
        · simp at h
    · have : b = dAt D q := by simpa using h
      subst this
      intro e
      have := hd q (by omega)
      rw [e] at this
      revert this; decide
theorem fr_mark {D : List UInt8} (W : Nat) (c : UInt8) (f : Int) (hW : W ≤ D.length) (h0 : 0 < D.length) (hd : ∀ i, i < D.length → isDg (dAt D i) = true) (h : 4 ≤ ixA c) : ∃ m ∈ frL c true f (bodyL D W c true false), m = 45 ∨ m = 82 := by
  have hb : ∀ m, m ∈ bhL c → m ∈ bodyL D W c true false := fun m hm => by
    unfold bodyL
    rw [if_neg (by simp), if_pos rfl]
    exact List.mem_append_right _ hm
  unfold frL
  rw [if_pos (c := true = true) rfl]
  cases hl : ldB c
  · rw [if_neg (by simp)]
    have hl2 : ixA c < 12 := by unfold ldB at hl; simpa using hl
    obtain ⟨m, hm, h32, hor⟩ : ∃ m, m ∈ bhL c ∧ m ≠ 32 ∧ (m = 45 ∨ m = 82) := by
      unfold bhL
      by_cases g : ixA c < 8
      · rw [if_pos ⟨h, g⟩]; exact ⟨82, by simp, by decide, Or.inr rfl⟩
      · rw [if_neg (by omega), if_pos ⟨by omega, hl2⟩]; exact ⟨45, by simp, by decide, Or.inl rfl⟩
    refine ⟨m, ?_, hor⟩
    split
    · exact mem_fl' 36 (hb m hm) h32
    · split
      · exact mem_st' (hb m hm) h32
      · exact hb m hm
  · rw [if_pos rfl]
    refine ⟨45, fl_mem _ _ ?_, Or.inl rfl⟩
    have e : bhL c = [] := by
      have : 12 ≤ ixA c := by unfold ldB at hl; simpa using hl
      unfold bhL; rw [if_neg (by omega), if_neg (by omega)]
    unfold bodyL
    rw [if_neg (by simp), if_pos rfl, e, List.append_nil]
    exact tx_lb D _ W hW h0 (spT_nb _ W hd _ (Nat.le_refl _))
theorem edL_sign {D : List UInt8} (W : Nat) (c : UInt8) (f : Int) (hW : W ≤ D.length) (h0 : 0 < D.length) (hd : ∀ i, i < D.length → isDg (dAt D i) = true) (h : 4 ≤ ixA c) (h88 : c ≠ 88) (h89 : c ≠ 89) (h90 : c ≠ 90) :
    edL D W c false false f ≠ edL D W c true false f := by
  unfold edL
  rw [if_neg h88, if_neg h89, if_neg h90, if_neg h88, if_neg h89, if_neg h90]
  intro e
  obtain ⟨m, hm, hor⟩ := fr_mark (D := D) W c f hW h0 hd h
  rw [← e] at hm
  rcases plB_fr W c f hd m hm with h | h | h
  · rcases hor with e | e <;> subst e <;> revert h <;> decide
  · rcases hor with e | e <;> subst e <;> revert h <;> decide
  · rcases hor with e | e <;> subst e <;> revert h <;> decide
/-- A code that is none of those without a sign. -/
def sgnB (c : UInt8) : Bool := decide (c < 49 ∨ 52 < c) && decide (c < 88 ∨ 90 < c)
theorem sgn_ix (c : UInt8) : (0 ≤ ixA c ∨ c = 88 ∨ c = 89 ∨ c = 90) → sgnB c = true → 4 ≤ ixA c ∧ c ≠ 88 ∧ c ≠ 89 ∧ c ≠ 90 :=
  u8_all (P := fun c => (0 ≤ ixA c ∨ c = 88 ∨ c = 89 ∨ c = 90) → sgnB c = true → 4 ≤ ixA c ∧ c ≠ 88 ∧ c ≠ 89 ∧ c ≠ 90) (by decide +kernel) c
theorem BL_inj' {a b : List UInt8} (h : BL a = BL b) : a = b := by
  rw [← BL_list a, ← BL_list b, h]
/-- What is read from a value's text: the value, where its sign is there. -/
theorem un_back {k l s n f : Int} {c8 : UInt8} (h1 : ckC k l s c8 f = 0) (hfit : fitsB n l = true) (hg : n < 0 → sgnB c8 = true) :
    unV k l s (edX l s n c8 f) c8 f = n ∧ unE k l s (edX l s n c8 f) c8 f = 0 := by
  obtain ⟨t1, t2, hcd, f0, f1, hf, h89⟩ := ck_right h1
  obtain ⟨l0, l1, s0, s1, hk⟩ := num_right t1 t2
  obtain ⟨d1, d2⟩ := fits_len hfit l0 l1
  have hD := dsL_len l.toNat n.natAbs d1
  have h89' : c8 = 89 → (dsL l.toNat n.natAbs).length = 4 ∨ (dsL l.toNat n.natAbs).length = 6 ∨ (dsL l.toNat n.natAbs).length = 8 := by
    intro e
    have := (h89 e).1
    omega
  have hdn : dn 0 (edX l s n c8 f) = n.natAbs := by
    unfold edX
    rw [dn_edL _ _ _ _ _ (by intro h; rw [dn_ds]; simp at h; subst h; rfl) h89', dn_ds]
  have hdc : dc (edX l s n c8 f) ≤ l.toNat := by
    have h := dc_edL (dsL l.toNat n.natAbs) (l - s).toNat c8 (decide (n < 0)) (decide (n = 0)) f
    unfold edX
    omega
  have hu : unA l (edX l s n c8 f) = (n.natAbs : Int) := by
    unfold unA
    rw [amF_all _ _ hdc _ (Nat.le_refl _), List.take_of_length_le (Nat.le_refl _)]
    show ((dn 0 (edX l s n c8 f) : Nat) : Int) = _
    rw [hdn]
  unfold unV unE rbV rbE
  have hk0 : ¬ ckC k l s c8 f ≠ 0 := by omega
  rw [if_neg hk0, if_neg hk0, hu]
  by_cases hn : n < 0
  · have e2 : -(n.natAbs : Int) = n := by omega
    rw [e2]
    have hne : BL (edX l s (n.natAbs : Int) c8 f) ≠ BL (edX l s n c8 f) := by
      intro e
      have e := BL_inj' e
      obtain ⟨g4, g88, g89, g90⟩ := sgn_ix c8 hcd (hg hn)
      unfold edX at e
      rw [show ((n.natAbs : Nat) : Int).natAbs = n.natAbs by omega, decide_eq_false (show ¬ (n.natAbs : Int) < 0 by omega), decide_eq_false (show ¬ (n.natAbs : Int) = 0 by omega), decide_eq_true hn, decide_eq_false (show ¬ n = 0 by omega)] at e
      exact edL_sign _ c8 f (by omega) (by omega) (fun i hi => dsL_dg _ _ i hi) g4 g88 g89 g90 e
    rw [if_neg hne, if_neg hne]
    simp
  · have e1 : (n.natAbs : Int) = n := by omega
    rw [e1]
    simp
end Go.Proofs.YtmdpejllbalnnaaGreatDoor
