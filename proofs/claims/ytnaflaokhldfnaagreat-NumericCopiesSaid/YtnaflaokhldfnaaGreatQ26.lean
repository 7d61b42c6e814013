/- Texts of the walks, merged. -/
import Derived.Test.YtnaflaokhldfnaaGreatQ21
import Derived.Test.YtnaflaokhldfnaaGreatQ22
import Derived.Test.YtnaflaokhldfnaaGreatQ25
import Derived.Test.YtnaflaokhldfnaaGreatQ19
import Derived.Test.YtnaflaokhldfnaaGreatQ13
namespace Go.Proofs.YtnaflaokhldfnaaGreat
set_option linter.unusedSimpArgs false
set_option linter.unusedVariables false
open Go.RowKit

/-- What fits its type without error. -/
theorem cv_fits {n s k l sc : Int} {half : Bool} (h : cvE n s k l sc half = 0) : valErr k l sc (cvN n s k l sc half) ⟨#[]⟩ = 0 := by
  have he : cvErr n s k l sc = 0 := by
    by_cases e : cvErr n s k l sc = 0
    · exact e
    · unfold cvE at h; rw [if_pos e] at h; exact absurd h e
  obtain ⟨n0, n1, s0, s1, l0, l1, c0, c1, k0, k1⟩ := cvErr_ok he
  have ht : typeErr k l sc = 0 := by unfold cvErr at he; exact (first0_split (first0_split he).2).1
  have hf : fitsB (cvN n s k l sc half) l = true := by
    unfold cvE at h
    rw [if_neg (by simp [he])] at h
    unfold cvN
    rw [if_neg (by simp [he])]
    generalize cvZ n s sc half = Z at *
    unfold pE at h
    unfold pN fitsB
    have hm := most_bd l (by omega)
    split at h
    · exact absurd h (by decide)
    · rename_i g
      rw [if_neg g]
      refine decide_eq_true ?_
      split <;> omega
  unfold valErr
  rw [if_neg (by simp [ht]), if_neg (by omega), if_neg (by omega), if_neg (by decide), if_pos hf]
theorem cvN_z0 {n s k l sc : Int} {half : Bool} (h : cvE n s k l sc half ≠ 0) : cvN n s k l sc half = 0 := by
  unfold cvE cvN at *
  by_cases e : cvErr n s k l sc = 0
  · rw [if_neg (by simp [e])] at h ⊢
    unfold pE at h; unfold pN
    split at h
    · rename_i g; rw [if_pos g]
    · exact absurd rfl h
  · rw [if_pos e]
theorem first0_3 {a b c : Int} : first0 [a, b, c] = if a = 0 then (if b = 0 then (if c = 0 then 0 else c) else b) else a := rfl
theorem al_val {kx k : Int} (h0 : 0 ≤ kx ∧ kx < 5) (h1 : 0 ≤ k ∧ k < 5) : (alErr kx k = 0 ∧ ((kx = 0 ∧ k = 0) ∨ (kx ≠ 0 ∧ kx ≠ 4 ∧ k ≠ 0 ∧ k ≠ 4))) ∨ (alErr kx k = 17 ∧ (kx = 4 ∨ (kx ≠ 4 ∧ k = 4) ∨ (kx ≠ 4 ∧ k ≠ 4 ∧ kx = 0 ∧ k ≠ 0) ∨ (kx ≠ 4 ∧ k ≠ 4 ∧ kx ≠ 0 ∧ k = 0))) := by
  have a : kx = 0 ∨ kx = 1 ∨ kx = 2 ∨ kx = 3 ∨ kx = 4 := by omega
  have b : k = 0 ∨ k = 1 ∨ k = 2 ∨ k = 3 ∨ k = 4 := by omega
  rcases a with rfl | rfl | rfl | rfl | rfl <;> rcases b with rfl | rfl | rfl | rfl | rfl <;> decide
theorem typeErr_kind {k l s : Int} (h : typeErr k l s = 0) : 0 ≤ k ∧ k < 5 := by unfold typeErr at h; split at h <;> omega

section
variable (kx lx sx : Int) (xa : ByteArray) (k l sc : Int) (half : Bool)
def cpF : Int := first0 [typeErr kx lx sx, typeErr k l sc, alErr kx k]
def cpE : Int := if cpF kx lx sx k l sc ≠ 0 then cpF kx lx sx k l sc else if decErr kx lx sx xa ≠ 0 then decErr kx lx sx xa else if k = 0 then 0 else cvE (decN kx lx sx xa) sx k l sc half
def cpAt : Int := if cpF kx lx sx k l sc ≠ 0 then 0 else if decErr kx lx sx xa ≠ 0 then decAt kx lx sx xa else 0
def cpS : ByteArray := if cpE kx lx sx xa k l sc half ≠ 0 then ⟨#[]⟩ else if k = 0 then padB (decS kx lx sx xa) l.toNat else strB k l (cvN (decN kx lx sx xa) sx k l sc half) ⟨#[]⟩
end
section
variable {kx lx sx : Int} {xa : ByteArray} {k l sc : Int} {half : Bool}
theorem cp_bad {F : Int} (h : cpF kx lx sx k l sc = F) (h0 : F ≠ 0) : cpS kx lx sx xa k l sc half = ⟨#[]⟩ ∧ cpAt kx lx sx xa k l sc = 0 ∧ cpE kx lx sx xa k l sc half = F := by
  have h1 : cpF kx lx sx k l sc ≠ 0 := by rw [h]; exact h0
  have hE : cpE kx lx sx xa k l sc half = F := by unfold cpE; rw [if_pos h1, h]
  exact ⟨by unfold cpS; rw [hE, if_pos h0], by unfold cpAt; rw [if_pos h1], hE⟩
theorem cp_a (hF : cpF kx lx sx k l sc = 0) (e1 : decErr kx lx sx xa ≠ 0) : cpS kx lx sx xa k l sc half = ⟨#[]⟩ ∧ cpAt kx lx sx xa k l sc = decAt kx lx sx xa ∧ cpE kx lx sx xa k l sc half = decErr kx lx sx xa := by
  have hE : cpE kx lx sx xa k l sc half = decErr kx lx sx xa := by unfold cpE; rw [if_neg (by simp [hF]), if_pos e1]
  exact ⟨by unfold cpS; rw [hE, if_pos e1], by unfold cpAt; rw [if_neg (by simp [hF]), if_pos e1], hE⟩
theorem cp_b (hF : cpF kx lx sx k l sc = 0) (e1 : decErr kx lx sx xa = 0) (hk : k = 0) : cpS kx lx sx xa k l sc half = padB (decS kx lx sx xa) l.toNat ∧ cpAt kx lx sx xa k l sc = 0 ∧ cpE kx lx sx xa k l sc half = 0 := by
  have hE : cpE kx lx sx xa k l sc half = 0 := by unfold cpE; rw [if_neg (by simp [hF]), if_neg (by simp [e1]), if_pos hk]
  exact ⟨by unfold cpS; rw [hE, if_neg (by simp), if_pos hk], by unfold cpAt; rw [if_neg (by simp [hF]), if_neg (by simp [e1])], hE⟩
theorem cp_c (hF : cpF kx lx sx k l sc = 0) (e1 : decErr kx lx sx xa = 0) (hk : k ≠ 0) : cpAt kx lx sx xa k l sc = 0 ∧ cpE kx lx sx xa k l sc half = cvE (decN kx lx sx xa) sx k l sc half ∧
    (cvE (decN kx lx sx xa) sx k l sc half ≠ 0 → cpS kx lx sx xa k l sc half = ⟨#[]⟩) ∧ (cvE (decN kx lx sx xa) sx k l sc half = 0 → cpS kx lx sx xa k l sc half = strB k l (cvN (decN kx lx sx xa) sx k l sc half) ⟨#[]⟩) := by
  have hE : cpE kx lx sx xa k l sc half = cvE (decN kx lx sx xa) sx k l sc half := by unfold cpE; rw [if_neg (by simp [hF]), if_neg (by simp [e1]), if_neg hk]
  exact ⟨by unfold cpAt; rw [if_neg (by simp [hF]), if_neg (by simp [e1])], hE, fun h => by unfold cpS; rw [hE, if_pos h], fun h => by unfold cpS; rw [hE, if_neg (by simp [h]), if_neg hk]⟩
end
theorem decS_le (k l s : Int) (x : ByteArray) : (decS k l s x).size ≤ x.size := by
  unfold decS; split
  · exact Nat.le_refl _
  · exact Nat.zero_le _
theorem prog_cp (kx lx sx : Int) (xa : ByteArray) (k l sc : Int) (half : Bool) (hx : xa.size ≤ 700) (w : World) :
    Calls Tryz.prog 5 #[.agg #[.int .i64 kx, .int .i64 lx, .int .i64 sx, .string xa], .agg #[.int .i64 k, .int .i64 l, .int .i64 sc], .bool half] w fun e w' => e = .returned (.tuple #[.string (cpS kx lx sx xa k l sc half), .int .i64 (cpAt kx lx sx xa k l sc), .int .i64 (cpE kx lx sx xa k l sc half)]) ∧ Gr w w' := by
  refine Copied_core (cpF kx lx sx k l sc) kx lx sx xa k l sc half _ _ _ rfl ?_ w
  have dA := Decode_any kx lx sx xa
  by_cases hF : cpF kx lx sx k l sc = 0
  rotate_left
  · obtain ⟨b1, b2, b3⟩ := cp_bad (xa := xa) (half := half) rfl hF
    rw [b1, b2, b3]
    exact .inl ⟨by simp [hF], rfl, rfl, rfl⟩
  by_cases h1 : decErr kx lx sx xa = 0
  rotate_left
  · obtain ⟨b1, b2, b3⟩ := cp_a (half := half) hF h1
    rw [b1, b2, b3]
    exact .inr (.inl ⟨hF, ⟨_, _, dA⟩, by simp [h1], rfl⟩)
  rw [h1] at dA
  have ht : typeErr k l sc = 0 := by unfold cpF at hF; exact (first0_split (first0_split hF).2).1
  by_cases hk : k = 0
  · obtain ⟨b1, b2, b3⟩ := cp_b (half := half) hF h1 hk
    rw [b1, b2, b3]
    have hl := typeErr_len ht (by omega)
    have := decS_le kx lx sx xa
    exact .inr (.inr (.inl ⟨hF, rfl, rfl, by simp [hk], _, _, _, dA, fun w => cutOrFilled_any _ l.toNat l (by omega) (by omega) (by unfold maxLen; omega) w⟩))
  · obtain ⟨b2, b3, b4, b5⟩ := cp_c (half := half) hF h1 hk
    have hC := Converted_any (decN kx lx sx xa) sx k l sc half
    by_cases h3 : cvE (decN kx lx sx xa) sx k l sc half = 0
    · rw [b5 h3, b2, b3]
      obtain ⟨g1, g2, g3, g4, g5, g6⟩ := valErr_ok (cv_fits h3)
      rw [h3] at hC ⊢
      exact .inr (.inr (.inr ⟨hF, rfl, by simp [hk], _, _, _, _, dA, hC, fun w => written_ok k l sc _ _ _ (bytesOf_any k l sc _ _ g3 g4 g5 g6) w⟩))
    · rw [b4 h3, b2, b3]
      exact .inr (.inr (.inr ⟨hF, rfl, by simp [hk], _, _, _, _, dA, hC, fun w => written_bad k l sc _ _ _ (by simp [h3]) w⟩))

theorem ref_cp (kx lx sx : Int) (xa : ByteArray) (k l sc : Int) (half : Bool) (hx : xa.size ≤ 700) (w : World) :
    Calls Tryz.prog 6 #[.agg #[.int .i64 kx, .int .i64 lx, .int .i64 sx, .string xa], .agg #[.int .i64 k, .int .i64 l, .int .i64 sc], .bool half] w fun e w' => e = .returned (.agg #[.string (cpS kx lx sx xa k l sc half), .int .i64 (cpAt kx lx sx xa k l sc), .int .i64 (cpE kx lx sx xa k l sc half)]) ∧ Gr w w' := by
  have bad : ∀ F, cpF kx lx sx k l sc = F → F ≠ 0 → cpS kx lx sx xa k l sc half = ⟨#[]⟩ ∧ cpAt kx lx sx xa k l sc = 0 ∧ cpE kx lx sx xa k l sc half = F := fun F h h0 => cp_bad h h0
  have t1 := TypeErr_any kx lx sx
  have t2 := TypeErr_any k l sc
  by_cases h1 : typeErr kx lx sx = 0
  rotate_left
  · obtain ⟨b1, b2, b3⟩ := bad _ (by unfold cpF; rw [first0_3, if_neg h1]) h1
    rw [b1, b2, b3]
    exact refCp_0 kx lx sx k l sc _ half xa t1 (by simp [h1]) w
  rw [h1] at t1
  by_cases h2 : typeErr k l sc = 0
  rotate_left
  · obtain ⟨b1, b2, b3⟩ := bad _ (by unfold cpF; rw [first0_3, if_pos h1, if_neg h2]) h2
    rw [b1, b2, b3]
    exact refCp_1 kx lx sx k l sc _ half xa t1 t2 (by simp [h2]) w
  rw [h2] at t2
  rcases al_val (typeErr_kind h1) (typeErr_kind h2) with ⟨hal, hk⟩ | ⟨hal, hk⟩
  rotate_left
  · obtain ⟨b1, b2, b3⟩ := bad 17 (by unfold cpF; rw [first0_3, if_pos h1, if_pos h2, hal]; rfl) (by decide)
    rw [b1, b2, b3]
    rcases hk with h | ⟨h, h'⟩ | ⟨h, h', h3, h4⟩ | ⟨h, h', h3, h4⟩
    · exact refCp_2a kx lx sx k l sc half xa t1 t2 (by simp [h]) w
    · exact refCp_2b kx lx sx k l sc half xa t1 t2 (by simp [h]) (by simp [h']) w
    · exact refCp_2c kx lx sx k l sc half xa t1 t2 (by simp [h]) (by simp [h']) (by simp [h3]) (by simp [h4]) w
    · exact refCp_2d kx lx sx k l sc half xa t1 t2 (by simp [h]) (by simp [h']) (by simp [h3]) (by simp [h4]) w
  have hF : cpF kx lx sx k l sc = 0 := by unfold cpF; rw [first0_3, if_pos h1, if_pos h2, hal]; rfl
  have dA := refDecode_any kx lx sx xa hx
  by_cases e1 : decErr kx lx sx xa = 0
  rotate_left
  · obtain ⟨b1, b2, b3⟩ := cp_a (half := half) hF e1
    rw [b1, b2, b3]
    rcases hk with ⟨h, h'⟩ | ⟨h, h3, h', h4⟩
    · exact refCp_3a kx lx sx k l sc _ _ _ half xa _ t1 t2 (by simp [h]) (by simp [h']) (by simp [h]) (by simp [h']) dA (by simp [e1]) w
    · exact refCp_3b kx lx sx k l sc _ _ _ half xa _ t1 t2 (by simp [h3]) (by simp [h4]) (by simp [h]) (by simp [h']) dA (by simp [e1]) w
  rw [e1] at dA
  rcases hk with ⟨h, h'⟩ | ⟨h, h3, h', h4⟩
  · obtain ⟨b1, b2, b3⟩ := cp_b (half := half) hF e1 h'
    rw [b1, b2, b3]
    have hl := typeErr_len h2 (by omega)
    have := decS_le kx lx sx xa
    exact refCp_4 kx lx sx k l sc _ _ half xa _ _ t1 t2 (by simp [h]) (by simp [h']) (by simp [h]) (by simp [h']) dA (Padded_any _ l.toNat l (by omega) (by omega) (by unfold maxLen; omega)) w
  · obtain ⟨b2, b3, b4, b5⟩ := cp_c (half := half) hF e1 h'
    have hC := refConverted_any (decN kx lx sx xa) sx k l sc half
    by_cases e3 : cvE (decN kx lx sx xa) sx k l sc half = 0
    · rw [b5 e3, b2, b3, e3]
      rw [e3] at hC
      exact refCp_6 kx lx sx k l sc _ _ _ half xa _ _ t1 t2 (by simp [h3]) (by simp [h4]) (by simp [h]) (by simp [h']) dA hC (Bytes_any k l sc _ ⟨#[]⟩ (cv_fits e3)) w
    · rw [b4 e3, b2, b3]
      exact refCp_5 kx lx sx k l sc _ _ _ _ half xa _ t1 t2 (by simp [h3]) (by simp [h4]) (by simp [h]) (by simp [h']) dA hC (by simp [e3]) w
end Go.Proofs.YtnaflaokhldfnaaGreat
