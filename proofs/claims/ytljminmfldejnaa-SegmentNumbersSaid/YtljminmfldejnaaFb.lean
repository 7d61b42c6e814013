/- The first index at which a test holds; small plain facts. -/
import Derived.Test.YtljminmfldejnaaG3
namespace Go.Proofs.Ytljminmfldejnaa
set_option linter.unusedSimpArgs false
set_option linter.unusedVariables false
open Go.RowKit

/-- The first index from i on, of m, at which f holds; else the end. -/
def fB (f : Nat → Bool) : Nat → Nat → Nat
  | 0, i => i
  | m + 1, i => if f i then i else fB f m (i + 1)
theorem fB_yes {f : Nat → Bool} {m i : Nat} (hm : 0 < m) (h : f i = true) : fB f m i = i := by
  obtain ⟨k, rfl⟩ : ∃ k, m = k + 1 := ⟨m - 1, by omega⟩
  simp [fB, h]
theorem fB_no {f : Nat → Bool} {n q : Nat} (hq : q < n) (h : f q = false) : fB f (n - q) q = fB f (n - (q + 1)) (q + 1) := by
  obtain ⟨k, hk⟩ : ∃ k, n - q = k + 1 := ⟨n - q - 1, by omega⟩
  rw [hk, show n - (q + 1) = k by omega]
  simp [fB, h]
theorem fB_le (f : Nat → Bool) : ∀ m i, i ≤ fB f m i ∧ fB f m i ≤ i + m
  | 0, i => by simp [fB]
  | m + 1, i => by
    have := fB_le f m (i + 1)
    simp only [fB]; split <;> omega
theorem fB_bad (f : Nat → Bool) : ∀ m i, fB f m i < i + m → f (fB f m i) = true
  | 0, i => by simp [fB]
  | m + 1, i => by
    intro h
    by_cases e : f i = true
    · rw [fB, if_pos e]; exact e
    · rw [fB, if_neg e] at h ⊢
      exact fB_bad f m (i + 1) (by omega)
theorem fB_all (f : Nat → Bool) : ∀ m i, fB f m i = i + m → ∀ k, i ≤ k → k < i + m → f k = false
  | 0, i => by intro _ k h1 h2; omega
  | m + 1, i => by
    intro h k h1 h2
    by_cases e : f i = true
    · rw [fB, if_pos e] at h; omega
    · rw [fB, if_neg e] at h
      rcases Nat.eq_or_lt_of_le h1 with rfl | h3
      · simpa using e
      · exact fB_all f m (i + 1) (by omega) k (by omega) (by omega)

theorem wf64 {a : Int} (h : (Lit.int .i64 a).wf = true) : -9223372036854775808 ≤ a ∧ a ≤ 9223372036854775807 := by
  simp only [Lit.wf, Bool.and_eq_true, decide_eq_true_eq] at h
  have h1 := h.1
  have h2 := h.2
  simp [IntKind.min, IntKind.max, IntKind.signed, IntKind.bits] at h1 h2
  omega
def wiB (n a b : Int) : Bool := decide (a ≤ n) && decide (n ≤ b)
theorem wiB_yes {n a b : Int} (h1 : a ≤ n) (h2 : n ≤ b) : wiB n a b = true := by simp [wiB, h1, h2]
theorem wiB_no {n a b : Int} (h : n < a ∨ b < n) : wiB n a b = false := by
  unfold wiB
  rcases h with h | h
  · rw [decide_eq_false (by omega)]; rfl
  · rw [decide_eq_false (p := n ≤ b) (by omega)]; simp
theorem wiB_iff {n a b : Int} : wiB n a b = true ↔ a ≤ n ∧ n ≤ b := by simp [wiB]
end Go.Proofs.Ytljminmfldejnaa
