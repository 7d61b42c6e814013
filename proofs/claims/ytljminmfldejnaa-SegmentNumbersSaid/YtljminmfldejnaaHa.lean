/- Stores of segments as data. -/
import Derived.Test.YtljminmfldejnaaFb
namespace Go.Proofs.Ytljminmfldejnaa
set_option linter.unusedSimpArgs false
set_option linter.unusedVariables false
open Go.RowKit

/-- The number, and the bytes, of the segment with an index. -/
def nuG (gs : List (Int × ByteArray)) (i : Nat) : Int := (gs.getD i (0, ⟨#[]⟩)).1
def byG (gs : List (Int × ByteArray)) (i : Nat) : ByteArray := (gs.getD i (0, ⟨#[]⟩)).2
/-- The cells of segments. -/
def sg : List (Int × ByteArray) → List Value
  | [] => []
  | g :: gs => .int .i64 g.1 :: .string g.2 :: sg gs
theorem sg_len : ∀ gs : List (Int × ByteArray), (sg gs).length = gs.length * 2
  | [] => rfl
  | g :: gs => by simp only [sg, List.length_cons, sg_len gs]; omega
theorem sg_cells : ∀ (gs : List (Int × ByteArray)) (i : Nat), i < gs.length → (sg gs)[i * 2]? = some (.int .i64 (nuG gs i)) ∧ (sg gs)[i * 2 + 1]? = some (.string (byG gs i))
  | [], i, h => absurd h (by simp)
  | g :: gs, 0, _ => by simp [sg, nuG, byG]
  | g :: gs, i + 1, h => by
    have := sg_cells gs i (by simpa using h)
    rw [show (i + 1) * 2 = i * 2 + 1 + 1 by omega]
    simp only [sg, nuG, byG, List.getElem?_cons_succ, List.getD_cons_succ]
    exact this
theorem sg_app : ∀ (gs bs : List (Int × ByteArray)), sg (gs ++ bs) = sg gs ++ sg bs
  | [], _ => rfl
  | g :: gs, bs => by simp only [List.cons_append, sg, sg_app gs bs]
theorem sg_one : ∀ gs : List (Int × ByteArray), ∀ u ∈ sg gs, u.oneCell' = true
  | [], u, h => by cases h
  | g :: gs, u, h => by
    simp only [sg, List.mem_cons] at h
    rcases h with rfl | rfl | h
    · rfl
    · rfl
    · exact sg_one gs u h
theorem sg_take : ∀ (gs : List (Int × ByteArray)) (i : Nat), (sg gs).take (i * 2) = sg (gs.take i)
  | [], i => by simp [sg]
  | g :: gs, 0 => by simp [sg]
  | g :: gs, i + 1 => by
    rw [show (i + 1) * 2 = i * 2 + 1 + 1 by omega]
    simp only [sg, List.take_succ_cons, sg_take gs i]
theorem sg_drop : ∀ (gs : List (Int × ByteArray)) (i : Nat), (sg gs).drop (i * 2) = sg (gs.drop i)
  | [], i => by simp [sg]
  | g :: gs, 0 => by simp [sg]
  | g :: gs, i + 1 => by
    rw [show (i + 1) * 2 = i * 2 + 1 + 1 by omega]
    simp only [sg, List.drop_succ_cons, sg_drop gs i]
theorem sg_set : ∀ (gs : List (Int × ByteArray)) (i : Nat) (b : ByteArray), i < gs.length → (sg gs).set (i * 2 + 1) (.string b) = sg (gs.set i (nuG gs i, b))
  | [], i, b, h => absurd h (by simp)
  | g :: gs, 0, b, _ => by simp [sg, nuG]
  | g :: gs, i + 1, b, h => by
    have := sg_set gs i b (by simpa using h)
    rw [show (i + 1) * 2 + 1 = (i * 2 + 1) + 1 + 1 by omega]
    simp only [sg, List.set_cons_succ, this, nuG, List.getD_cons_succ]

section
variable {w : World} {A : Option Addr} {n c : Nat} {xs : List Value}
/-- The first elements, and those from an index on, of a slice of elements of two cells. -/
theorem Sv.take2 (h : Sv w A n c 2 xs) {k : Nat} (hk : k ≤ n) : Sv w A k c 2 (xs.take (k * 2)) := by
  refine ⟨by rw [List.length_take, h.1]; omega, by have := h.2.1; omega, h.2.2.1, fun e => by have := h.2.2.2.1 e; omega, fun hp => ?_⟩
  obtain ⟨b, o, e, hb, hc⟩ := h.2.2.2.2 (by omega)
  exact ⟨b, o, e, hb, fun j hj => by rw [hc j (by omega), List.getElem?_take_of_lt (by omega)]⟩
theorem Sv.drop2 {b o : Nat} (h : Sv w (some ⟨b, o, none⟩) n c 2 xs) {k : Nat} (hk : k ≤ n) : Sv w (some ⟨b, o + k * 2, none⟩) (n - k) (c - k) 2 (xs.drop (k * 2)) := by
  refine ⟨by rw [List.length_drop, h.1]; omega, by have := h.2.1; omega, by have := h.2.2.1; omega, (fun e => by cases e), fun hp => ?_⟩
  obtain ⟨b', o', e, hb, hc⟩ := h.2.2.2.2 (by omega)
  simp only [Option.some.injEq, Addr.mk.injEq, and_true] at e
  obtain ⟨rfl, rfl⟩ := e
  exact ⟨b, _, rfl, hb, fun j hj => by rw [Nat.add_assoc, hc _ (by omega), List.getElem?_drop]⟩
end
/-- The cells of the segment with an index. -/
theorem Sv.seg {w : World} {b o n c : Nat} {gs : List (Int × ByteArray)} (h : Sv w (some ⟨b, o, none⟩) n c 2 (sg gs)) {i : Nat} (hi : i < n) : w.cell? ⟨b, o + i * 2, none⟩ = some (.int .i64 (nuG gs i)) ∧ w.cell? ⟨b, o + i * 2 + 1, none⟩ = some (.string (byG gs i)) := by
  have hl := h.1
  rw [sg_len] at hl
  obtain ⟨b', o', e, hb, hc⟩ := h.2.2.2.2 (by omega)
  simp only [Option.some.injEq, Addr.mk.injEq, and_true] at e
  obtain ⟨rfl, rfl⟩ := e
  have := sg_cells gs i (by omega)
  exact ⟨by rw [hc _ (by omega), this.1], by rw [Nat.add_assoc, hc _ (by omega), this.2]⟩
theorem Sv.segs {w : World} {A : Option Addr} {n c : Nat} {gs : List (Int × ByteArray)} (h : Sv w A n c 2 (sg gs)) : gs.length = n := by
  have hl := h.1
  rw [sg_len] at hl
  omega
end Go.Proofs.Ytljminmfldejnaa
