/- Plain facts: rounding keeps the order; zoned bytes have the order of their numbers. -/
import Derived.Test.YtnjkoogghhckmaaSr
import Derived.Test.YtnjkoogghhckmaaC
namespace Go.Proofs.Ytnjkoogghhckmaa
set_option linter.unusedSimpArgs false
set_option linter.unusedVariables false
open Go.RowKit

theorem rq_mono {X Y d : Nat} (half : Bool) (hd : 0 < d) (h : X ≤ Y) : rq X d half ≤ rq Y d half := by
  unfold rq
  have hq : X / d ≤ Y / d := Nat.div_le_div_right h
  have hX := Nat.div_add_mod X d
  have hY := Nat.div_add_mod Y d
  rcases Nat.lt_or_ge (X / d) (Y / d) with k | k
  · repeat' split
    all_goals omega
  · have e : X / d = Y / d := by omega
    rw [e] at hX
    have hm : X % d ≤ Y % d := by omega
    rw [e]
    by_cases h1 : half = true ∧ d ≤ 2 * (X % d)
    · rw [if_pos h1, if_pos ⟨h1.1, by omega⟩]; omega
    · rw [if_neg h1]; omega
/-- The amount over the power of the common scale. -/
theorem cvZ_common (n s sc S : Int) (half : Bool) (hs : 0 ≤ s) (hsS : s ≤ S) (hsc : 0 ≤ sc) : cvZ n s sc half = rq (n.natAbs * 10 ^ (S - s).toNat * 10 ^ sc.toNat) (10 ^ S.toNat) half := by
  unfold cvZ
  rw [← rq_scale (c := 10 ^ (S - (s - sc).toNat).toNat) half (Nat.pow_pos (by omega))]
  congr 1
  · rw [Nat.mul_assoc, Nat.mul_assoc, ← Nat.pow_add, ← Nat.pow_add]
    congr 2; omega
  · rw [Nat.one_mul, ← Nat.pow_add]
    congr 1; omega

/-- Rounded numbers, with their signs. -/
def rdI (b : Bool) (Z : Nat) : Int := if b then -(Z : Int) else Z
theorem pN_ok {b : Bool} {Z : Nat} {l : Int} (h : pE Z l = 0) : pN b Z l = rdI b Z := by
  unfold pE at h; unfold pN rdI; split at h
  · omega
  · next k => rw [if_neg k]
theorem rd_mono {n s m r sc : Int} (half : Bool) (hs : 0 ≤ s) (hr : 0 ≤ r) (hsc : 0 ≤ sc) :
    (upI n s (max s r) < upI m r (max s r) → rdI (decide (n < 0)) (cvZ n s sc half) ≤ rdI (decide (m < 0)) (cvZ m r sc half)) ∧
    (upI n s (max s r) = upI m r (max s r) → rdI (decide (n < 0)) (cvZ n s sc half) = rdI (decide (m < 0)) (cvZ m r sc half)) := by
  rw [cvZ_common n s sc (max s r) half hs (by omega) hsc, cvZ_common m r sc (max s r) half hr (by omega) hsc]
  unfold upI
  generalize (max s r - s).toNat = d
  generalize (max s r - r).toNat = e
  have a := abs_up n d
  have b := abs_up m e
  have hd : 0 < 10 ^ (max s r).toNat := Nat.pow_pos (by omega)
  have hn : n < 0 → 1 ≤ n.natAbs * 10 ^ d := fun h => Nat.mul_pos (by omega) (Nat.pow_pos (by omega))
  have hm : m < 0 → 1 ≤ m.natAbs * 10 ^ e := fun h => Nat.mul_pos (by omega) (Nat.pow_pos (by omega))
  have M := fun X Y (h : X ≤ Y) => rq_mono (X := X * 10 ^ sc.toNat) (Y := Y * 10 ^ sc.toNat) half hd (Nat.mul_le_mul_right _ h)
  generalize n.natAbs * 10 ^ d = A at *
  generalize m.natAbs * 10 ^ e = B at *
  generalize n * 10 ^ d = x at *
  generalize m * 10 ^ e = y at *
  have M1 := M A B
  have M2 := M B A
  clear M
  generalize rq (A * 10 ^ sc.toNat) (10 ^ (max s r).toNat) half = P at *
  generalize rq (B * 10 ^ sc.toNat) (10 ^ (max s r).toNat) half = Q at *
  unfold rdI
  by_cases h1 : n < 0
  · have hn := hn h1
    rw [if_pos h1] at a
    rw [decide_eq_true h1, if_pos rfl]
    by_cases h2 : m < 0
    · have hm := hm h2
      rw [if_pos h2] at b
      rw [decide_eq_true h2, if_pos rfl]
      refine ⟨fun h => ?_, fun h => ?_⟩
      · have := M2 (by omega); omega
      · have k1 := M2 (by omega); have k2 := M1 (by omega); omega
    · rw [if_neg h2] at b
      rw [decide_eq_false h2, if_neg (by simp)]
      refine ⟨fun h => by omega, fun h => by omega⟩
  · rw [if_neg h1] at a
    rw [decide_eq_false h1, if_neg (by simp)]
    by_cases h2 : m < 0
    · have hm := hm h2
      rw [if_pos h2] at b
      rw [decide_eq_true h2, if_pos rfl]
      refine ⟨fun h => by omega, fun h => by omega⟩
    · rw [if_neg h2] at b
      rw [decide_eq_false h2, if_neg (by simp)]
      refine ⟨fun h => ?_, fun h => ?_⟩
      · have := M1 (by omega); omega
      · have k1 := M2 (by omega); have k2 := M1 (by omega); omega

/-! ### zoned bytes -/
def zl (n : Int) (L : Nat) : List UInt8 := (fl L (fun j => 240 + dig n (L - 1 - j))).map fun x => UInt8.ofNat x.toNat
theorem zl_succ (n : Int) (L : Nat) : zl n (L + 1) = UInt8.ofNat (240 + dig n L).toNat :: zl n L := by
  unfold zl fl
  rw [List.range_succ_eq_map]
  simp only [List.map_cons, List.map_map, Nat.add_sub_cancel, Nat.sub_zero]
  congr 1
  apply List.map_congr_left
  intro j hj
  simp only [Function.comp]
  rw [show L - (j + 1) = L - 1 - j by omega]
theorem dig_mod (n : Int) (L i : Nat) (h : i < L) : dig (n % 10 ^ L) i = dig n i := by
  unfold dig
  obtain ⟨k, rfl⟩ := Nat.exists_eq_add_of_lt h
  have e : (10 : Int) ^ (i + k + 1) = 10 ^ i * (10 * 10 ^ k) := by rw [show i + k + 1 = i + (1 + k) by omega, Int.pow_add, Int.pow_add]; simp
  rw [e]
  have p := ten_pos i
  have q := Int.mul_ediv_add_emod n (10 ^ i * (10 * 10 ^ k))
  generalize n / (10 ^ i * (10 * 10 ^ k)) = u at q
  generalize n % (10 ^ i * (10 * 10 ^ k)) = r at q ⊢
  rw [← q, Int.mul_assoc, Int.add_comm, Int.add_mul_ediv_left _ _ (by omega), show 10 * 10 ^ k * u = 10 * (10 ^ k * u) by rw [Int.mul_assoc], Int.add_mul_emod_self_left]

theorem zl_mod (n : Int) (L : Nat) : zl (n % 10 ^ L) L = zl n L := by
  unfold zl
  congr 1
  apply fl_congr
  intro i hi
  rw [dig_mod n L _ (by omega)]
theorem u8_lt {a b : Int} (ha : 0 ≤ a) (ha' : a ≤ 255) (hb : 0 ≤ b) (hb' : b ≤ 255) : (UInt8.ofNat a.toNat < UInt8.ofNat b.toNat) ↔ a < b := by
  rw [UInt8.lt_iff_toNat_lt, UInt8.toNat_ofNat', UInt8.toNat_ofNat']; omega
theorem u8_eq {a b : Int} (ha : 0 ≤ a) (ha' : a ≤ 255) (hb : 0 ≤ b) (hb' : b ≤ 255) : (UInt8.ofNat a.toNat == UInt8.ofNat b.toNat) = decide (a = b) := by
  by_cases h : a = b
  · simp [h]
  · rw [decide_eq_false h, beq_eq_false_iff_ne]
    intro k
    have := congrArg UInt8.toNat k
    rw [UInt8.toNat_ofNat', UInt8.toNat_ofNat'] at this
    omega
theorem zl_less : ∀ (L : Nat) (x y : Int), 0 ≤ x → x < 10 ^ L → 0 ≤ y → y < 10 ^ L → Op.bytesLess (zl x L) (zl y L) = decide (x < y)
  | 0, x, y, h1, h2, h3, h4 => by
    have : x = 0 := by simp at h2; omega
    have : y = 0 := by simp at h4; omega
    subst x y
    rfl
  | L + 1, x, y, h1, h2, h3, h4 => by
    rw [zl_succ, zl_succ]
    have p := ten_pos L
    have hx := Int.mul_ediv_add_emod x (10 ^ L)
    have hy := Int.mul_ediv_add_emod y (10 ^ L)
    have rx := Int.emod_nonneg x (show (10 : Int) ^ L ≠ 0 by omega)
    have ry := Int.emod_nonneg y (show (10 : Int) ^ L ≠ 0 by omega)
    have sx := Int.emod_lt_of_pos x p
    have sy := Int.emod_lt_of_pos y p
    have ih := zl_less L (x % 10 ^ L) (y % 10 ^ L) rx sx ry sy
    rw [zl_mod, zl_mod] at ih
    have bx := dig_bd x L
    have by_ := dig_bd y L
    have dx : dig x L = x / 10 ^ L := by
      unfold dig
      have h0 : 0 ≤ x / 10 ^ L := Int.ediv_nonneg h1 (by omega)
      have h9 : x / 10 ^ L < 10 := by rw [Int.ediv_lt_iff_lt_mul p]; rw [Int.pow_succ] at h2; omega
      omega
    have dy : dig y L = y / 10 ^ L := by
      unfold dig
      have h0 : 0 ≤ y / 10 ^ L := Int.ediv_nonneg h3 (by omega)
      have h9 : y / 10 ^ L < 10 := by rw [Int.ediv_lt_iff_lt_mul p]; rw [Int.pow_succ] at h4; omega
      omega
    rw [dx] at bx ⊢
    rw [dy] at by_ ⊢
    unfold Op.bytesLess
    rw [ih, u8_eq (by omega) (by omega) (by omega) (by omega)]
    have hlt := u8_lt (a := 240 + x / 10 ^ L) (b := 240 + y / 10 ^ L) (by omega) (by omega) (by omega) (by omega)
    generalize x / 10 ^ L = u at *
    generalize y / 10 ^ L = v at *
    generalize (10 : Int) ^ L = P at *
    generalize x % P = r at *
    generalize y % P = t at *
    subst hx hy
    by_cases c : u < v
    · have e : P * (u + 1) ≤ P * v := Int.mul_le_mul_of_nonneg_left (by omega) (by omega)
      rw [Int.mul_add] at e
      rw [decide_eq_true (hlt.2 (by omega)), decide_eq_true (show P * u + r < P * v + t by omega)]; rfl
    · by_cases d : u = v
      · subst d
        rw [decide_eq_false (fun k => by have := hlt.1 k; omega)]
        simp
      · have e : P * (v + 1) ≤ P * u := Int.mul_le_mul_of_nonneg_left (by omega) (by omega)
        rw [Int.mul_add] at e
        rw [decide_eq_false (fun k => by have := hlt.1 k; omega), decide_eq_false (show ¬ 240 + u = 240 + v by omega), decide_eq_false (show ¬ P * u + r < P * v + t by omega)]; rfl

/-- The zoned bytes of numbers not below 0 are in the numbers' order. -/
theorem zn_list (n : Int) (L : Nat) (h : 0 ≤ n) : (strOfNums (znB n L)).toList = zl n L := by
  rw [ByteArray.toList_eq, strOfNums_data]
  unfold zl znB
  congr 1
  apply fl_congr
  intro i hi
  have e : absI n = n := by unfold absI; rw [if_neg (by omega)]
  have sg : signI n = 15 := by unfold signI; rw [if_neg (by omega)]
  rw [e, sg]
  split
  · next k => subst k; rw [show L - 1 - (L - 1) = 0 by omega]; omega
  · rfl
end Go.Proofs.Ytnjkoogghhckmaa
