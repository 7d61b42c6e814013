/- Texts of the walks, merged. -/
import Derived.Test.YtnaflaokhldfnaaQ42
import Derived.Test.YtnaflaokhldfnaaQ43
import Derived.Test.YtnaflaokhldfnaaQ29
import Derived.Test.YtnaflaokhldfnaaQ45
import Derived.Test.YtnaflaokhldfnaaQ30
namespace Go.Proofs.Ytnaflaokhldfnaa
set_option linter.unusedSimpArgs false
set_option linter.unusedVariables false
open Go.RowKit

section
variable (op ka la sa : Int) (xa : ByteArray) (kb lb sb : Int) (xb : ByteArray) (k l sc : Int) (half : Bool)
def cbF : Int := first0 [pick (decide (op < 0 ∨ 5 ≤ op)) 4, typeErr ka la sa, typeErr kb lb sb, typeErr k l sc, pick (!(isNum ka && (isNum kb && isNum k))) 17]
def cbE : Int := if cbF op ka la sa kb lb sb k l sc ≠ 0 then cbF op ka la sa kb lb sb k l sc else if decErr ka la sa xa ≠ 0 then decErr ka la sa xa else if decErr kb lb sb xb ≠ 0 then decErr kb lb sb xb else caE op (decN ka la sa xa) sa (decN kb lb sb xb) sb k l sc half
def cbAt : Int := if cbF op ka la sa kb lb sb k l sc ≠ 0 then 0 else if decErr ka la sa xa ≠ 0 then decAt ka la sa xa else if decErr kb lb sb xb ≠ 0 then decAt kb lb sb xb else 0
def cbS : ByteArray := if cbE op ka la sa xa kb lb sb xb k l sc half ≠ 0 then ⟨#[]⟩ else strB k l (caN op (decN ka la sa xa) sa (decN kb lb sb xb) sb k l sc half) ⟨#[]⟩
end
theorem caN_z {op n s m t k l sc : Int} {half : Bool} (h : caE op n s m t k l sc half ≠ 0) : caN op n s m t k l sc half = 0 := by
  unfold caE caN at *
  by_cases e : caErr op n s m t k l sc = 0
  · rw [if_neg (by simp [e])] at h ⊢
    unfold pE at h; unfold pN
    split at h
    · rename_i g; rw [if_pos g]
    · exact absurd rfl h
  · rw [if_pos e]
/-- A result without error fits its type. -/
theorem ca_fits {op n s m t k l sc : Int} {half : Bool} (h : caE op n s m t k l sc half = 0) : valErr k l sc (caN op n s m t k l sc half) ⟨#[]⟩ = 0 := by
  have he : caErr op n s m t k l sc = 0 := by
    by_cases e : caErr op n s m t k l sc = 0
    · exact e
    · unfold caE at h; rw [if_pos e] at h; exact absurd h e
  obtain ⟨-, hcv, -, -⟩ := caErr_ok he
  obtain ⟨n0, n1, s0, s1, l0, l1, c0, c1, k0, k1⟩ := cvErr_ok hcv
  have ht : typeErr k l sc = 0 := by unfold cvErr at hcv; exact (first0_split (first0_split hcv).2).1
  have hf : fitsB (caN op n s m t k l sc half) l = true := by
    unfold caE at h
    rw [if_neg (by simp [he])] at h
    unfold caN
    rw [if_neg (by simp [he])]
    generalize caZ op n s m t sc half = Z at *
    unfold pE at h
    unfold pN fitsB
    have hm := most_bd l (by omega)
    split at h
    · exact absurd h (by decide)
    · rename_i g
      rw [if_neg g]
      refine decide_eq_true ?_
      split <;> omega
  unfold valErr
  rw [if_neg (by simp [ht]), if_neg (by omega), if_neg (by omega), if_neg (by decide), if_pos hf]

theorem first0_5 {a b c d e : Int} : first0 [a, b, c, d, e] = if a = 0 then (if b = 0 then (if c = 0 then (if d = 0 then (if e = 0 then 0 else e) else d) else c) else b) else a := rfl

section
variable {op ka la sa : Int} {xa : ByteArray} {kb lb sb : Int} {xb : ByteArray} {k l sc : Int} {half : Bool}
theorem cb_bad {F : Int} (h : cbF op ka la sa kb lb sb k l sc = F) (h0 : F ≠ 0) : cbS op ka la sa xa kb lb sb xb k l sc half = ⟨#[]⟩ ∧ cbAt op ka la sa xa kb lb sb xb k l sc = 0 ∧ cbE op ka la sa xa kb lb sb xb k l sc half = F := by
  have h1 : cbF op ka la sa kb lb sb k l sc ≠ 0 := by rw [h]; exact h0
  have hE : cbE op ka la sa xa kb lb sb xb k l sc half = F := by unfold cbE; rw [if_pos h1, h]
  exact ⟨by unfold cbS; rw [hE, if_pos h0], by unfold cbAt; rw [if_pos h1], hE⟩
theorem cb_a (hF : cbF op ka la sa kb lb sb k l sc = 0) (e1 : decErr ka la sa xa ≠ 0) : cbS op ka la sa xa kb lb sb xb k l sc half = ⟨#[]⟩ ∧ cbAt op ka la sa xa kb lb sb xb k l sc = decAt ka la sa xa ∧ cbE op ka la sa xa kb lb sb xb k l sc half = decErr ka la sa xa := by
  have hE : cbE op ka la sa xa kb lb sb xb k l sc half = decErr ka la sa xa := by unfold cbE; rw [if_neg (by simp [hF]), if_pos e1]
  exact ⟨by unfold cbS; rw [hE, if_pos e1], by unfold cbAt; rw [if_neg (by simp [hF]), if_pos e1], hE⟩
theorem cb_b (hF : cbF op ka la sa kb lb sb k l sc = 0) (e1 : decErr ka la sa xa = 0) (e2 : decErr kb lb sb xb ≠ 0) : cbS op ka la sa xa kb lb sb xb k l sc half = ⟨#[]⟩ ∧ cbAt op ka la sa xa kb lb sb xb k l sc = decAt kb lb sb xb ∧ cbE op ka la sa xa kb lb sb xb k l sc half = decErr kb lb sb xb := by
  have hE : cbE op ka la sa xa kb lb sb xb k l sc half = decErr kb lb sb xb := by unfold cbE; rw [if_neg (by simp [hF]), if_neg (by simp [e1]), if_pos e2]
  exact ⟨by unfold cbS; rw [hE, if_pos e2], by unfold cbAt; rw [if_neg (by simp [hF]), if_neg (by simp [e1]), if_pos e2], hE⟩
theorem cb_c (hF : cbF op ka la sa kb lb sb k l sc = 0) (e1 : decErr ka la sa xa = 0) (e2 : decErr kb lb sb xb = 0) : cbAt op ka la sa xa kb lb sb xb k l sc = 0 ∧ cbE op ka la sa xa kb lb sb xb k l sc half = caE op (decN ka la sa xa) sa (decN kb lb sb xb) sb k l sc half :=
  ⟨by unfold cbAt; rw [if_neg (by simp [hF]), if_neg (by simp [e1]), if_neg (by simp [e2])], by unfold cbE; rw [if_neg (by simp [hF]), if_neg (by simp [e1]), if_neg (by simp [e2])]⟩
end
theorem prog_cb (hRm : RemOk) (op ka la sa : Int) (xa : ByteArray) (kb lb sb : Int) (xb : ByteArray) (k l sc : Int) (half : Bool) (w : World) :
    Calls Try.prog 10 #[.int .i64 op, .agg #[.int .i64 ka, .int .i64 la, .int .i64 sa, .string xa], .agg #[.int .i64 kb, .int .i64 lb, .int .i64 sb, .string xb], .agg #[.int .i64 k, .int .i64 l, .int .i64 sc], .bool half] w fun e w' => e = .returned (.tuple #[.string (cbS op ka la sa xa kb lb sb xb k l sc half), .int .i64 (cbAt op ka la sa xa kb lb sb xb k l sc), .int .i64 (cbE op ka la sa xa kb lb sb xb k l sc half)]) ∧ Gr w w' := by
  refine CalculatedBytes_core (cbF op ka la sa kb lb sb k l sc) op ka la sa xa kb lb sb xb k l sc half _ _ _ rfl ?_ w
  have dA := Decode_any ka la sa xa
  have dB := Decode_any kb lb sb xb
  by_cases hF : cbF op ka la sa kb lb sb k l sc = 0
  rotate_left
  · obtain ⟨b1, b2, b3⟩ := cb_bad (xa := xa) (xb := xb) (half := half) rfl hF
    rw [b1, b2, b3]
    exact .inl ⟨by simp [hF], rfl, rfl, rfl⟩
  by_cases h1 : decErr ka la sa xa = 0
  rotate_left
  · obtain ⟨b1, b2, b3⟩ := cb_a (kb := kb) (lb := lb) (sb := sb) (xb := xb) (half := half) hF h1
    rw [b1, b2, b3]
    exact .inr (.inl ⟨hF, operand_bad ka la sa xa _ _ _ _ (by simp [h1]) dA, by simp [h1], rfl⟩)
  rw [h1] at dA
  have oA := operand_ok ka la sa xa _ _ _ dA
  by_cases h2 : decErr kb lb sb xb = 0
  rotate_left
  · obtain ⟨b1, b2, b3⟩ := cb_b (half := half) hF h1 h2
    rw [b1, b2, b3]
    exact .inr (.inr (.inl ⟨hF, ⟨_, _, oA⟩, operand_bad kb lb sb xb _ _ _ _ (by simp [h2]) dB, by simp [h2], rfl⟩))
  rw [h2] at dB
  have oB := operand_ok kb lb sb xb _ _ _ dB
  have hC := Calculated_any hRm op (decN ka la sa xa) sa (decN kb lb sb xb) sb k l sc half
  obtain ⟨b2, b3⟩ := cb_c (half := half) hF h1 h2
  by_cases h3 : caE op (decN ka la sa xa) sa (decN kb lb sb xb) sb k l sc half = 0
  · have hS : cbS op ka la sa xa kb lb sb xb k l sc half = strB k l (caN op (decN ka la sa xa) sa (decN kb lb sb xb) sb k l sc half) ⟨#[]⟩ := by unfold cbS; rw [b3, if_neg (by simp [h3])]
    rw [hS, b2, b3]
    obtain ⟨g1, g2, g3, g4, g5, g6⟩ := valErr_ok (ca_fits h3)
    rw [h3] at hC ⊢
    exact .inr (.inr (.inr ⟨hF, rfl, _, _, _, _, _, oA, oB, hC, fun w => written_ok k l sc _ _ _ (bytesOf_any k l sc _ _ g3 g4 g5 g6) w⟩))
  · have hS : cbS op ka la sa xa kb lb sb xb k l sc half = ⟨#[]⟩ := by unfold cbS; rw [b3, if_pos h3]
    rw [hS, b2, b3]
    exact .inr (.inr (.inr ⟨hF, rfl, _, _, _, _, _, oA, oB, hC, fun w => written_bad k l sc _ _ _ (by simp [h3]) w⟩))

theorem isNum_within (k : Int) : withinB k 1 3 = isNum k := by
  unfold withinB isNum
  by_cases h1 : 1 ≤ k <;> by_cases h2 : k ≤ 3 <;> by_cases e1 : k = 1 <;> by_cases e2 : k = 2 <;> by_cases e3 : k = 3 <;> simp [*] <;> omega
theorem isNum_ref (k : Int) (b : Bool) (h : isNum k = b) (w : World) : Calls Try.prog 34 #[.int .i64 k] w fun e w' => e = .returned (.bool b) ∧ w = w' :=
  (IsNumeric_any k w).mono fun e w' he => ⟨by rw [he.1, isNum_within, h], he.2⟩

theorem ref_cb (op ka la sa : Int) (xa : ByteArray) (kb lb sb : Int) (xb : ByteArray) (k l sc : Int) (half : Bool) (ha : xa.size ≤ 700) (hb : xb.size ≤ 700) (w : World) :
    Calls Try.prog 11 #[.agg #[.int .i64 op, .int .i64 k, .int .i64 l, .int .i64 sc, .bool half], .agg #[.int .i64 ka, .int .i64 la, .int .i64 sa, .string xa], .agg #[.int .i64 kb, .int .i64 lb, .int .i64 sb, .string xb]] w fun e w' => e = .returned (.agg #[.string (cbS op ka la sa xa kb lb sb xb k l sc half), .int .i64 (cbAt op ka la sa xa kb lb sb xb k l sc), .int .i64 (cbE op ka la sa xa kb lb sb xb k l sc half)]) ∧ Gr w w' := by
  have bad : ∀ F, cbF op ka la sa kb lb sb k l sc = F → F ≠ 0 → cbS op ka la sa xa kb lb sb xb k l sc half = ⟨#[]⟩ ∧ cbAt op ka la sa xa kb lb sb xb k l sc = 0 ∧ cbE op ka la sa xa kb lb sb xb k l sc half = F := fun F h h0 => cb_bad h h0
  have t1 := TypeErr_any ka la sa
  have t2 := TypeErr_any kb lb sb
  have t3 := TypeErr_any k l sc
  by_cases ho : 0 ≤ op ∧ op ≤ 4
  rotate_left
  · obtain ⟨b1, b2, b3⟩ := bad 4 (by unfold cbF; rw [first0_5, decide_eq_true (by omega)]; rfl) (by decide)
    rw [b1, b2, b3]
    exact refCB_0 op k l sc ka la sa kb lb sb half xa xb (Within_op op false (by rw [decide_eq_false ho])) w
  have hW := Within_op op true (by rw [decide_eq_true ho])
  have hop : pick (decide (op < 0 ∨ 5 ≤ op)) 4 = 0 := by rw [decide_eq_false (by omega)]; rfl
  by_cases h1 : typeErr ka la sa = 0
  rotate_left
  · obtain ⟨b1, b2, b3⟩ := bad _ (by unfold cbF; rw [first0_5, if_pos hop, if_neg h1]) h1
    rw [b1, b2, b3]
    exact refCB_1 op k l sc ka la sa kb lb sb _ half xa xb hW t1 (by simp [h1]) w
  rw [h1] at t1
  by_cases h2 : typeErr kb lb sb = 0
  rotate_left
  · obtain ⟨b1, b2, b3⟩ := bad _ (by unfold cbF; rw [first0_5, if_pos hop, if_pos h1, if_neg h2]) h2
    rw [b1, b2, b3]
    exact refCB_2 op k l sc ka la sa kb lb sb _ half xa xb hW t1 t2 (by simp [h2]) w
  rw [h2] at t2
  by_cases h3 : typeErr k l sc = 0
  rotate_left
  · obtain ⟨b1, b2, b3⟩ := bad _ (by unfold cbF; rw [first0_5, if_pos hop, if_pos h1, if_pos h2, if_neg h3]) h3
    rw [b1, b2, b3]
    exact refCB_3 op k l sc ka la sa kb lb sb _ half xa xb hW t1 t2 t3 (by simp [h3]) w
  rw [h3] at t3
  rcases n1 : isNum ka with _ | _
  · obtain ⟨b1, b2, b3⟩ := bad 17 (by unfold cbF; rw [first0_5, if_pos hop, if_pos h1, if_pos h2, if_pos h3, n1]; rfl) (by decide)
    rw [b1, b2, b3]
    exact refCB_4 op k l sc ka la sa kb lb sb half xa xb hW t1 t2 t3 (isNum_ref ka _ n1) w
  rcases n2 : isNum kb with _ | _
  · obtain ⟨b1, b2, b3⟩ := bad 17 (by unfold cbF; rw [first0_5, if_pos hop, if_pos h1, if_pos h2, if_pos h3, n1, n2]; rfl) (by decide)
    rw [b1, b2, b3]
    exact refCB_5 op k l sc ka la sa kb lb sb half xa xb hW t1 t2 t3 (isNum_ref ka _ n1) (isNum_ref kb _ n2) w
  rcases n3 : isNum k with _ | _
  · obtain ⟨b1, b2, b3⟩ := bad 17 (by unfold cbF; rw [first0_5, if_pos hop, if_pos h1, if_pos h2, if_pos h3, n1, n2, n3]; rfl) (by decide)
    rw [b1, b2, b3]
    exact refCB_6 op k l sc ka la sa kb lb sb half xa xb hW t1 t2 t3 (isNum_ref ka _ n1) (isNum_ref kb _ n2) (isNum_ref k _ n3) w
  have hF : cbF op ka la sa kb lb sb k l sc = 0 := by unfold cbF; rw [first0_5, if_pos hop, if_pos h1, if_pos h2, if_pos h3, n1, n2, n3]; rfl
  have dA := refDecode_any ka la sa xa ha
  have dB := refDecode_any kb lb sb xb hb
  have r1 := isNum_ref ka _ n1
  have r2 := isNum_ref kb _ n2
  have r3 := isNum_ref k _ n3
  by_cases e1 : decErr ka la sa xa = 0
  rotate_left
  · have hE : cbE op ka la sa xa kb lb sb xb k l sc half = decErr ka la sa xa := by unfold cbE; rw [if_neg (by simp [hF]), if_pos e1]
    have hA : cbAt op ka la sa xa kb lb sb xb k l sc = decAt ka la sa xa := by unfold cbAt; rw [if_neg (by simp [hF]), if_pos e1]
    have hS : cbS op ka la sa xa kb lb sb xb k l sc half = ⟨#[]⟩ := by unfold cbS; rw [hE, if_pos e1]
    rw [hE, hA, hS]
    exact refCB_7 op k l sc ka la sa kb lb sb _ _ _ half xa xb _ hW t1 t2 t3 r1 r2 r3 dA (by simp [e1]) w
  rw [e1] at dA
  by_cases e2 : decErr kb lb sb xb = 0
  rotate_left
  · have hE : cbE op ka la sa xa kb lb sb xb k l sc half = decErr kb lb sb xb := by unfold cbE; rw [if_neg (by simp [hF]), if_neg (by simp [e1]), if_pos e2]
    have hA : cbAt op ka la sa xa kb lb sb xb k l sc = decAt kb lb sb xb := by unfold cbAt; rw [if_neg (by simp [hF]), if_neg (by simp [e1]), if_pos e2]
    have hS : cbS op ka la sa xa kb lb sb xb k l sc half = ⟨#[]⟩ := by unfold cbS; rw [hE, if_pos e2]
    rw [hE, hA, hS]
    exact refCB_8 op k l sc ka la sa kb lb sb _ _ _ _ _ half xa xb _ _ hW t1 t2 t3 r1 r2 r3 dA dB (by simp [e2]) w
  rw [e2] at dB
  have hE : cbE op ka la sa xa kb lb sb xb k l sc half = caE op (decN ka la sa xa) sa (decN kb lb sb xb) sb k l sc half := by unfold cbE; rw [if_neg (by simp [hF]), if_neg (by simp [e1]), if_neg (by simp [e2])]
  have hA : cbAt op ka la sa xa kb lb sb xb k l sc = 0 := by unfold cbAt; rw [if_neg (by simp [hF]), if_neg (by simp [e1]), if_neg (by simp [e2])]
  have hC := refCalculated_any op (decN ka la sa xa) sa (decN kb lb sb xb) sb k l sc half
  by_cases e3 : caE op (decN ka la sa xa) sa (decN kb lb sb xb) sb k l sc half = 0
  · have hS : cbS op ka la sa xa kb lb sb xb k l sc half = strB k l (caN op (decN ka la sa xa) sa (decN kb lb sb xb) sb k l sc half) ⟨#[]⟩ := by unfold cbS; rw [hE, if_neg (by simp [e3])]
    rw [hE, hA, hS, e3]
    rw [e3] at hC
    exact refCB_10 op k l sc ka la sa kb lb sb _ _ _ _ _ half xa xb _ _ _ hW t1 t2 t3 r1 r2 r3 dA dB hC (Bytes_any k l sc _ ⟨#[]⟩ (ca_fits e3)) w
  · have hS : cbS op ka la sa xa kb lb sb xb k l sc half = ⟨#[]⟩ := by unfold cbS; rw [hE, if_pos e3]
    rw [hE, hA, hS]
    exact refCB_9 op k l sc ka la sa kb lb sb _ _ _ _ _ _ half xa xb _ _ hW t1 t2 t3 r1 r2 r3 dA dB hC (by simp [e3]) w
end Go.Proofs.Ytnaflaokhldfnaa
