/- Texts of the walks, merged. -/
import Derived.Test.YtmdpejllbalnnaaGreatDoorQ25
import Derived.Test.YtmdpejllbalnnaaGreatDoorQ17
namespace Go.Proofs.YtmdpejllbalnnaaGreatDoor
set_option linter.unusedSimpArgs false
set_option linter.unusedVariables false
open Go.RowKit

theorem stsF_bd2 (T : List UInt8) : ∀ n b, stsF T b n = -1 ∨ ∃ s : Nat, stsF T b n = s ∧ b ≤ s ∧ s < b + n ∧ sbL (T.drop s) ≠ []
  | 0, b => Or.inl rfl
  | n + 1, b => by
    rw [stsF]
    split
    · rename_i h
      exact Or.inr ⟨b, rfl, Nat.le_refl _, by omega, h⟩
    · rcases stsF_bd2 T n (b + 1) with h | ⟨s, h, h1, h2, h3⟩
      · exact Or.inl h
      · exact Or.inr ⟨s, h, by omega, by omega, h3⟩
theorem st_prop (T : List UInt8) : ∀ q, q ≤ T.length → stI T q = -1 ∨ ∃ p : Nat, stI T q = p ∧ p < q ∧ (dAt T p = 48 ∨ dAt T p = 42)
  | 0, _ => Or.inl rfl
  | q + 1, h => by
    rw [st_step T q (by omega)]
    rcases st_prop T q (by omega) with e | ⟨p, e, h1, h2⟩
    · rw [if_pos e]
      split
      · rename_i g
        simp only [Bool.or_eq_true, beq_iff_eq] at g
        exact Or.inr ⟨q, rfl, by omega, g⟩
      · exact Or.inl rfl
    · rw [if_neg (by omega)]
      exact Or.inr ⟨p, e, by omega, h2⟩
/-- The text of a value that fits, by a right word. -/
theorem WordText_ok (k l s n : Int) (T : List UInt8) (hc : cwE k l s T = 0) (hf : fitsB n l = true) (w : World) :
    Calls Tryz.prog 41 #[.agg #[.int .i64 k, .int .i64 l, .int .i64 s], .int .i64 n, .string (BL T)] w fun e w' => e = .returned (.string (BL (ebL l n T))) ∧ Gr w w' := by
  obtain ⟨c1, c2, c3⟩ := cw_right hc
  obtain ⟨a1, a2, a3, a4⟩ := pa_right c2
  obtain ⟨b0, b1, b2, b3, b4⟩ := bod_bd T
  obtain ⟨t1, t2⟩ := nt_right c1
  obtain ⟨l0, l1, s0, s1, hk⟩ := num_right t1 t2
  obtain ⟨d1, d2⟩ := fits_len hf l0 l1
  have hDl := dsL_len l.toNat n.natAbs d1
  have hDg : ∀ w, Calls Tryz.prog 65 #[.agg #[.int .i64 k, .int .i64 l, .int .i64 s], .int .i64 n] w fun e w' => e = .returned (.string (BL (dsL l.toNat n.natAbs))) ∧ Gr w w' := fun w => refDigits_any k l s n n.natAbs l.toNat rfl (by omega) (by omega) d1 d2 w
  have hD2 : (dsL l.toNat n.natAbs).length = psN T (stpI T) (bodI T).toNat := by rw [hDl]; omega
  have hb2 : (bodI T).toNat ≤ T.length := by omega
  have hT2 : T.length ≤ 100 := by omega
  have hP := refParts_any T
  have hv : paV T = .agg #[.int .i64 (bodI T), .int .i64 (stsI T), .int .i64 (stpI T), .bool (astB T)] := by unfold paV; rw [if_pos c2]
  have ha : paAt T = 0 := by unfold paAt; rw [c2]; rfl
  have hbc : (((bodI T).toNat : Nat) : Int) = bodI T := by omega
  rw [hv, ha, c2, ← hbc] at hP
  have hst : stsI T = -1 ∨ ∃ q : Nat, stsI T = q ∧ (bodI T).toNat ≤ q ∧ q < T.length ∧ sbL (T.drop q) ≠ [] := by
    unfold stsI
    rcases stsF_bd2 T (T.length - (bodI T).toNat) (bodI T).toNat with h | ⟨q, h, h1, h2, h3⟩
    · exact Or.inl h
    · exact Or.inr ⟨q, h, h1, by omega, h3⟩
  have hsp : ∀ q : Nat, (q : Int) = stpI T → dAt T q ≠ 38 := by
    intro q hq
    rcases st_prop T T.length (Nat.le_refl _) with e | ⟨p, e, h1, h2⟩
    · rw [st_all] at e; omega
    · rw [st_all] at e
      obtain rfl : q = p := by omega
      rcases h2 with h | h <;> rw [h] <;> decide
  have h := WordText_core k l s n (dsL l.toNat n.natAbs) T (stsI T) (stpI T) (astB T) (bodI T).toNat T.length (sbL (T.drop (stsI T).toNat)).length rfl hT2 hb2 hD2
    (by rcases hst with h | ⟨q, h, -, h2, h3⟩; exact Or.inl h; exact Or.inr ⟨q, h, h2, h3⟩) (fun _ => rfl) hsp hP hDg w
  have he := ex_same T (bodI T).toNat (stsI T) (decide (n < 0)) hb2 (by
    rcases hst with h | ⟨q, h, h1, h2, h3⟩
    · exact Or.inl h
    · have := sb_len (T.drop q)
      rw [List.length_drop] at this
      exact Or.inr ⟨q, h, h1, by omega⟩) (sbL (T.drop (stsI T).toNat)).length (fun _ => rfl)
  rw [← he, hbc] at h
  exact h
set_option maxHeartbeats 2000000 in
theorem refEditedBy_core (k l s n E1 E2 : Int) (X x R : ByteArray) (w : World)
    (h1 : ∀ w, Calls Tryz.prog 40 #[.agg #[.int .i64 k, .int .i64 l, .int .i64 s], .string X] w fun e w' => e = .returned (.int .i64 E1) ∧ Gr w w')
    (h2 : ∀ w, Calls Tryz.prog 25 #[.agg #[.int .i64 k, .int .i64 l, .int .i64 s], .agg #[.int .i64 n, .string x]] w fun e w' => e = .returned (.int .i64 E2) ∧ Gr w w')
    (h3 : E1 = 0 → E2 = 0 → ∀ w, Calls Tryz.prog 41 #[.agg #[.int .i64 k, .int .i64 l, .int .i64 s], .int .i64 n, .string X] w fun e w' => e = .returned (.string R) ∧ Gr w w') :
    Calls Tryz.prog 20 #[.agg #[.int .i64 k, .int .i64 l, .int .i64 s], .agg #[.int .i64 n, .string x], .string X] w (EdR (if E1 ≠ 0 then ⟨#[]⟩ else if E2 ≠ 0 then ⟨#[]⟩ else R) (if E1 ≠ 0 then E1 else E2) w) := by
  by_cases g1 : E1 = 0
  · subst g1
    by_cases g2 : E2 = 0
    · subst g2
      replace h3 := h3 rfl rfl
      rw [if_neg (by simp), if_neg (by simp), if_neg (by simp)]
      go_enter Tryz.func20, Tryz.ntmps20
      go_wp2_with (first | (go_at_call 40; (with_reducible refine (h1 _).mono ?_); rintro e w1 ⟨rfl, hb⟩; obtain ⟨hc, hf⟩ := gcells hb (w.heap.size + 2) (by first | exact hz | omega | (simp; done) | (simp; omega)); have hz : w.heap.size + 2 ≤ w1.heap.size := (by have h := hb.size; (try simp at h); omega); have hz0 : w.heap.size < w1.heap.size := (by omega)) | (go_at_call 25; (with_reducible refine (h2 _).mono ?_); rintro e w1 ⟨rfl, hb⟩; obtain ⟨hc, hf⟩ := gcells hb (w.heap.size + 2) (by first | exact hz | omega | (simp; done) | (simp; omega)); have hz : w.heap.size + 2 ≤ w1.heap.size := (by have h := hb.size; (try simp at h); omega); have hz0 : w.heap.size < w1.heap.size := (by omega)) | (go_at_call 41; (with_reducible refine (h3 _).mono ?_); rintro e w1 ⟨rfl, hb⟩; obtain ⟨hc, hf⟩ := gcells hb (w.heap.size + 2) (by first | exact hz | omega | (simp; done) | (simp; omega)); have hz : w.heap.size + 2 ≤ w1.heap.size := (by have h := hb.size; (try simp at h); omega); have hz0 : w.heap.size < w1.heap.size := (by omega)))
      refine bodyPost_ret (v := .tuple #[.string R, .int .i64 0]) (by simp [results, Tryz.results20, go_sem, *]) rfl ?_
      exact ⟨rfl, (by repeat (first | (with_reducible exact Gr.refl _) | (with_reducible assumption) | (with_reducible refine Gr.alloc ?_ _) | (with_reducible refine Gr.drew ?_) | (with_reducible refine Gr.drewN ?_ _) | (with_reducible refine Gr.setCell ?_ (by simp <;> omega) _) | (with_reducible refine Gr.trans ?_ (by with_reducible assumption)) | exact Gr.refl _ | assumption | refine Gr.alloc ?_ _ | refine Gr.drew ?_ | refine Gr.drewN ?_ _ | refine Gr.setCell ?_ (by simp <;> omega) _ | refine Gr.trans ?_ (by assumption)))⟩
    · have b2 : (E2 != 0) = true := by simp [g2]
      rw [if_neg (by simp), if_pos g2, if_neg (by simp)]
      clear h3 g2
      go_enter Tryz.func20, Tryz.ntmps20
      go_wp2_with (first | (go_at_call 40; (with_reducible refine (h1 _).mono ?_); rintro e w1 ⟨rfl, hb⟩; obtain ⟨hc, hf⟩ := gcells hb (w.heap.size + 2) (by first | exact hz | omega | (simp; done) | (simp; omega)); have hz : w.heap.size + 2 ≤ w1.heap.size := (by have h := hb.size; (try simp at h); omega); have hz0 : w.heap.size < w1.heap.size := (by omega)) | (go_at_call 25; (with_reducible refine (h2 _).mono ?_); rintro e w1 ⟨rfl, hb⟩; obtain ⟨hc, hf⟩ := gcells hb (w.heap.size + 2) (by first | exact hz | omega | (simp; done) | (simp; omega)); have hz : w.heap.size + 2 ≤ w1.heap.size := (by have h := hb.size; (try simp at h); omega); have hz0 : w.heap.size < w1.heap.size := (by omega)))
      refine bodyPost_ret (v := .tuple #[.string ⟨#[]⟩, .int .i64 E2]) (by simp [results, Tryz.results20, go_sem, *]) rfl ?_
      exact ⟨rfl, (by repeat (first | (with_reducible exact Gr.refl _) | (with_reducible assumption) | (with_reducible refine Gr.alloc ?_ _) | (with_reducible refine Gr.drew ?_) | (with_reducible refine Gr.drewN ?_ _) | (with_reducible refine Gr.setCell ?_ (by simp <;> omega) _) | (with_reducible refine Gr.trans ?_ (by with_reducible assumption)) | exact Gr.refl _ | assumption | refine Gr.alloc ?_ _ | refine Gr.drew ?_ | refine Gr.drewN ?_ _ | refine Gr.setCell ?_ (by simp <;> omega) _ | refine Gr.trans ?_ (by assumption)))⟩
  · have b1 : (E1 != 0) = true := by simp [g1]
    rw [if_pos g1, if_pos g1]
    clear h3 g1 h2
    go_enter Tryz.func20, Tryz.ntmps20
    go_wp2_with ((go_at_call 40; (with_reducible refine (h1 _).mono ?_); rintro e w1 ⟨rfl, hb⟩; obtain ⟨hc, hf⟩ := gcells hb (w.heap.size + 2) (by first | exact hz | omega | (simp; done) | (simp; omega)); have hz : w.heap.size + 2 ≤ w1.heap.size := (by have h := hb.size; (try simp at h); omega); have hz0 : w.heap.size < w1.heap.size := (by omega)))
    refine bodyPost_ret (v := .tuple #[.string ⟨#[]⟩, .int .i64 E1]) (by simp [results, Tryz.results20, go_sem, *]) rfl ?_
    exact ⟨rfl, (by repeat (first | (with_reducible exact Gr.refl _) | (with_reducible assumption) | (with_reducible refine Gr.alloc ?_ _) | (with_reducible refine Gr.drew ?_) | (with_reducible refine Gr.drewN ?_ _) | (with_reducible refine Gr.setCell ?_ (by simp <;> omega) _) | (with_reducible refine Gr.trans ?_ (by with_reducible assumption)) | exact Gr.refl _ | assumption | refine Gr.alloc ?_ _ | refine Gr.drew ?_ | refine Gr.drewN ?_ _ | refine Gr.setCell ?_ (by simp <;> omega) _ | refine Gr.trans ?_ (by assumption)))⟩
theorem refEditedBy_any (k l s n : Int) (x : ByteArray) (T : List UInt8) (hT : T.length ≤ 100) (w : World) :
    Calls Tryz.prog 20 #[.agg #[.int .i64 k, .int .i64 l, .int .i64 s], .agg #[.int .i64 n, .string x], .string (BL T)] w (EdR (ebT k l s n x T) (ebE k l s n x T) w) := by
  refine refEditedBy_core k l s n (cwE k l s T) (valErr k l s n x) (BL T) x (BL (ebL l n T)) w (wordErr_any k l s T hT) (ValueErr_any k l s n x) ?_
  intro h1 h2 w
  obtain ⟨c1, -, -⟩ := cw_right h1
  obtain ⟨t1, t2⟩ := nt_right c1
  obtain ⟨l0, l1, s0, s1, hk⟩ := num_right t1 t2
  exact WordText_ok k l s n T h1 (val_fits h2 t1 hk).2 w
end Go.Proofs.YtmdpejllbalnnaaGreatDoor
namespace Go.Proofs.YtmdpejllbalnnaaGreatDoor
set_option linter.unusedSimpArgs false
set_option linter.unusedVariables false
open Go.RowKit

set_option maxHeartbeats 4000000 in
set_option maxRecDepth 100000 in
theorem awake_any (w : World) (hw : PW w) : Calls Tryz.prog 11 #[] w fun e w' => e = .returned (.bool true) ∧ Gr w w' := by
  have h1 : ∀ w, PW w → Calls Tryz.prog 15 #[.agg #[.int .i64 2, .int .i64 7, .int .i64 2], .agg #[.int .i64 (-123450), .string ⟨#[]⟩], .agg #[.int .u8 74, .int .i64 0]] w (EdR ⟨#[32, 49, 44, 50, 51, 52, 46, 53, 48, 45]⟩ 0 w) := fun w h => by
    have h2 := Edited_any 2 7 2 (-123450) 0 ⟨#[]⟩ 74 74 rfl w h.1
    rw [show edT 2 7 2 (-123450) ⟨#[]⟩ 74 0 = ⟨#[32, 49, 44, 50, 51, 52, 46, 53, 48, 45]⟩ by decide +kernel, show edE 2 7 2 (-123450) ⟨#[]⟩ 74 0 = 0 by decide +kernel] at h2
    exact h2
  have h3 : ∀ w, PW w → Calls Tryz.prog 19 #[.agg #[.int .i64 2, .int .i64 5, .int .i64 0], .agg #[.int .i64 (-12345), .string ⟨#[]⟩], .string ⟨#[32, 32, 48, 46, 32, 32, 67, 82]⟩] w (EdR ⟨#[49, 50, 51, 46, 52, 53, 67, 82]⟩ 0 w) := fun w h => by
    have h2 := EditedBy_any 2 5 0 (-12345) ⟨#[]⟩ [32, 32, 48, 46, 32, 32, 67, 82] w h
    rw [show ebT 2 5 0 (-12345) ⟨#[]⟩ [32, 32, 48, 46, 32, 32, 67, 82] = ⟨#[49, 50, 51, 46, 52, 53, 67, 82]⟩ by decide +kernel, show ebE 2 5 0 (-12345) ⟨#[]⟩ [32, 32, 48, 46, 32, 32, 67, 82] = 0 by decide +kernel] at h2
    exact h2
  have HW := Lib.hid hw
  clear hw
  go_enter Tryz.func11, Tryz.ntmps11
  go_wp2_with (first | go_at_call 15; (with_reducible refine (h1 _ HW.out).mono ?_); rintro e wA ⟨rfl, hbA⟩ | go_at_call 19; (with_reducible refine (h3 _ (HW.out.gr hbA)).mono ?_); rintro e wB ⟨rfl, hbB⟩)
  go_ret
  exact ⟨rfl, hbA.trans hbB⟩
end Go.Proofs.YtmdpejllbalnnaaGreatDoor
