/- Texts of the walks, merged. -/
import Derived.Test.YtmdpejllbalnnaaGreatDoorQ20
import Derived.Test.YtmdpejllbalnnaaGreatDoorQ08
namespace Go.Proofs.YtmdpejllbalnnaaGreatDoor
set_option linter.unusedSimpArgs false
set_option linter.unusedVariables false
open Go.RowKit

theorem code_lists (c8 : UInt8) : hasB [65, 66, 67, 68] c8 = decide (4 ≤ ixA c8 ∧ ixA c8 < 8) ∧ hasB [74, 75, 76, 77] c8 = decide (8 ≤ ixA c8 ∧ ixA c8 < 12) ∧ hasB [78, 79, 80, 81] c8 = ldB c8 ∧
    (0 ≤ ixA c8 → hasB [49, 50, 65, 66, 74, 75, 78, 79] c8 = cmB c8 ∧ hasB [50, 52, 66, 68, 75, 77, 79, 81] c8 = !zpB c8) := by
  have h := codeB_all c8
  unfold codeB at h
  simp only [Bool.and_eq_true, beq_iff_eq, Bool.or_eq_true, decide_eq_true_eq] at h
  obtain ⟨⟨⟨⟨⟨⟨-, q5⟩, q6⟩, q7⟩, q8⟩, q9⟩, -⟩ := h
  refine ⟨q7, q8, q9, fun h0 => ⟨?_, ?_⟩⟩
  · rcases q5 with h | h
    · omega
    · exact h
  · rcases q6 with h | h
    · omega
    · exact h
theorem bhL_ld {c : UInt8} (h : ldB c = true) : bhL c = [] := by
  unfold ldB at h
  simp only [decide_eq_true_eq] at h
  unfold bhL
  rw [if_neg (by omega), if_neg (by omega)]
set_option maxHeartbeats 1000000 in
theorem refText_x (k l s n f : Int) (D : ByteArray) (w : World)
    (hDg : ∀ w, Calls Tryz.prog 65 #[.agg #[.int .i64 k, .int .i64 l, .int .i64 s], .int .i64 n] w fun e w' => e = .returned (.string D) ∧ Gr w w') :
    Calls Tryz.prog 32 #[.agg #[.int .i64 k, .int .i64 l, .int .i64 s], .int .i64 n, .agg #[.int .u8 88, .int .i64 f]] w fun e w' => e = .returned (.string D) ∧ Gr w w' := by
  go_enter Tryz.func32, Tryz.ntmps32
  go_wp2_with ((go_at_call 65; (with_reducible refine (hDg _).mono ?_); rintro e w1 ⟨rfl, hb⟩; obtain ⟨hc, hf⟩ := gcells hb (w.heap.size + 2) (by first | exact hz | omega | (simp; done) | (simp; omega)); have hz : w.heap.size + 2 ≤ w1.heap.size := (by have h := hb.size; (try simp at h); omega); have hz0 : w.heap.size < w1.heap.size := (by omega)))
  go_ret
  exact ⟨rfl, (by repeat (first | (with_reducible exact Gr.refl _) | (with_reducible assumption) | (with_reducible refine Gr.alloc ?_ _) | (with_reducible refine Gr.drew ?_) | (with_reducible refine Gr.drewN ?_ _) | (with_reducible refine Gr.setCell ?_ (by simp <;> omega) _) | (with_reducible refine Gr.trans ?_ (by with_reducible assumption)) | exact Gr.refl _ | assumption | refine Gr.alloc ?_ _ | refine Gr.drew ?_ | refine Gr.drewN ?_ _ | refine Gr.setCell ?_ (by simp <;> omega) _ | refine Gr.trans ?_ (by assumption)))⟩
set_option maxHeartbeats 1000000 in
theorem refText_y (k l s n f : Int) (D R : ByteArray) (w : World)
    (hDg : ∀ w, Calls Tryz.prog 65 #[.agg #[.int .i64 k, .int .i64 l, .int .i64 s], .int .i64 n] w fun e w' => e = .returned (.string D) ∧ Gr w w')
    (hY : ∀ w, Calls Tryz.prog 66 #[.string D] w fun e w' => e = .returned (.string R) ∧ Gr w w') :
    Calls Tryz.prog 32 #[.agg #[.int .i64 k, .int .i64 l, .int .i64 s], .int .i64 n, .agg #[.int .u8 89, .int .i64 f]] w fun e w' => e = .returned (.string R) ∧ Gr w w' := by
  go_enter Tryz.func32, Tryz.ntmps32
  go_wp2_with (first | (go_at_call 65; (with_reducible refine (hDg _).mono ?_); rintro e w1 ⟨rfl, hb⟩; obtain ⟨hc, hf⟩ := gcells hb (w.heap.size + 2) (by first | exact hz | omega | (simp; done) | (simp; omega)); have hz : w.heap.size + 2 ≤ w1.heap.size := (by have h := hb.size; (try simp at h); omega); have hz0 : w.heap.size < w1.heap.size := (by omega)) | (go_at_call 66; (with_reducible refine (hY _).mono ?_); rintro e w1 ⟨rfl, hb⟩; obtain ⟨hc, hf⟩ := gcells hb (w.heap.size + 2) (by first | exact hz | omega | (simp; done) | (simp; omega)); have hz : w.heap.size + 2 ≤ w1.heap.size := (by have h := hb.size; (try simp at h); omega); have hz0 : w.heap.size < w1.heap.size := (by omega)))
  go_ret
  exact ⟨rfl, (by repeat (first | (with_reducible exact Gr.refl _) | (with_reducible assumption) | (with_reducible refine Gr.alloc ?_ _) | (with_reducible refine Gr.drew ?_) | (with_reducible refine Gr.drewN ?_ _) | (with_reducible refine Gr.setCell ?_ (by simp <;> omega) _) | (with_reducible refine Gr.trans ?_ (by with_reducible assumption)) | exact Gr.refl _ | assumption | refine Gr.alloc ?_ _ | refine Gr.drew ?_ | refine Gr.drewN ?_ _ | refine Gr.setCell ?_ (by simp <;> omega) _ | refine Gr.trans ?_ (by assumption)))⟩
set_option maxHeartbeats 1000000 in
theorem refText_z (k l s n f : Int) (D R : ByteArray) (w : World)
    (hDg : ∀ w, Calls Tryz.prog 65 #[.agg #[.int .i64 k, .int .i64 l, .int .i64 s], .int .i64 n] w fun e w' => e = .returned (.string D) ∧ Gr w w')
    (hY : ∀ w, Calls Tryz.prog 67 #[.string D, .bool false, .bool false] w fun e w' => e = .returned (.string R) ∧ w = w') :
    Calls Tryz.prog 32 #[.agg #[.int .i64 k, .int .i64 l, .int .i64 s], .int .i64 n, .agg #[.int .u8 90, .int .i64 f]] w fun e w' => e = .returned (.string R) ∧ Gr w w' := by
  go_enter Tryz.func32, Tryz.ntmps32
  go_wp2_with (first | (go_at_call 65; (with_reducible refine (hDg _).mono ?_); rintro e w1 ⟨rfl, hb⟩; obtain ⟨hc, hf⟩ := gcells hb (w.heap.size + 2) (by first | exact hz | omega | (simp; done) | (simp; omega)); have hz : w.heap.size + 2 ≤ w1.heap.size := (by have h := hb.size; (try simp at h); omega); have hz0 : w.heap.size < w1.heap.size := (by omega)) | (go_at_call 67; (with_reducible refine (hY _).mono ?_); rintro e w1 ⟨rfl, rfl⟩))
  go_ret
  exact ⟨rfl, (by repeat (first | (with_reducible exact Gr.refl _) | (with_reducible assumption) | (with_reducible refine Gr.alloc ?_ _) | (with_reducible refine Gr.drew ?_) | (with_reducible refine Gr.drewN ?_ _) | (with_reducible refine Gr.setCell ?_ (by simp <;> omega) _) | (with_reducible refine Gr.trans ?_ (by with_reducible assumption)) | exact Gr.refl _ | assumption | refine Gr.alloc ?_ _ | refine Gr.drew ?_ | refine Gr.drewN ?_ _ | refine Gr.setCell ?_ (by simp <;> omega) _ | refine Gr.trans ?_ (by assumption)))⟩
theorem tx_len (D : List UInt8) (cmm : Bool) (W : Nat) : (txL D cmm W).length = (spT D cmm W D.length).length := sup_len _ _ (by omega)
set_option maxHeartbeats 4000000 in
theorem refText_any (k s n f : Int) (c8 : UInt8) (c : Int) (u W L : Nat) (hc : c = c8.toNat) (hu : u = n.natAbs) (hs : s = (L : Int) - W) (hW : W ≤ L) (hL0 : 1 ≤ L) (hL : L ≤ 64) (hdc : (dcS u).size ≤ L) (hu18 : u ≤ 1000000000000000000)
    (hcd : 0 ≤ ixA c8 ∨ c8 = 88 ∨ c8 = 89 ∨ c8 = 90) (h89 : c8 = 89 → L = 4 ∨ L = 6 ∨ L = 8) (hf : f ≠ 0 → gwB c8 = true) (w : World) :
    Calls Tryz.prog 32 #[.agg #[.int .i64 k, .int .i64 (L : Int), .int .i64 s], .int .i64 n, .agg #[.int .u8 c, .int .i64 f]] w fun e w' =>
      e = .returned (.string (BL (edL (dsL L u) W c8 (decide (n < 0)) (decide (n = 0)) f))) ∧ Gr w w' := by
  have hDg : ∀ w, Calls Tryz.prog 65 #[.agg #[.int .i64 k, .int .i64 (L : Int), .int .i64 s], .int .i64 n] w fun e w' => e = .returned (.string (BL (dsL L u))) ∧ Gr w w' := fun w => refDigits_any k (L : Int) s n u L hu rfl hL hdc hu18 w
  have hd := dsL_all L u hdc
  have hD := dsL_len L u hdc
  unfold edL
  generalize dsL L u = D at *
  have hd' : ∀ i, i < D.length → isDg (dAt D i) = true := fun i hi => dAt_dg hd hi
  by_cases e1 : c8 = 88
  · subst e1
    have hc' : c = 88 := hc
    subst hc'
    exact refText_x k (L : Int) s n f (BL D) w hDg
  rw [if_neg e1]
  by_cases e2 : c8 = 89
  · subst e2
    have hc' : c = 89 := hc
    subst hc'
    rw [if_pos rfl, ← dt_same D (by rw [hD]; exact h89 rfl), hD]
    exact refText_y k (L : Int) s n f (BL D) _ w hDg (date_any D L hD (by omega))
  rw [if_neg e2]
  by_cases e3 : c8 = 90
  · subst e3
    have hc' : c = 90 := hc
    subst hc'
    have hw := whole_any D L false false hD hL
    rw [show whO D false false L L = whO D false false D.length D.length by rw [hD], wh_z D hd'] at hw
    rw [if_pos rfl]
    exact refText_z k (L : Int) s n f (BL D) _ w hDg hw
  rw [if_neg e3]
  have hi0 : 0 ≤ ixA c8 := by rcases hcd with h | h | h | h <;> first | exact h | exact absurd h (by assumption)
  obtain ⟨q7, q8, q9, q56⟩ := code_lists c8
  obtain ⟨q5, q6⟩ := q56 hi0
  have hI1 := in_any [49, 50, 65, 66, 74, 75, 78, 79] (by decide) c8 c hc
  have hI2 := in_any [65, 66, 67, 68] (by decide) c8 c hc
  have hI3 := in_any [74, 75, 76, 77] (by decide) c8 c hc
  have hI4 := in_any [50, 52, 66, 68, 75, 77, 79, 81] (by decide) c8 c hc
  have hI5 := in_any [78, 79, 80, 81] (by decide) c8 c hc
  rw [q5] at hI1
  rw [q6] at hI4
  rw [q9] at hI5
  have hbl : bhL c8 = if hasB [65, 66, 67, 68] c8 = true then [67, 82] else if hasB [74, 75, 76, 77] c8 = true then [45] else [] := bhL_cases c8
  have hexc : hasB [65, 66, 67, 68] c8 = true → hasB [74, 75, 76, 77] c8 = false := by
    rw [q7, q8]; intro h; simp only [decide_eq_true_eq] at h; exact decide_eq_false (by omega)
  generalize hasB [65, 66, 67, 68] c8 = bA at *
  generalize hasB [74, 75, 76, 77] c8 = bJ at *
  have hld : f ≠ 0 → ldB c8 = false := by
    intro h
    have := hf h
    unfold gwB at this
    unfold ldB
    simp only [Bool.and_eq_true, Bool.not_eq_true', decide_eq_false_iff_not] at this
    exact decide_eq_false this.2
  have hAl : (D.take W).length = W := by rw [List.length_take]; omega
  have hlast : (s == 0) = decide (D.length = W) := by
    rw [hD]
    by_cases h : L = W
    · rw [decide_eq_true h]; simp; omega
    · rw [decide_eq_false h]; simp; omega
  have hwh := whole_any (D.take W) W (cmB c8) (s == 0) hAl (by omega)
  have htx := wh_tx D (cmB c8) W (by omega) (by omega) hd
  rw [hlast] at hwh
  have hYl := whO_len (D.take W) (cmB c8) (decide (D.length = W)) W W
  have hsl := spT_le D (cmB c8) W D.length
  have htl := tx_len D (cmB c8) W
  have hcut := cut_j (BL D) (W : Int) W rfl (by rw [BL_size]; omega)
  have hcuti := cut_i (BL D) (W : Int) W rfl (by rw [BL_size]; omega)
  rw [ext_all, BL_list] at hcuti
  rw [BL_cut, show (D.drop 0).take (W - 0) = D.take W by simp] at hcut
  have hbody := body_len D W c8 (decide (n < 0)) (decide (n = 0))
  have hbh := bh_len c8
  have hfl := floated_any (bodyL D W c8 (decide (n < 0)) (decide (n = 0))) _ rfl (by omega)
  have hst := starred_any (bodyL D W c8 (decide (n < 0)) (decide (n = 0))) _ rfl (by omega)
  have hsig : bodyL D W c8 (decide (n < 0)) (decide (n = 0)) = if n = 0 ∧ (!zpB c8) = true then List.replicate ((spT D (cmB c8) W D.length).length + (bhL c8).length) 32 else txL D (cmB c8) W ++ (if bA then (if n < 0 then [67, 82] else [32, 32]) else []) ++ (if bJ then (if n < 0 then [45] else [32]) else []) := by
    unfold bodyL
    simp only [Bool.and_eq_true, decide_eq_true_eq]
    split
    · rfl
    · rw [List.append_assoc]
      congr 1
      rw [hbl]
      cases bA
      · cases bJ
        · simp
        · by_cases hn : n < 0 <;> simp [hn]
      · rw [hexc rfl]
        by_cases hn : n < 0 <;> simp [hn]
  have hbl2 : (txL D (cmB c8) W ++ (if bA then (if n < 0 then [67, 82] else [32, 32]) else []) ++ (if bJ then (if n < 0 then [45] else [32]) else [])).length = (spT D (cmB c8) W D.length).length + (bhL c8).length := by
    rw [List.length_append, List.length_append, htl, hbl, Nat.add_assoc]
    congr 1
    cases bA
    · cases bJ
      · simp
      · by_cases hn : n < 0 <;> simp [hn]
    · rw [hexc rfl]
      by_cases hn : n < 0 <;> simp [hn]
  have hb2l : (txL D (cmB c8) W ++ (if bA then (if n < 0 then [67, 82] else [32, 32]) else [])).length ≤ 260 := by
    have := hbl2
    rw [List.length_append] at this
    omega
  have n1 : c ≠ 88 := fun e => e1 (by rw [← UInt8.toNat_inj]; show c8.toNat = 88; omega)
  have n2 : c ≠ 89 := fun e => e2 (by rw [← UInt8.toNat_inj]; show c8.toNat = 89; omega)
  have n3 : c ≠ 90 := fun e => e3 (by rw [← UInt8.toNat_inj]; show c8.toNat = 90; omega)
  refine refText_core k (L : Int) s n f c (W : Int) (BL D) (BL (D.take W)) (BL (whO (D.take W) (cmB c8) (decide (D.length = W)) W W).1) (BL (txL D (cmB c8) W)) (BL (txL D (cmB c8) W ++ (if bA then (if n < 0 then [67, 82] else [32, 32]) else []))) (BL (txL D (cmB c8) W ++ (if bA then (if n < 0 then [67, 82] else [32, 32]) else []) ++ (if bJ then (if n < 0 then [45] else [32]) else []))) (BL (bodyL D W c8 (decide (n < 0)) (decide (n = 0)))) _ (cmB c8) bA bJ (!zpB c8) (ldB c8) w hDg n1 n2 n3 ?_ hcut hI1 hI2 hI3 hI4 hI5 ?_ ?_ ?_ ?_ ?_ ?_ ?_ ?_ ?_ ?_ ?_ ?_ ?_ ?_ ?_ ?_
  · rw [IntWalk.i64_in _ (by omega)]; omega
  · rw [hlast]; exact hwh
  · intro h0
    rw [if_pos (by omega)] at htx
    refine ⟨_, _, fun w => add_bl _ [46] _ ⟨#[46]⟩ rfl rfl (by simp; omega) w, hcuti, fun w => ?_⟩
    rw [add_bl ((whO (D.take W) (cmB c8) (decide (D.length = W)) W W).1 ++ [46]) (D.drop W) _ _ rfl rfl (by simp; omega) w, List.append_assoc]
    show Result.ok (Value.string (BL (_ ++ 46 :: D.drop W))) w = _
    rw [htx]
  · intro h0
    rw [if_neg (by omega), List.append_nil] at htx
    rw [htx]
  · intro h1 h2 w
    rw [h1, if_pos rfl, if_pos h2]
    exact add_bl _ [67, 82] _ ⟨#[67, 82]⟩ rfl rfl (by simp; omega) w
  · intro h1 h2 w
    rw [h1, if_pos rfl, if_neg h2]
    exact add_bl _ [32, 32] _ ⟨#[32, 32]⟩ rfl rfl (by simp; omega) w
  · intro h1
    rw [h1, if_neg (show ¬ (false = true) by simp), List.append_nil]
  · intro h1 h2 w
    rw [h1, if_pos rfl, show (if n < 0 then ([45] : List UInt8) else [32]) = [45] from if_pos h2]
    exact add_bl (txL D (cmB c8) W ++ (if bA then (if n < 0 then [67, 82] else [32, 32]) else [])) [45] _ ⟨#[45]⟩ rfl rfl (by simp only [List.length_singleton]; omega) w
  · intro h1 h2 w
    rw [h1, if_pos rfl, show (if n < 0 then ([45] : List UInt8) else [32]) = [32] from if_neg h2]
    exact add_bl (txL D (cmB c8) W ++ (if bA then (if n < 0 then [67, 82] else [32, 32]) else [])) [32] _ ⟨#[32]⟩ rfl rfl (by simp only [List.length_singleton]; omega) w
  · intro h1
    rw [h1, if_neg (show ¬ (false = true) by simp), List.append_nil]
  · intro h1 h2 w
    have hr := bRep_any 32 32 rfl ((spT D (cmB c8) W D.length).length + (bhL c8).length) ((BL (txL D (cmB c8) W ++ (if bA then (if n < 0 then [67, 82] else [32, 32]) else []) ++ (if bJ then (if n < 0 then [45] else [32]) else []))).size : Int) (by rw [BL_size, hbl2]) (by omega) w
    have e := hsig
    rw [if_pos (show n = 0 ∧ (!zpB c8) = true from ⟨h1, h2⟩)] at e
    rw [e]
    exact hr
  · intro h
    have e := hsig
    rw [if_neg h] at e
    rw [e]
  · intro h w
    subst h
    have e : frL c8 (decide (n < 0)) 2 (bodyL D W c8 (decide (n < 0)) (decide (n = 0))) = flL (bodyL D W c8 (decide (n < 0)) (decide (n = 0))) 36 := by
      unfold frL; rw [hld (by decide)]; simp
    rw [e]
    exact hfl 36 36 rfl w
  · intro h w
    subst h
    have e : frL c8 (decide (n < 0)) 1 (bodyL D W c8 (decide (n < 0)) (decide (n = 0))) = stL (bodyL D W c8 (decide (n < 0)) (decide (n = 0))) := by
      unfold frL; rw [hld (by decide)]; simp
    rw [e]
    exact hst w
  · intro _ _ h1 h2 w
    have e : frL c8 (decide (n < 0)) f (bodyL D W c8 (decide (n < 0)) (decide (n = 0))) = flL (bodyL D W c8 (decide (n < 0)) (decide (n = 0))) 45 := by
      unfold frL; rw [h1]; simp [h2]
    rw [e]
    exact hfl 45 45 rfl w
  · intro _ _ h1 h2 w
    have e : frL c8 (decide (n < 0)) f (bodyL D W c8 (decide (n < 0)) (decide (n = 0))) = 32 :: bodyL D W c8 (decide (n < 0)) (decide (n = 0)) := by
      unfold frL; rw [h1]; simp [h2]
    rw [e]
    exact add_bl [32] _ ⟨#[32]⟩ _ rfl rfl (by simp; omega) w
  · intro h1 h2 h3
    have e : frL c8 (decide (n < 0)) f (bodyL D W c8 (decide (n < 0)) (decide (n = 0))) = bodyL D W c8 (decide (n < 0)) (decide (n = 0)) := by
      unfold frL; rw [h3]; simp [h1, h2]
    rw [e]
set_option maxHeartbeats 2000000 in
theorem refEdited_core (k l s n c f E1 E2 : Int) (x R : ByteArray) (w : World)
    (h1 : ∀ w, Calls Tryz.prog 13 #[.agg #[.int .i64 k, .int .i64 l, .int .i64 s], .agg #[.int .u8 c, .int .i64 f]] w fun e w' => e = .returned (.int .i64 E1) ∧ Gr w w')
    (h2 : ∀ w, Calls Tryz.prog 25 #[.agg #[.int .i64 k, .int .i64 l, .int .i64 s], .agg #[.int .i64 n, .string x]] w fun e w' => e = .returned (.int .i64 E2) ∧ Gr w w')
    (h3 : E1 = 0 → E2 = 0 → ∀ w, Calls Tryz.prog 32 #[.agg #[.int .i64 k, .int .i64 l, .int .i64 s], .int .i64 n, .agg #[.int .u8 c, .int .i64 f]] w fun e w' => e = .returned (.string R) ∧ Gr w w') :
    Calls Tryz.prog 16 #[.agg #[.int .i64 k, .int .i64 l, .int .i64 s], .agg #[.int .i64 n, .string x], .agg #[.int .u8 c, .int .i64 f]] w (EdR (if E1 ≠ 0 then ⟨#[]⟩ else if E2 ≠ 0 then ⟨#[]⟩ else R) (if E1 ≠ 0 then E1 else E2) w) := by
  by_cases g1 : E1 = 0
  · subst g1
    by_cases g2 : E2 = 0
    · subst g2
      replace h3 := h3 rfl rfl
      rw [if_neg (by simp), if_neg (by simp), if_neg (by simp)]
      go_enter Tryz.func16, Tryz.ntmps16
      go_wp2_with (first | (go_at_call 13; (with_reducible refine (h1 _).mono ?_); rintro e w1 ⟨rfl, hb⟩; obtain ⟨hc, hf⟩ := gcells hb (w.heap.size + 3) (by first | exact hz | omega | (simp; done) | (simp; omega)); have hz : w.heap.size + 3 ≤ w1.heap.size := (by have h := hb.size; (try simp at h); omega); have hz0 : w.heap.size < w1.heap.size := (by omega)) | (go_at_call 25; (with_reducible refine (h2 _).mono ?_); rintro e w1 ⟨rfl, hb⟩; obtain ⟨hc, hf⟩ := gcells hb (w.heap.size + 3) (by first | exact hz | omega | (simp; done) | (simp; omega)); have hz : w.heap.size + 3 ≤ w1.heap.size := (by have h := hb.size; (try simp at h); omega); have hz0 : w.heap.size < w1.heap.size := (by omega)) | (go_at_call 32; (with_reducible refine (h3 _).mono ?_); rintro e w1 ⟨rfl, hb⟩; obtain ⟨hc, hf⟩ := gcells hb (w.heap.size + 3) (by first | exact hz | omega | (simp; done) | (simp; omega)); have hz : w.heap.size + 3 ≤ w1.heap.size := (by have h := hb.size; (try simp at h); omega); have hz0 : w.heap.size < w1.heap.size := (by omega)))
      refine bodyPost_ret (v := .tuple #[.string R, .int .i64 0]) (by simp [results, Tryz.results16, go_sem, *]) rfl ?_
      exact ⟨rfl, (by repeat (first | (with_reducible exact Gr.refl _) | (with_reducible assumption) | (with_reducible refine Gr.alloc ?_ _) | (with_reducible refine Gr.drew ?_) | (with_reducible refine Gr.drewN ?_ _) | (with_reducible refine Gr.setCell ?_ (by simp <;> omega) _) | (with_reducible refine Gr.trans ?_ (by with_reducible assumption)) | exact Gr.refl _ | assumption | refine Gr.alloc ?_ _ | refine Gr.drew ?_ | refine Gr.drewN ?_ _ | refine Gr.setCell ?_ (by simp <;> omega) _ | refine Gr.trans ?_ (by assumption)))⟩
    · have b2 : (E2 != 0) = true := by simp [g2]
      rw [if_neg (by simp), if_pos g2, if_neg (by simp)]
      clear h3 g2
      go_enter Tryz.func16, Tryz.ntmps16
      go_wp2_with (first | (go_at_call 13; (with_reducible refine (h1 _).mono ?_); rintro e w1 ⟨rfl, hb⟩; obtain ⟨hc, hf⟩ := gcells hb (w.heap.size + 3) (by first | exact hz | omega | (simp; done) | (simp; omega)); have hz : w.heap.size + 3 ≤ w1.heap.size := (by have h := hb.size; (try simp at h); omega); have hz0 : w.heap.size < w1.heap.size := (by omega)) | (go_at_call 25; (with_reducible refine (h2 _).mono ?_); rintro e w1 ⟨rfl, hb⟩; obtain ⟨hc, hf⟩ := gcells hb (w.heap.size + 3) (by first | exact hz | omega | (simp; done) | (simp; omega)); have hz : w.heap.size + 3 ≤ w1.heap.size := (by have h := hb.size; (try simp at h); omega); have hz0 : w.heap.size < w1.heap.size := (by omega)))
      refine bodyPost_ret (v := .tuple #[.string ⟨#[]⟩, .int .i64 E2]) (by simp [results, Tryz.results16, go_sem, *]) rfl ?_
      exact ⟨rfl, (by repeat (first | (with_reducible exact Gr.refl _) | (with_reducible assumption) | (with_reducible refine Gr.alloc ?_ _) | (with_reducible refine Gr.drew ?_) | (with_reducible refine Gr.drewN ?_ _) | (with_reducible refine Gr.setCell ?_ (by simp <;> omega) _) | (with_reducible refine Gr.trans ?_ (by with_reducible assumption)) | exact Gr.refl _ | assumption | refine Gr.alloc ?_ _ | refine Gr.drew ?_ | refine Gr.drewN ?_ _ | refine Gr.setCell ?_ (by simp <;> omega) _ | refine Gr.trans ?_ (by assumption)))⟩
  · have b1 : (E1 != 0) = true := by simp [g1]
    rw [if_pos g1, if_pos g1]
    clear h3 g1 h2
    go_enter Tryz.func16, Tryz.ntmps16
    go_wp2_with ((go_at_call 13; (with_reducible refine (h1 _).mono ?_); rintro e w1 ⟨rfl, hb⟩; obtain ⟨hc, hf⟩ := gcells hb (w.heap.size + 3) (by first | exact hz | omega | (simp; done) | (simp; omega)); have hz : w.heap.size + 3 ≤ w1.heap.size := (by have h := hb.size; (try simp at h); omega); have hz0 : w.heap.size < w1.heap.size := (by omega)))
    refine bodyPost_ret (v := .tuple #[.string ⟨#[]⟩, .int .i64 E1]) (by simp [results, Tryz.results16, go_sem, *]) rfl ?_
    exact ⟨rfl, (by repeat (first | (with_reducible exact Gr.refl _) | (with_reducible assumption) | (with_reducible refine Gr.alloc ?_ _) | (with_reducible refine Gr.drew ?_) | (with_reducible refine Gr.drewN ?_ _) | (with_reducible refine Gr.setCell ?_ (by simp <;> omega) _) | (with_reducible refine Gr.trans ?_ (by with_reducible assumption)) | exact Gr.refl _ | assumption | refine Gr.alloc ?_ _ | refine Gr.drew ?_ | refine Gr.drewN ?_ _ | refine Gr.setCell ?_ (by simp <;> omega) _ | refine Gr.trans ?_ (by assumption)))⟩
/-- Text of a value that fits, by a right type and code. -/
theorem refText_ok (k l s n f : Int) (c8 : UInt8) (c : Int) (hc : c = c8.toNat) (h1 : ckC k l s c8 f = 0) (hfit : fitsB n l = true) (w : World) :
    Calls Tryz.prog 32 #[.agg #[.int .i64 k, .int .i64 l, .int .i64 s], .int .i64 n, .agg #[.int .u8 c, .int .i64 f]] w fun e w' => e = .returned (.string (BL (edX l s n c8 f))) ∧ Gr w w' := by
  obtain ⟨t1, t2, hcd, f0, f1, hf, h89⟩ := ck_right h1
  obtain ⟨l0, l1, s0, s1, hk⟩ := num_right t1 t2
  obtain ⟨d1, d2⟩ := fits_len hfit l0 l1
  have hl : ((l.toNat : Nat) : Int) = l := by omega
  have h := refText_any k s n f c8 c n.natAbs (l - s).toNat l.toNat hc rfl (by omega) (by omega) (by omega) (by omega) d1 d2 hcd (by intro e; have := (h89 e).1; omega) hf w
  rw [hl] at h
  exact h
theorem refEdited_any (k l s n f : Int) (x : ByteArray) (c8 : UInt8) (c : Int) (hc : c = c8.toNat) (w : World) :
    Calls Tryz.prog 16 #[.agg #[.int .i64 k, .int .i64 l, .int .i64 s], .agg #[.int .i64 n, .string x], .agg #[.int .u8 c, .int .i64 f]] w (EdR (edT k l s n x c8 f) (edE k l s n x c8 f) w) := by
  refine refEdited_core k l s n c f _ _ x _ w (refErr_any k l s f c8 c hc) (ValueErr_any k l s n x) ?_
  intro h1 h2 w
  obtain ⟨t1, t2, -⟩ := ck_right h1
  obtain ⟨l0, l1, s0, s1, hk⟩ := num_right t1 t2
  exact refText_ok k l s n f c8 c hc h1 (val_fits h2 t1 hk).2 w
theorem fits_zero {l : Int} (h0 : 1 ≤ l) (h1 : l ≤ 15) : fitsB 0 l = true := by
  have := p10_bd l (by omega)
  unfold fitsB most
  simp; omega
set_option maxHeartbeats 1000000 in
theorem refWidth_core (k l s c f : Int) (R : ByteArray) (w : World)
    (h3 : ∀ w, Calls Tryz.prog 32 #[.agg #[.int .i64 k, .int .i64 l, .int .i64 s], .int .i64 0, .agg #[.int .u8 c, .int .i64 f]] w fun e w' => e = .returned (.string R) ∧ Gr w w') :
    Calls Tryz.prog 14 #[.agg #[.int .i64 k, .int .i64 l, .int .i64 s], .agg #[.int .u8 c, .int .i64 f]] w fun e w' => e = .returned (.int .i64 (R.size : Int)) ∧ Gr w w' := by
  go_enter Tryz.func14, Tryz.ntmps14
  go_wp2_with ((go_at_call 32; (with_reducible refine (h3 _).mono ?_); rintro e w1 ⟨rfl, hb⟩; obtain ⟨hc, hf⟩ := gcells hb (w.heap.size + 2) (by first | exact hz | omega | (simp; done) | (simp; omega)); have hz : w.heap.size + 2 ≤ w1.heap.size := (by have h := hb.size; (try simp at h); omega); have hz0 : w.heap.size < w1.heap.size := (by omega)))
  go_ret
  exact ⟨rfl, (by repeat (first | (with_reducible exact Gr.refl _) | (with_reducible assumption) | (with_reducible refine Gr.alloc ?_ _) | (with_reducible refine Gr.drew ?_) | (with_reducible refine Gr.drewN ?_ _) | (with_reducible refine Gr.setCell ?_ (by simp <;> omega) _) | (with_reducible refine Gr.trans ?_ (by with_reducible assumption)) | exact Gr.refl _ | assumption | refine Gr.alloc ?_ _ | refine Gr.drew ?_ | refine Gr.drewN ?_ _ | refine Gr.setCell ?_ (by simp <;> omega) _ | refine Gr.trans ?_ (by assumption)))⟩
theorem refWidth_ok (k l s f : Int) (c8 : UInt8) (c : Int) (hc : c = c8.toNat) (h1 : ckC k l s c8 f = 0) (w : World) :
    Calls Tryz.prog 14 #[.agg #[.int .i64 k, .int .i64 l, .int .i64 s], .agg #[.int .u8 c, .int .i64 f]] w fun e w' => e = .returned (.int .i64 (wdW k l s c8 f)) ∧ Gr w w' := by
  obtain ⟨t1, t2, -⟩ := ck_right h1
  obtain ⟨l0, l1, s0, s1, hk⟩ := num_right t1 t2
  have h := refWidth_core k l s c f _ w (refText_ok k l s 0 f c8 c hc h1 (fits_zero l0 l1))
  unfold wdW
  rw [if_neg (by omega)]
  exact h
end Go.Proofs.YtmdpejllbalnnaaGreatDoor
