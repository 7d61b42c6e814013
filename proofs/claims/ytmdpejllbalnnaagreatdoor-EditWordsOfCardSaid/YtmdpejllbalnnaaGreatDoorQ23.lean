/- Texts of the walks, merged. -/
import Derived.Test.YtmdpejllbalnnaaGreatDoorQ22
import Derived.Test.YtmdpejllbalnnaaGreatDoorQ17
namespace Go.Proofs.YtmdpejllbalnnaaGreatDoor
set_option linter.unusedSimpArgs false
set_option linter.unusedVariables false
open Go.RowKit

theorem wc_all (c : UInt8) : ((0 ≤ ixA c ∨ c = 88 ∨ c = 89 ∨ c = 90) → gwB c = false → hasB [78, 79, 80, 81, 88, 89, 90] c = true) ∧
    (gwB c = true → hasB [78, 79, 80, 81, 88, 89, 90] c = false ∧ hasB [50, 52, 66, 68, 75, 77] c = !zpB c ∧ hasB [49, 50, 65, 66, 74, 75] c = cmB c ∧ hasB [65, 66, 67, 68] c = decide (4 ≤ ixA c ∧ ixA c < 8) ∧ hasB [74, 75, 76, 77] c = decide (8 ≤ ixA c ∧ ixA c < 12)) :=
  u8_all (P := fun c => ((0 ≤ ixA c ∨ c = 88 ∨ c = 89 ∨ c = 90) → gwB c = false → hasB [78, 79, 80, 81, 88, 89, 90] c = true) ∧
    (gwB c = true → hasB [78, 79, 80, 81, 88, 89, 90] c = false ∧ hasB [50, 52, 66, 68, 75, 77] c = !zpB c ∧ hasB [49, 50, 65, 66, 74, 75] c = cmB c ∧ hasB [65, 66, 67, 68] c = decide (4 ≤ ixA c ∧ ixA c < 8) ∧ hasB [74, 75, 76, 77] c = decide (8 ≤ ixA c ∧ ixA c < 12))) (by decide +kernel) c
theorem wdB_at {l s f : Int} {c : UInt8} (hs : 0 ≤ s) (hl : 1 ≤ l) (hw : hwB l s c f = true) (q : Nat) (hq : q < l.toNat) :
    dAt (wdB l s c f) q = if ((q : Int) == (if (!zpB c) = true then -1 else spI l s)) then (if (f == 1) then 42 else 48) else 32 := by
  obtain ⟨w1, w2, w3, w4⟩ := hw_right hw
  unfold wdB
  cases hz : zpB c
  · have : ((q : Int) == -1) = false := by simp
    simp [dAt, List.getD_eq_getElem?_getD, hq, this]
  · obtain ⟨z1, z2⟩ := w3 hz
    have hsp : 0 ≤ spI l s ∧ spI l s < l := by unfold spI; split <;> omega
    simp only [if_true, Bool.not_true, Bool.false_eq_true, if_false]
    have e : stC f = if (f == 1) = true then 42 else 48 := by unfold stC; simp
    rw [← e]
    by_cases h : (q : Int) = spI l s
    · have h2 : (spI l s).toNat = q := by omega
      rw [h2, h, beq_self_eq_true, if_pos rfl]
      simp [dAt, List.getD_eq_getElem?_getD, hq]
    · have h2 : ¬ (spI l s).toNat = q := by omega
      rw [beq_eq_false_iff_ne.2 h, if_neg (by simp)]
      simp [dAt, List.getD_eq_getElem?_getD, List.getElem?_set, h2, hq]
theorem wdL_R {l s f : Int} {c : UInt8} (hs : 0 ≤ s) (hsl : s ≤ l) (hl : 1 ≤ l) (hw : hwB l s c f = true) :
    wdL l s c f = spT (wdB l s c f) (cmB c) (l - s).toNat (l - s).toNat ++ (if 0 < s then [46] ++ List.replicate s.toNat 32 else []) ++ (if decide (4 ≤ ixA c ∧ ixA c < 8) = true then [67, 82] else if decide (8 ≤ ixA c ∧ ixA c < 12) = true then [45] else []) := by
  unfold wdL bhL
  congr 1
  · by_cases h : 0 < s
    · rw [if_pos h]
      have e : l.toNat = (l - s).toNat + (s.toNat - 1) + 1 := by omega
      rw [e, spT_behind]
      congr 1
      have hr : (List.range (s.toNat - 1 + 1)).map (fun j => dAt (wdB l s c f) ((l - s).toNat + j)) = List.replicate s.toNat 32 := by
        rw [List.eq_replicate_iff]
        refine ⟨by simp; omega, ?_⟩
        intro b hb
        obtain ⟨j, hj, rfl⟩ := List.mem_map.1 hb
        have hj2 : j < s.toNat - 1 + 1 := List.mem_range.1 hj
        rw [wdB_at hs hl hw _ (by omega)]
        have hne : ¬ ((((l - s).toNat + j : Nat) : Int) = (if (!zpB c) = true then -1 else spI l s)) := by
          split
          · omega
          · unfold spI; split <;> omega
        rw [beq_eq_false_iff_ne.2 hne, if_neg (by simp)]
      rw [hr]; rfl
    · rw [if_neg h, List.append_nil]
      have e : l.toNat = (l - s).toNat := by omega
      rw [e]
  · simp only [decide_eq_true_eq]
theorem refWord_any (k l s f : Int) (c8 : UInt8) (c : Int) (hc : c = c8.toNat) (w : World) :
    Calls Tryz.prog 24 #[.agg #[.int .i64 k, .int .i64 l, .int .i64 s], .agg #[.int .u8 c, .int .i64 f]] w (EdR (wdT k l s c8 f) (wdE k l s c8 f) w) := by
  have hErr := refErr_any k l s f c8 c hc
  have hBl := in_any [50, 52, 66, 68, 75, 77] (by decide) c8 c hc
  have hNf := in_any [78, 79, 80, 81, 88, 89, 90] (by decide) c8 c hc
  have h12 := in_any [49, 50, 65, 66, 74, 75] (by decide) c8 c hc
  have hCr := in_any [65, 66, 67, 68] (by decide) c8 c hc
  have hMi := in_any [74, 75, 76, 77] (by decide) c8 c hc
  obtain ⟨q1, q2⟩ := wc_all c8
  unfold wdT wdE
  by_cases hck : ckC k l s c8 f = 0
  · have hk0 : ¬ ckC k l s c8 f ≠ 0 := by omega
    rw [if_neg hk0, if_neg hk0]
    rw [hck] at hErr
    obtain ⟨t1, t2, hcd, f0, f1, hf, h89⟩ := ck_right hck
    obtain ⟨l0, l1, s0, s1, hk⟩ := num_right t1 t2
    by_cases hw : hwB l s c8 f = false
    · rw [if_pos hw, if_pos hw]
      refine refWord_b k l s c f 0 _ _ hErr hBl hNf rfl (f == 2) (s == l) (l == 1) (decide (0 < s)) (f == 1) rfl rfl rfl rfl rfl ?_ w
      unfold hwB at hw
      cases hg : gwB c8
      · rw [q1 hcd hg]; simp
      · obtain ⟨r1, r2, -, -, -⟩ := q2 hg
        rw [r1, r2]
        rw [hg] at hw
        cases hz : zpB c8
        · rw [hz] at hw
          simp at hw ⊢
          omega
        · rw [hz] at hw
          simp at hw ⊢
          omega
    · have hw' : hwB l s c8 f = true := by simpa using hw
      rw [if_neg hw, if_neg hw]
      obtain ⟨w1, w2, w3, w4⟩ := hw_right hw'
      obtain ⟨r1, r2, r3, r4, r5⟩ := q2 w2
      rw [r1] at hNf
      rw [r2] at hBl
      rw [r3] at h12
      rw [r4] at hCr
      rw [r5] at hMi
      refine refWord_c k l s c f 0 _ _ hErr hBl hNf _ _ _ h12 hCr hMi rfl rfl (s == l) (l == 1) (decide (0 < s)) (f == 1) (by simp [w1]) rfl rfl rfl rfl ?_ (l - s).toNat s.toNat (by omega) (by omega) l0 l1 (wdB l s c8 f) _ rfl
        (fun q hq => wdB_at s0 l0 hw' q (by omega)) ?_ (wdL l s c8 f) (wdL_R s0 s1 l0 hw') w
      · cases hz : zpB c8
        · obtain ⟨z1, z2⟩ := w4 hz
          right; simp [z1, z2]
        · obtain ⟨z1, z2⟩ := w3 hz
          left
          refine ⟨rfl, ?_, ?_⟩
          · simp; omega
          · simp; omega
      · intro h
        simp at h ⊢
        omega
  · rw [if_pos hck, if_pos hck]
    exact refWord_a k l s c f _ hErr hck w
end Go.Proofs.YtmdpejllbalnnaaGreatDoor
namespace Go.Proofs.YtmdpejllbalnnaaGreatDoor
set_option linter.unusedSimpArgs false
set_option linter.unusedVariables false
open Go.RowKit

set_option maxHeartbeats 4000000 in
set_option maxRecDepth 100000 in
theorem awake_any (w : World) (hw : PW w) : Calls Tryz.prog 11 #[] w fun e w' => e = .returned (.bool true) ∧ Gr w w' := by
  have h1 : ∀ w, PW w → Calls Tryz.prog 15 #[.agg #[.int .i64 2, .int .i64 7, .int .i64 2], .agg #[.int .i64 (-123450), .string ⟨#[]⟩], .agg #[.int .u8 74, .int .i64 0]] w (EdR ⟨#[32, 49, 44, 50, 51, 52, 46, 53, 48, 45]⟩ 0 w) := fun w h => by
    have h2 := Edited_any 2 7 2 (-123450) 0 ⟨#[]⟩ 74 74 rfl w h.1
    rw [show edT 2 7 2 (-123450) ⟨#[]⟩ 74 0 = ⟨#[32, 49, 44, 50, 51, 52, 46, 53, 48, 45]⟩ by decide +kernel, show edE 2 7 2 (-123450) ⟨#[]⟩ 74 0 = 0 by decide +kernel] at h2
    exact h2
  have h3 : ∀ w, PW w → Calls Tryz.prog 19 #[.agg #[.int .i64 2, .int .i64 5, .int .i64 0], .agg #[.int .i64 (-12345), .string ⟨#[]⟩], .string ⟨#[32, 32, 48, 46, 32, 32, 67, 82]⟩] w (EdR ⟨#[49, 50, 51, 46, 52, 53, 67, 82]⟩ 0 w) := fun w h => by
    have h2 := EditedBy_any 2 5 0 (-12345) ⟨#[]⟩ [32, 32, 48, 46, 32, 32, 67, 82] w h
    rw [show ebT 2 5 0 (-12345) ⟨#[]⟩ [32, 32, 48, 46, 32, 32, 67, 82] = ⟨#[49, 50, 51, 46, 52, 53, 67, 82]⟩ by decide +kernel, show ebE 2 5 0 (-12345) ⟨#[]⟩ [32, 32, 48, 46, 32, 32, 67, 82] = 0 by decide +kernel] at h2
    exact h2
  have HW := Lib.hid hw
  clear hw
  go_enter Tryz.func11, Tryz.ntmps11
  go_wp2_with (first | go_at_call 15; (with_reducible refine (h1 _ HW.out).mono ?_); rintro e wA ⟨rfl, hbA⟩ | go_at_call 19; (with_reducible refine (h3 _ (HW.out.gr hbA)).mono ?_); rintro e wB ⟨rfl, hbB⟩)
  go_ret
  exact ⟨rfl, hbA.trans hbB⟩
end Go.Proofs.YtmdpejllbalnnaaGreatDoor
