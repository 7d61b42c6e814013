/- Texts of the walks, merged. -/
import Derived.Test.YtmdpejllbalnnaaGreatDoorQ09
import Derived.Test.YtmdpejllbalnnaaGreatDoorQ03
import Derived.BigQuiet
namespace Go.Proofs.YtmdpejllbalnnaaGreatDoor
set_option linter.unusedSimpArgs false
set_option linter.unusedVariables false
open Go.RowKit

theorem rep_any (c : UInt8) (j : Nat) (hj : j ≤ 4096) (w : World) :
    Calls Tryz.prog 78 #[.string ⟨#[c]⟩, .int .i64 j] w fun e w' => e = .returned (.string (BL (List.replicate j c))) ∧ Gr w w' := by
  refine (Tryz.strings_Repeat ⟨#[c]⟩ j w (by omega) (by show 1 * j ≤ _; omega)).mono fun e w' ⟨a, b⟩ => ⟨?_, b⟩
  rw [a]
  have h := Lib.repeatL_replicate c 1 j
  rw [show List.replicate 1 c = [c] from rfl, Nat.mul_one] at h
  show Ending.returned (.string (⟨(Lib.repeatL [c] j).toArray⟩ : ByteArray)) = _
  rw [h]; rfl
theorem blanks_any (n : Int) (j : Nat) (hn : n = j) (hj : j ≤ 4096) (w : World) :
    Calls Tryz.prog 49 #[.int .i64 n] w fun e w' => e = .returned (.string (BL (List.replicate j 32))) ∧ Gr w w' := by
  have hr : ∀ w, Calls Tryz.prog 78 #[.string ⟨#[32]⟩, .int .i64 n] w fun e w' => e = .returned (.string (BL (List.replicate j 32))) ∧ Gr w w' := fun w => by rw [hn]; exact rep_any 32 j hj w
  generalize BL (List.replicate j 32) = Z at *
  clear hn hj
  go_enter Tryz.func49, Tryz.ntmps49
  go_wp2_with (go_at_call 78; (with_reducible refine (hr _).mono ?_); rintro e w1 ⟨rfl, hb⟩)
  go_ret
  exact ⟨rfl, (by repeat (first | (with_reducible exact Gr.refl _) | (with_reducible assumption) | (with_reducible refine Gr.alloc ?_ _) | (with_reducible refine Gr.drew ?_) | (with_reducible refine Gr.drewN ?_ _) | (with_reducible refine Gr.setCell ?_ (by simp <;> omega) _) | (with_reducible refine Gr.trans ?_ (by with_reducible assumption)) | exact Gr.refl _ | assumption | refine Gr.alloc ?_ _ | refine Gr.drew ?_ | refine Gr.drewN ?_ _ | refine Gr.setCell ?_ (by simp <;> omega) _ | refine Gr.trans ?_ (by assumption)))⟩
theorem isAmount_any (c8 : UInt8) (c : Int) (hc : c = c8.toNat) (w : World) :
    Calls Tryz.prog 82 #[.int .u8 c] w fun e w' => e = .returned (.bool (decide (0 ≤ ixA c8))) ∧ Gr w w' := by
  have hI := ib_any amL ⟨#[49, 50, 51, 52, 65, 66, 67, 68, 74, 75, 76, 77, 78, 79, 80, 81]⟩ rfl c8 c hc
  unfold ixA
  generalize Lib.indexByte amL c8 = i at *
  clear hc
  go_enter Tryz.func82, Tryz.ntmps82
  go_wp2_with (go_at_call 57; (with_reducible refine (hI _).mono ?_); rintro e w1 ⟨rfl, rfl⟩)
  go_ret
  exact ⟨by simp [go_sem], (by repeat (first | (with_reducible exact Gr.refl _) | (with_reducible assumption) | (with_reducible refine Gr.alloc ?_ _) | (with_reducible refine Gr.drew ?_) | (with_reducible refine Gr.drewN ?_ _) | (with_reducible refine Gr.setCell ?_ (by simp <;> omega) _) | (with_reducible refine Gr.trans ?_ (by with_reducible assumption)) | exact Gr.refl _ | assumption | refine Gr.alloc ?_ _ | refine Gr.drew ?_ | refine Gr.drewN ?_ _ | refine Gr.setCell ?_ (by simp <;> omega) _ | refine Gr.trans ?_ (by assumption)))⟩
theorem style2 (a b c : Bool) (x : ByteArray) (w : World) : (Instr.field 78 (.agg #[.bool a, .bool b, .bool c, .string x]) 2).run Tryz.prog w = .ok (.bool c) w := by
  kernel_rfl
set_option maxHeartbeats 1000000 in
set_option maxRecDepth 100000 in
theorem goesWithFill_any (c8 : UInt8) (c : Int) (hc : c = c8.toNat) (w : World) :
    Calls Tryz.prog 58 #[.int .u8 c] w fun e w' => e = .returned (.bool (gwB c8)) ∧ Gr w w' := by
  have hA := isAmount_any c8 c hc
  have hI := ib_any amL ⟨#[49, 50, 51, 52, 65, 66, 67, 68, 74, 75, 76, 77, 78, 79, 80, 81]⟩ rfl c8 c hc
  have hlt : ixA c8 < 16 := by have h := codeB_all c8; unfold codeB at h; simp only [Bool.and_eq_true, decide_eq_true_eq] at h; exact h.2.2
  have hS := fun h0 => styleOf_core c (ixA c8) h0 hlt hI
  unfold gwB
  generalize ixA c8 = i at *
  clear hc
  by_cases h0 : 0 ≤ i
  · replace hS := hS h0
    by_cases h12 : 12 ≤ i
    · have E := Lib.hid (show (decide (0 ≤ i) && !decide (12 ≤ i)) = false by simp [h0, h12])
      have hd : decide (0 ≤ i) = true := by simp [h0]
      have hS2 : ∀ w, Calls Tryz.prog 48 #[.int .u8 c] w fun e w' => e = .returned (.agg #[.bool (decide (i % 4 < 2)), .bool (decide (i % 2 = 0)), .bool true, .string ⟨#[]⟩]) ∧ Gr w w' := fun w => by
        have := hS w; unfold stV at this; rw [show decide (12 ≤ i) = true by simp [h12], if_neg (by omega), if_neg (by omega)] at this; exact this
      clear hS hI h0 h12
      have hF := fun a b c x w => style2 a b c x w
      rw [hd] at hA
      go_enter Tryz.func58, Tryz.ntmps58
      go_wp2_with (first | go_at_call 82; (with_reducible refine (hA _).mono ?_); rintro e w1 ⟨rfl, hb⟩ | go_at_call 48; (with_reducible refine (hS2 _).mono ?_); rintro e w2 ⟨rfl, hb2⟩)
      go_ret
      exact ⟨by rw [E.out]; rfl, (by repeat (first | (with_reducible exact Gr.refl _) | (with_reducible assumption) | (with_reducible refine Gr.alloc ?_ _) | (with_reducible refine Gr.drew ?_) | (with_reducible refine Gr.drewN ?_ _) | (with_reducible refine Gr.setCell ?_ (by simp <;> omega) _) | (with_reducible refine Gr.trans ?_ (by with_reducible assumption)) | exact Gr.refl _ | assumption | refine Gr.alloc ?_ _ | refine Gr.drew ?_ | refine Gr.drewN ?_ _ | refine Gr.setCell ?_ (by simp <;> omega) _ | refine Gr.trans ?_ (by assumption)))⟩
    · have E := Lib.hid (show (decide (0 ≤ i) && !decide (12 ≤ i)) = true by simp [h0, h12])
      have hd : decide (0 ≤ i) = true := by simp [h0]
      obtain ⟨z, hz⟩ : ∃ z, stV i = .agg #[.bool (decide (i % 4 < 2)), .bool (decide (i % 2 = 0)), .bool false, .string z] := ⟨_, by unfold stV; rw [show decide (12 ≤ i) = false by simp [h12]]⟩
      rw [hz] at hS
      rw [hd] at hA
      clear hI h0 h12 hz
      have hF := fun a b c x w => style2 a b c x w
      go_enter Tryz.func58, Tryz.ntmps58
      go_wp2_with (first | go_at_call 82; (with_reducible refine (hA _).mono ?_); rintro e w1 ⟨rfl, hb⟩ | go_at_call 48; (with_reducible refine (hS _).mono ?_); rintro e w2 ⟨rfl, hb2⟩)
      go_ret
      exact ⟨by rw [E.out]; rfl, (by repeat (first | (with_reducible exact Gr.refl _) | (with_reducible assumption) | (with_reducible refine Gr.alloc ?_ _) | (with_reducible refine Gr.drew ?_) | (with_reducible refine Gr.drewN ?_ _) | (with_reducible refine Gr.setCell ?_ (by simp <;> omega) _) | (with_reducible refine Gr.trans ?_ (by with_reducible assumption)) | exact Gr.refl _ | assumption | refine Gr.alloc ?_ _ | refine Gr.drew ?_ | refine Gr.drewN ?_ _ | refine Gr.setCell ?_ (by simp <;> omega) _ | refine Gr.trans ?_ (by assumption)))⟩
  · have E := Lib.hid (show (decide (0 ≤ i) && !decide (12 ≤ i)) = false by simp [h0])
    have hd : decide (0 ≤ i) = false := by simp [h0]
    rw [hd] at hA
    clear hS hI h0
    go_enter Tryz.func58, Tryz.ntmps58
    go_wp2_with (go_at_call 82; (with_reducible refine (hA _).mono ?_); rintro e w1 ⟨rfl, hb⟩)
    go_ret
    exact ⟨by rw [E.out]; rfl, (by repeat (first | (with_reducible exact Gr.refl _) | (with_reducible assumption) | (with_reducible refine Gr.alloc ?_ _) | (with_reducible refine Gr.drew ?_) | (with_reducible refine Gr.drewN ?_ _) | (with_reducible refine Gr.setCell ?_ (by simp <;> omega) _) | (with_reducible refine Gr.trans ?_ (by with_reducible assumption)) | exact Gr.refl _ | assumption | refine Gr.alloc ?_ _ | refine Gr.drew ?_ | refine Gr.drewN ?_ _ | refine Gr.setCell ?_ (by simp <;> omega) _ | refine Gr.trans ?_ (by assumption)))⟩
set_option maxHeartbeats 1000000 in
theorem digitsOf_any (k l s n : Int) (u L : Nat) (hu : u = n.natAbs) (hl : l = L) (hL : L ≤ 64) (hs : (dcS u).size ≤ L) (hn : u ≤ 1000000000000000000) (w : World) (hT : TabW w) :
    Calls Tryz.prog 60 #[.agg #[.int .i64 k, .int .i64 l, .int .i64 s], .int .i64 n] w fun e w' => e = .returned (.string (BL (dsL L u))) ∧ Gr w w' := by
  subst hl
  have HT := Lib.hid hT
  have hI : ∀ w, TabW w → Calls Tryz.prog 83 #[.int .i64 (max n (-n))] w fun e w' => e = .returned (.string (dcS u)) ∧ Gr w w' := fun w h => by
    have := Itoa_any (max n (-n)) (by omega) (by omega) w h
    rwa [show (max n (-n)).toNat = u by omega] at this
  have hneg : IntKind.i64.wrap (-n) = -n := IntWalk.i64_in _ (by omega)
  obtain ⟨m, hm⟩ : ∃ m : Nat, m = L - (dcS u).size := ⟨_, rfl⟩
  have hsub : IntKind.i64.wrap ((L : Int) - ((dcS u).size : Int)) = m := by rw [IntWalk.i64_in _ (by omega)]; omega
  have hZ := rep_any 48 m (by omega)
  have E := Lib.hid (show BL (List.replicate m 48) ++ dcS u = BL (dsL L u) by
    unfold dsL; rw [← hm, ← BL_append, BL_of])
  have hz : (BL (List.replicate m 48)).size + (dcS u).size ≤ 9223372036854775807 := by rw [BL_size, List.length_replicate]; omega
  have hadd := add_ss (BL (List.replicate m 48)) (dcS u) hz
  rw [E.out] at hadd
  clear hT hu hL hs hm E hz hn
  generalize BL (dsL L u) = R at *
  generalize BL (List.replicate m 48) = Z at *
  generalize dcS u = D at *
  go_enter Tryz.func60, Tryz.ntmps60
  go_wp2_with (first | (go_at_call 83; (with_reducible refine (hI _ (HT.out.gr (by repeat (first | (with_reducible exact Gr.refl _) | (with_reducible assumption) | (with_reducible refine Gr.alloc ?_ _) | (with_reducible refine Gr.drew ?_) | (with_reducible refine Gr.drewN ?_ _) | (with_reducible refine Gr.setCell ?_ (by simp <;> omega) _) | (with_reducible refine Gr.trans ?_ (by with_reducible assumption)) | exact Gr.refl _ | assumption | refine Gr.alloc ?_ _ | refine Gr.drew ?_ | refine Gr.drewN ?_ _ | refine Gr.setCell ?_ (by simp <;> omega) _ | refine Gr.trans ?_ (by assumption))))).mono ?_); rintro e w1 ⟨rfl, hb⟩; obtain ⟨hc, hf⟩ := gcells hb (w.heap.size + 1) (by first | exact hz | omega | (simp; done) | (simp; omega)); have hz : w.heap.size + 1 ≤ w1.heap.size := (by have h := hb.size; (try simp at h); omega); have hz0 : w.heap.size < w1.heap.size := (by omega)) | (go_at_call 78; (with_reducible refine (hZ _).mono ?_); rintro e w1 ⟨rfl, hb⟩; obtain ⟨hc, hf⟩ := gcells hb (w.heap.size + 1) (by first | exact hz | omega | (simp; done) | (simp; omega)); have hz : w.heap.size + 1 ≤ w1.heap.size := (by have h := hb.size; (try simp at h); omega); have hz0 : w.heap.size < w1.heap.size := (by omega)))
  go_ret
  exact ⟨rfl, (by repeat (first | (with_reducible exact Gr.refl _) | (with_reducible assumption) | (with_reducible refine Gr.alloc ?_ _) | (with_reducible refine Gr.drew ?_) | (with_reducible refine Gr.drewN ?_ _) | (with_reducible refine Gr.setCell ?_ (by simp <;> omega) _) | (with_reducible refine Gr.trans ?_ (by with_reducible assumption)) | exact Gr.refl _ | assumption | refine Gr.alloc ?_ _ | refine Gr.drew ?_ | refine Gr.drewN ?_ _ | refine Gr.setCell ?_ (by simp <;> omega) _ | refine Gr.trans ?_ (by assumption)))⟩
set_option maxHeartbeats 2000000 in
theorem checkCode_any (k l s f : Int) (c8 : UInt8) (c : Int) (hc : c = c8.toNat) (w : World) :
    Calls Tryz.prog 27 #[.agg #[.int .i64 k, .int .i64 l, .int .i64 s], .agg #[.int .u8 c, .int .i64 f]] w fun e w' => e = .returned (.int .i64 (ckC k l s c8 f)) ∧ Gr w w' := by
  have hN := edCheckNumeric_any k l s
  have hD := checkDate_any k l s
  have hI := ib_any allL ⟨#[49, 50, 51, 52, 65, 66, 67, 68, 74, 75, 76, 77, 78, 79, 80, 81, 88, 89, 90]⟩ rfl c8 c hc
  have hG := goesWithFill_any c8 c hc
  have h89 : decide (c8 = 89) = decide (c = 89) := by
    by_cases h : c8 = 89
    · subst h; rw [hc]; rfl
    · have : c ≠ 89 := fun e => h (by have : c8.toNat = 89 := by omega
                                      rw [← UInt8.toNat_inj]; exact this)
      simp [h, this]
  have hEq : ckC k l s c8 f = if ntE k l s ≠ 0 then ntE k l s else if Lib.indexByte allL c8 < 0 then 4 else if f < 0 ∨ 3 ≤ f then 3 else if f ≠ 0 ∧ gwB c8 = false then 15 else if c = 89 then dtE l s else 0 := by
    unfold ckC
    simp only [decide_eq_decide] at h89
    simp only [h89]
  rw [hEq]
  clear hEq h89 hc
  generalize Lib.indexByte allL c8 = i at *
  generalize gwB c8 = g at *
  generalize dtE l s = d at *
  by_cases h1 : ntE k l s = 0
  · rw [h1] at hN
    rw [if_neg (by omega)]
    by_cases h2 : i < 0
    · have b2 : decide (i < 0) = true := by simp [h2]
      rw [if_pos h2]
      clear h1 hD hG
      go_enter Tryz.func27, Tryz.ntmps27
      go_wp2_with (first | (go_at_call 56; (with_reducible refine (hN _).mono ?_); rintro e w1 ⟨rfl, hb⟩; obtain ⟨hc, hf⟩ := gcells hb (w.heap.size + 2) (by first | exact hz | omega | (simp; done) | (simp; omega)); have hz : w.heap.size + 2 ≤ w1.heap.size := (by have h := hb.size; (try simp at h); omega); have hz0 : w.heap.size < w1.heap.size := (by omega)) | (go_at_call 57; (with_reducible refine (hI _).mono ?_); rintro e w1 ⟨rfl, rfl⟩))
      go_ret
      exact ⟨rfl, (by repeat (first | (with_reducible exact Gr.refl _) | (with_reducible assumption) | (with_reducible refine Gr.alloc ?_ _) | (with_reducible refine Gr.drew ?_) | (with_reducible refine Gr.drewN ?_ _) | (with_reducible refine Gr.setCell ?_ (by simp <;> omega) _) | (with_reducible refine Gr.trans ?_ (by with_reducible assumption)) | exact Gr.refl _ | assumption | refine Gr.alloc ?_ _ | refine Gr.drew ?_ | refine Gr.drewN ?_ _ | refine Gr.setCell ?_ (by simp <;> omega) _ | refine Gr.trans ?_ (by assumption)))⟩
    · have b2 : decide (i < 0) = false := by simp [h2]
      rw [if_neg h2]
      by_cases h3 : f < 0 ∨ 3 ≤ f
      · rw [if_pos h3]
        by_cases h4 : f < 0
        · have b3 : decide (f < 0) = true := by simp [h4]
          clear h1 hD hG h3
          go_enter Tryz.func27, Tryz.ntmps27
          go_wp2_with (first | (go_at_call 56; (with_reducible refine (hN _).mono ?_); rintro e w1 ⟨rfl, hb⟩; obtain ⟨hc, hf⟩ := gcells hb (w.heap.size + 2) (by first | exact hz | omega | (simp; done) | (simp; omega)); have hz : w.heap.size + 2 ≤ w1.heap.size := (by have h := hb.size; (try simp at h); omega); have hz0 : w.heap.size < w1.heap.size := (by omega)) | (go_at_call 57; (with_reducible refine (hI _).mono ?_); rintro e w1 ⟨rfl, rfl⟩))
          go_ret
          exact ⟨rfl, (by repeat (first | (with_reducible exact Gr.refl _) | (with_reducible assumption) | (with_reducible refine Gr.alloc ?_ _) | (with_reducible refine Gr.drew ?_) | (with_reducible refine Gr.drewN ?_ _) | (with_reducible refine Gr.setCell ?_ (by simp <;> omega) _) | (with_reducible refine Gr.trans ?_ (by with_reducible assumption)) | exact Gr.refl _ | assumption | refine Gr.alloc ?_ _ | refine Gr.drew ?_ | refine Gr.drewN ?_ _ | refine Gr.setCell ?_ (by simp <;> omega) _ | refine Gr.trans ?_ (by assumption)))⟩
        · have b3 : decide (f < 0) = false := by simp [h4]
          have b4 : decide (3 ≤ f) = true := by simp; omega
          clear h1 hD hG h3
          go_enter Tryz.func27, Tryz.ntmps27
          go_wp2_with (first | (go_at_call 56; (with_reducible refine (hN _).mono ?_); rintro e w1 ⟨rfl, hb⟩; obtain ⟨hc, hf⟩ := gcells hb (w.heap.size + 2) (by first | exact hz | omega | (simp; done) | (simp; omega)); have hz : w.heap.size + 2 ≤ w1.heap.size := (by have h := hb.size; (try simp at h); omega); have hz0 : w.heap.size < w1.heap.size := (by omega)) | (go_at_call 57; (with_reducible refine (hI _).mono ?_); rintro e w1 ⟨rfl, rfl⟩))
          go_ret
          exact ⟨rfl, (by repeat (first | (with_reducible exact Gr.refl _) | (with_reducible assumption) | (with_reducible refine Gr.alloc ?_ _) | (with_reducible refine Gr.drew ?_) | (with_reducible refine Gr.drewN ?_ _) | (with_reducible refine Gr.setCell ?_ (by simp <;> omega) _) | (with_reducible refine Gr.trans ?_ (by with_reducible assumption)) | exact Gr.refl _ | assumption | refine Gr.alloc ?_ _ | refine Gr.drew ?_ | refine Gr.drewN ?_ _ | refine Gr.setCell ?_ (by simp <;> omega) _ | refine Gr.trans ?_ (by assumption)))⟩
      · rw [if_neg h3]
        have b3 : decide (f < 0) = false := by simp; omega
        have b4 : decide (3 ≤ f) = false := by simp; omega
        by_cases h5 : f = 0
        · subst h5
          rw [if_neg (by simp)]
          by_cases h6 : c = 89
          · subst h6
            rw [if_pos rfl]
            clear h1 hG h3
            go_enter Tryz.func27, Tryz.ntmps27
            go_wp2_with (first | (go_at_call 56; (with_reducible refine (hN _).mono ?_); rintro e w1 ⟨rfl, hb⟩; obtain ⟨hc, hf⟩ := gcells hb (w.heap.size + 2) (by first | exact hz | omega | (simp; done) | (simp; omega)); have hz : w.heap.size + 2 ≤ w1.heap.size := (by have h := hb.size; (try simp at h); omega); have hz0 : w.heap.size < w1.heap.size := (by omega)) | (go_at_call 57; (with_reducible refine (hI _).mono ?_); rintro e w1 ⟨rfl, rfl⟩) | (go_at_call 59; (with_reducible refine (hD _).mono ?_); rintro e w1 ⟨rfl, hb⟩; obtain ⟨hc, hf⟩ := gcells hb (w.heap.size + 2) (by first | exact hz | omega | (simp; done) | (simp; omega)); have hz : w.heap.size + 2 ≤ w1.heap.size := (by have h := hb.size; (try simp at h); omega); have hz0 : w.heap.size < w1.heap.size := (by omega)))
            go_ret
            exact ⟨rfl, (by repeat (first | (with_reducible exact Gr.refl _) | (with_reducible assumption) | (with_reducible refine Gr.alloc ?_ _) | (with_reducible refine Gr.drew ?_) | (with_reducible refine Gr.drewN ?_ _) | (with_reducible refine Gr.setCell ?_ (by simp <;> omega) _) | (with_reducible refine Gr.trans ?_ (by with_reducible assumption)) | exact Gr.refl _ | assumption | refine Gr.alloc ?_ _ | refine Gr.drew ?_ | refine Gr.drewN ?_ _ | refine Gr.setCell ?_ (by simp <;> omega) _ | refine Gr.trans ?_ (by assumption)))⟩
          · rw [if_neg h6]
            have b6 : (c == 89) = false := by simp [h6]
            clear h1 hD hG h3
            go_enter Tryz.func27, Tryz.ntmps27
            go_wp2_with (first | (go_at_call 56; (with_reducible refine (hN _).mono ?_); rintro e w1 ⟨rfl, hb⟩; obtain ⟨hc, hf⟩ := gcells hb (w.heap.size + 2) (by first | exact hz | omega | (simp; done) | (simp; omega)); have hz : w.heap.size + 2 ≤ w1.heap.size := (by have h := hb.size; (try simp at h); omega); have hz0 : w.heap.size < w1.heap.size := (by omega)) | (go_at_call 57; (with_reducible refine (hI _).mono ?_); rintro e w1 ⟨rfl, rfl⟩))
            go_ret
            exact ⟨rfl, (by repeat (first | (with_reducible exact Gr.refl _) | (with_reducible assumption) | (with_reducible refine Gr.alloc ?_ _) | (with_reducible refine Gr.drew ?_) | (with_reducible refine Gr.drewN ?_ _) | (with_reducible refine Gr.setCell ?_ (by simp <;> omega) _) | (with_reducible refine Gr.trans ?_ (by with_reducible assumption)) | exact Gr.refl _ | assumption | refine Gr.alloc ?_ _ | refine Gr.drew ?_ | refine Gr.drewN ?_ _ | refine Gr.setCell ?_ (by simp <;> omega) _ | refine Gr.trans ?_ (by assumption)))⟩
        · have b5 : (f != 0) = true := by simp [h5]
          cases g
          · rw [if_pos ⟨h5, rfl⟩]
            clear h1 hD h3
            go_enter Tryz.func27, Tryz.ntmps27
            go_wp2_with (first | (go_at_call 56; (with_reducible refine (hN _).mono ?_); rintro e w1 ⟨rfl, hb⟩; obtain ⟨hc, hf⟩ := gcells hb (w.heap.size + 2) (by first | exact hz | omega | (simp; done) | (simp; omega)); have hz : w.heap.size + 2 ≤ w1.heap.size := (by have h := hb.size; (try simp at h); omega); have hz0 : w.heap.size < w1.heap.size := (by omega)) | (go_at_call 57; (with_reducible refine (hI _).mono ?_); rintro e w1 ⟨rfl, rfl⟩) | (go_at_call 58; (with_reducible refine (hG _).mono ?_); rintro e w1 ⟨rfl, hb⟩; obtain ⟨hc, hf⟩ := gcells hb (w.heap.size + 2) (by first | exact hz | omega | (simp; done) | (simp; omega)); have hz : w.heap.size + 2 ≤ w1.heap.size := (by have h := hb.size; (try simp at h); omega); have hz0 : w.heap.size < w1.heap.size := (by omega)))
            go_ret
            exact ⟨rfl, (by repeat (first | (with_reducible exact Gr.refl _) | (with_reducible assumption) | (with_reducible refine Gr.alloc ?_ _) | (with_reducible refine Gr.drew ?_) | (with_reducible refine Gr.drewN ?_ _) | (with_reducible refine Gr.setCell ?_ (by simp <;> omega) _) | (with_reducible refine Gr.trans ?_ (by with_reducible assumption)) | exact Gr.refl _ | assumption | refine Gr.alloc ?_ _ | refine Gr.drew ?_ | refine Gr.drewN ?_ _ | refine Gr.setCell ?_ (by simp <;> omega) _ | refine Gr.trans ?_ (by assumption)))⟩
          · rw [if_neg (by simp)]
            by_cases h6 : c = 89
            · subst h6
              rw [if_pos rfl]
              clear h1 h3
              go_enter Tryz.func27, Tryz.ntmps27
              go_wp2_with (first | (go_at_call 56; (with_reducible refine (hN _).mono ?_); rintro e w1 ⟨rfl, hb⟩; obtain ⟨hc, hf⟩ := gcells hb (w.heap.size + 2) (by first | exact hz | omega | (simp; done) | (simp; omega)); have hz : w.heap.size + 2 ≤ w1.heap.size := (by have h := hb.size; (try simp at h); omega); have hz0 : w.heap.size < w1.heap.size := (by omega)) | (go_at_call 57; (with_reducible refine (hI _).mono ?_); rintro e w1 ⟨rfl, rfl⟩) | (go_at_call 58; (with_reducible refine (hG _).mono ?_); rintro e w1 ⟨rfl, hb⟩; obtain ⟨hc, hf⟩ := gcells hb (w.heap.size + 2) (by first | exact hz | omega | (simp; done) | (simp; omega)); have hz : w.heap.size + 2 ≤ w1.heap.size := (by have h := hb.size; (try simp at h); omega); have hz0 : w.heap.size < w1.heap.size := (by omega)) | (go_at_call 59; (with_reducible refine (hD _).mono ?_); rintro e w1 ⟨rfl, hb⟩; obtain ⟨hc, hf⟩ := gcells hb (w.heap.size + 2) (by first | exact hz | omega | (simp; done) | (simp; omega)); have hz : w.heap.size + 2 ≤ w1.heap.size := (by have h := hb.size; (try simp at h); omega); have hz0 : w.heap.size < w1.heap.size := (by omega)))
              go_ret
              exact ⟨rfl, (by repeat (first | (with_reducible exact Gr.refl _) | (with_reducible assumption) | (with_reducible refine Gr.alloc ?_ _) | (with_reducible refine Gr.drew ?_) | (with_reducible refine Gr.drewN ?_ _) | (with_reducible refine Gr.setCell ?_ (by simp <;> omega) _) | (with_reducible refine Gr.trans ?_ (by with_reducible assumption)) | exact Gr.refl _ | assumption | refine Gr.alloc ?_ _ | refine Gr.drew ?_ | refine Gr.drewN ?_ _ | refine Gr.setCell ?_ (by simp <;> omega) _ | refine Gr.trans ?_ (by assumption)))⟩
            · rw [if_neg h6]
              have b6 : (c == 89) = false := by simp [h6]
              clear h1 hD h3
              go_enter Tryz.func27, Tryz.ntmps27
              go_wp2_with (first | (go_at_call 56; (with_reducible refine (hN _).mono ?_); rintro e w1 ⟨rfl, hb⟩; obtain ⟨hc, hf⟩ := gcells hb (w.heap.size + 2) (by first | exact hz | omega | (simp; done) | (simp; omega)); have hz : w.heap.size + 2 ≤ w1.heap.size := (by have h := hb.size; (try simp at h); omega); have hz0 : w.heap.size < w1.heap.size := (by omega)) | (go_at_call 57; (with_reducible refine (hI _).mono ?_); rintro e w1 ⟨rfl, rfl⟩) | (go_at_call 58; (with_reducible refine (hG _).mono ?_); rintro e w1 ⟨rfl, hb⟩; obtain ⟨hc, hf⟩ := gcells hb (w.heap.size + 2) (by first | exact hz | omega | (simp; done) | (simp; omega)); have hz : w.heap.size + 2 ≤ w1.heap.size := (by have h := hb.size; (try simp at h); omega); have hz0 : w.heap.size < w1.heap.size := (by omega)))
              go_ret
              exact ⟨rfl, (by repeat (first | (with_reducible exact Gr.refl _) | (with_reducible assumption) | (with_reducible refine Gr.alloc ?_ _) | (with_reducible refine Gr.drew ?_) | (with_reducible refine Gr.drewN ?_ _) | (with_reducible refine Gr.setCell ?_ (by simp <;> omega) _) | (with_reducible refine Gr.trans ?_ (by with_reducible assumption)) | exact Gr.refl _ | assumption | refine Gr.alloc ?_ _ | refine Gr.drew ?_ | refine Gr.drewN ?_ _ | refine Gr.setCell ?_ (by simp <;> omega) _ | refine Gr.trans ?_ (by assumption)))⟩
  · rw [if_pos h1]
    have b1 : (ntE k l s != 0) = true := by simp [h1]
    clear h1 hD hG
    generalize ntE k l s = T at *
    go_enter Tryz.func27, Tryz.ntmps27
    go_wp2_with ((go_at_call 56; (with_reducible refine (hN _).mono ?_); rintro e w1 ⟨rfl, hb⟩; obtain ⟨hc, hf⟩ := gcells hb (w.heap.size + 2) (by first | exact hz | omega | (simp; done) | (simp; omega)); have hz : w.heap.size + 2 ≤ w1.heap.size := (by have h := hb.size; (try simp at h); omega); have hz0 : w.heap.size < w1.heap.size := (by omega)))
    go_ret
    exact ⟨rfl, (by repeat (first | (with_reducible exact Gr.refl _) | (with_reducible assumption) | (with_reducible refine Gr.alloc ?_ _) | (with_reducible refine Gr.drew ?_) | (with_reducible refine Gr.drewN ?_ _) | (with_reducible refine Gr.setCell ?_ (by simp <;> omega) _) | (with_reducible refine Gr.trans ?_ (by with_reducible assumption)) | exact Gr.refl _ | assumption | refine Gr.alloc ?_ _ | refine Gr.drew ?_ | refine Gr.drewN ?_ _ | refine Gr.setCell ?_ (by simp <;> omega) _ | refine Gr.trans ?_ (by assumption)))⟩
end Go.Proofs.YtmdpejllbalnnaaGreatDoor
