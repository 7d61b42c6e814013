/- Operations: their form. -/
import Derived.Test.YtljminmfldejnaaHt
namespace Go.Proofs.Ytljminmfldejnaa
set_option linter.unusedSimpArgs false
set_option linter.unusedVariables false
open Go.RowKit

/-- What a kind uses. -/
def uSn (kd sn : Int) : Int := if kd = 0 then 0 else sn
def uOf (kd o : Int) : Int := if kd = 4 then o else 0
def uPg (kd pg : Int) : Int := if kd = 3 ∨ kd = 4 then 0 else pg
def uBy (kd : Int) (b : ByteArray) : ByteArray := if kd = 4 then b else ⟨#[]⟩
def opOk (kd sn o pg : Int) (b : ByteArray) : Bool := (sn == uSn kd sn) && ((o == uOf kd o) && ((pg == uPg kd pg) && (b.toList == (uBy kd b).toList)))
/-- The error of an operation's form. -/
def opE (kd sn o pg : Int) (b : ByteArray) : Int := if wiB kd 0 4 = false then 4 else if opOk kd sn o pg b = true then 0 else 5

set_option maxHeartbeats 2000000 in
set_option maxRecDepth 100000 in
theorem usedOf_any (kd sn o pg : Int) (b : ByteArray) (hk : 0 ≤ kd ∧ kd ≤ 4) (w : World) :
    Calls Try.prog 67 #[.agg #[.int .i64 kd, .int .i64 sn, .int .i64 o, .int .i64 pg, .string b]] w fun e w' => e = .returned (.agg #[.int .i64 kd, .int .i64 (uSn kd sn), .int .i64 (uOf kd o), .int .i64 (uPg kd pg), .string (uBy kd b)]) ∧ Gr w w' := by
  rcases (show kd = 0 ∨ kd = 1 ∨ kd = 2 ∨ kd = 3 ∨ kd = 4 by omega) with rfl | rfl | rfl | rfl | rfl
  · go_enter Try.func67, Try.ntmps67
    go_wp2
    refine bodyPost_ret (v := .agg #[.int .i64 0, .int .i64 0, .int .i64 0, .int .i64 pg, .string ⟨#[]⟩]) (by simp [results, Try.results67, go_sem, *]) rfl ⟨rfl, (by repeat (first | (with_reducible exact Gr.refl _) | (with_reducible assumption) | (with_reducible refine Gr.alloc ?_ _) | (with_reducible refine Gr.drew ?_) | (with_reducible refine Gr.drewN ?_ _) | (with_reducible refine Gr.setCell ?_ (by simp <;> omega) _) | (with_reducible refine Gr.trans ?_ (by with_reducible assumption)) | exact Gr.refl _ | assumption | refine Gr.alloc ?_ _ | refine Gr.drew ?_ | refine Gr.drewN ?_ _ | refine Gr.setCell ?_ (by simp <;> omega) _ | refine Gr.trans ?_ (by assumption)))⟩
  · go_enter Try.func67, Try.ntmps67
    go_wp2
    refine bodyPost_ret (v := .agg #[.int .i64 1, .int .i64 sn, .int .i64 0, .int .i64 pg, .string ⟨#[]⟩]) (by simp [results, Try.results67, go_sem, *]) rfl ⟨rfl, (by repeat (first | (with_reducible exact Gr.refl _) | (with_reducible assumption) | (with_reducible refine Gr.alloc ?_ _) | (with_reducible refine Gr.drew ?_) | (with_reducible refine Gr.drewN ?_ _) | (with_reducible refine Gr.setCell ?_ (by simp <;> omega) _) | (with_reducible refine Gr.trans ?_ (by with_reducible assumption)) | exact Gr.refl _ | assumption | refine Gr.alloc ?_ _ | refine Gr.drew ?_ | refine Gr.drewN ?_ _ | refine Gr.setCell ?_ (by simp <;> omega) _ | refine Gr.trans ?_ (by assumption)))⟩
  · go_enter Try.func67, Try.ntmps67
    go_wp2
    refine bodyPost_ret (v := .agg #[.int .i64 2, .int .i64 sn, .int .i64 0, .int .i64 pg, .string ⟨#[]⟩]) (by simp [results, Try.results67, go_sem, *]) rfl ⟨rfl, (by repeat (first | (with_reducible exact Gr.refl _) | (with_reducible assumption) | (with_reducible refine Gr.alloc ?_ _) | (with_reducible refine Gr.drew ?_) | (with_reducible refine Gr.drewN ?_ _) | (with_reducible refine Gr.setCell ?_ (by simp <;> omega) _) | (with_reducible refine Gr.trans ?_ (by with_reducible assumption)) | exact Gr.refl _ | assumption | refine Gr.alloc ?_ _ | refine Gr.drew ?_ | refine Gr.drewN ?_ _ | refine Gr.setCell ?_ (by simp <;> omega) _ | refine Gr.trans ?_ (by assumption)))⟩
  · go_enter Try.func67, Try.ntmps67
    go_wp2
    refine bodyPost_ret (v := .agg #[.int .i64 3, .int .i64 sn, .int .i64 0, .int .i64 0, .string ⟨#[]⟩]) (by simp [results, Try.results67, go_sem, *]) rfl ⟨rfl, (by repeat (first | (with_reducible exact Gr.refl _) | (with_reducible assumption) | (with_reducible refine Gr.alloc ?_ _) | (with_reducible refine Gr.drew ?_) | (with_reducible refine Gr.drewN ?_ _) | (with_reducible refine Gr.setCell ?_ (by simp <;> omega) _) | (with_reducible refine Gr.trans ?_ (by with_reducible assumption)) | exact Gr.refl _ | assumption | refine Gr.alloc ?_ _ | refine Gr.drew ?_ | refine Gr.drewN ?_ _ | refine Gr.setCell ?_ (by simp <;> omega) _ | refine Gr.trans ?_ (by assumption)))⟩
  · go_enter Try.func67, Try.ntmps67
    go_wp2
    refine bodyPost_ret (v := .agg #[.int .i64 4, .int .i64 sn, .int .i64 o, .int .i64 0, .string b]) (by simp [results, Try.results67, go_sem, *]) rfl ⟨rfl, (by repeat (first | (with_reducible exact Gr.refl _) | (with_reducible assumption) | (with_reducible refine Gr.alloc ?_ _) | (with_reducible refine Gr.drew ?_) | (with_reducible refine Gr.drewN ?_ _) | (with_reducible refine Gr.setCell ?_ (by simp <;> omega) _) | (with_reducible refine Gr.trans ?_ (by with_reducible assumption)) | exact Gr.refl _ | assumption | refine Gr.alloc ?_ _ | refine Gr.drew ?_ | refine Gr.drewN ?_ _ | refine Gr.setCell ?_ (by simp <;> omega) _ | refine Gr.trans ?_ (by assumption)))⟩

theorem Count_true (w : World) : Calls Try.prog 77 #[.bool true] w fun e w' => e = .returned (.int .i64 1) ∧ w = w' := by
  go_enter Try.func77, Try.ntmps77
  go_wp2
  go_ret
  exact ⟨rfl, rfl⟩
theorem Count_false (w : World) : Calls Try.prog 77 #[.bool false] w fun e w' => e = .returned (.int .i64 0) ∧ w = w' := by
  go_enter Try.func77, Try.ntmps77
  go_wp2
  go_ret
  exact ⟨rfl, rfl⟩

theorem OpErr_kind (kd sn o pg : Int) (b : ByteArray) (hk : wiB kd 0 4 = false) (w : World) :
    Calls Try.prog 68 #[.agg #[.int .i64 kd, .int .i64 sn, .int .i64 o, .int .i64 pg, .string b]] w fun e w' => e = .returned (.int .i64 4) ∧ Gr w w' := by
  have HK := Lib.hid hk
  clear hk
  go_enter Try.func68, Try.ntmps68
  go_wp2_with ((go_at_call 42; (with_reducible refine (Within_is _ _ _ _ HK.out _).mono ?_); rintro e w1 ⟨rfl, rfl⟩))
  go_ret
  exact ⟨rfl, (by repeat (first | (with_reducible exact Gr.refl _) | (with_reducible assumption) | (with_reducible refine Gr.alloc ?_ _) | (with_reducible refine Gr.drew ?_) | (with_reducible refine Gr.drewN ?_ _) | (with_reducible refine Gr.setCell ?_ (by simp <;> omega) _) | (with_reducible refine Gr.trans ?_ (by with_reducible assumption)) | exact Gr.refl _ | assumption | refine Gr.alloc ?_ _ | refine Gr.drew ?_ | refine Gr.drewN ?_ _ | refine Gr.setCell ?_ (by simp <;> omega) _ | refine Gr.trans ?_ (by assumption)))⟩
theorem toList_inj {a b : ByteArray} (h : a.toList = b.toList) : a = b := by
  rw [ByteArray.toList_eq, ByteArray.toList_eq] at h
  obtain ⟨⟨x⟩⟩ := a
  obtain ⟨⟨y⟩⟩ := b
  simp at h
  rw [h]
theorem ne_empty {b : ByteArray} (h : b ≠ ⟨#[]⟩) : b.toList.isEmpty = false ∧ (([] : List UInt8) == b.toList) = false := by
  have hn : b.toList ≠ [] := fun e => h (toList_inj (by rw [e, ByteArray.toList_eq]))
  constructor
  · cases e : b.toList with
    | nil => exact absurd e hn
    | cons x y => rfl
  · cases e : b.toList with
    | nil => exact absurd e hn
    | cons x y => rfl
theorem opE_kind {kd sn o pg : Int} {b : ByteArray} (h : wiB kd 0 4 = false) : opE kd sn o pg b = 4 := by rw [opE, if_pos h]
theorem opE_good {kd sn o pg : Int} {b : ByteArray} (h : wiB kd 0 4 = true) (h1 : sn = uSn kd sn) (h2 : o = uOf kd o) (h3 : pg = uPg kd pg) (h4 : b = uBy kd b) : opE kd sn o pg b = 0 := by
  have : opOk kd sn o pg b = true := by unfold opOk; rw [← h1, ← h2, ← h3, ← h4]; simp
  rw [opE, if_neg (by simp [h]), if_pos this]
theorem opE_bad {kd sn o pg : Int} {b : ByteArray} (h : wiB kd 0 4 = true) (h1 : sn ≠ uSn kd sn ∨ o ≠ uOf kd o ∨ pg ≠ uPg kd pg ∨ b ≠ uBy kd b) : opE kd sn o pg b = 5 := by
  have : ¬ opOk kd sn o pg b = true := by
    unfold opOk
    intro e
    simp only [Bool.and_eq_true, beq_iff_eq] at e
    rcases h1 with h1 | h1 | h1 | h1
    · exact h1 e.1
    · exact h1 e.2.1
    · exact h1 e.2.2.1
    · exact h1 (toList_inj e.2.2.2)
  rw [opE, if_neg (by simp [h]), if_neg this]
theorem opE_zero {kd sn o pg : Int} {b : ByteArray} (h : opE kd sn o pg b = 0) : (0 ≤ kd ∧ kd ≤ 4) ∧ sn = uSn kd sn ∧ o = uOf kd o ∧ pg = uPg kd pg ∧ b = uBy kd b := by
  rcases Bool.eq_false_or_eq_true (wiB kd 0 4) with h1 | h1
  rotate_left
  · rw [opE_kind h1] at h; omega
  refine ⟨wiB_iff.1 h1, ?_⟩
  by_cases h2 : sn ≠ uSn kd sn ∨ o ≠ uOf kd o ∨ pg ≠ uPg kd pg ∨ b ≠ uBy kd b
  · rw [opE_bad h1 h2] at h; omega
  · simp only [not_or, ne_eq, Classical.not_not] at h2
    exact h2
theorem OpErr_00 (sn o pg : Int) (b : ByteArray) (w : World) : Calls Try.prog 68 #[.agg #[.int .i64 0, .int .i64 0, .int .i64 0, .int .i64 pg, .string ⟨#[]⟩]] w fun e w' => e = .returned (.int .i64 0) ∧ Gr w w' := by
  have HK := Lib.hid (show wiB 0 0 4 = true by decide)
  go_enter Try.func68, Try.ntmps68
  go_wp2_with (first | (go_at_call 42; (with_reducible refine (Within_is _ _ _ _ HK.out _).mono ?_); rintro e w1 ⟨rfl, rfl⟩) | (go_at_call 77; (with_reducible refine (Count_false _).mono ?_); rintro e w1 ⟨rfl, rfl⟩))
  go_ret
  exact ⟨rfl, (by repeat (first | (with_reducible exact Gr.refl _) | (with_reducible assumption) | (with_reducible refine Gr.alloc ?_ _) | (with_reducible refine Gr.drew ?_) | (with_reducible refine Gr.drewN ?_ _) | (with_reducible refine Gr.setCell ?_ (by simp <;> omega) _) | (with_reducible refine Gr.trans ?_ (by with_reducible assumption)) | exact Gr.refl _ | assumption | refine Gr.alloc ?_ _ | refine Gr.drew ?_ | refine Gr.drewN ?_ _ | refine Gr.setCell ?_ (by simp <;> omega) _ | refine Gr.trans ?_ (by assumption)))⟩
theorem OpErr_01 (sn o pg : Int) (b : ByteArray) (h : (0 == sn) = false) (w : World) : Calls Try.prog 68 #[.agg #[.int .i64 0, .int .i64 sn, .int .i64 o, .int .i64 pg, .string b]] w fun e w' => e = .returned (.int .i64 5) ∧ Gr w w' := by
  have HK := Lib.hid (show wiB 0 0 4 = true by decide)
  go_enter Try.func68, Try.ntmps68
  go_wp2_with (first | (go_at_call 42; (with_reducible refine (Within_is _ _ _ _ HK.out _).mono ?_); rintro e w1 ⟨rfl, rfl⟩) | (go_at_call 77; (with_reducible refine (Count_true _).mono ?_); rintro e w1 ⟨rfl, rfl⟩))
  go_ret
  exact ⟨rfl, (by repeat (first | (with_reducible exact Gr.refl _) | (with_reducible assumption) | (with_reducible refine Gr.alloc ?_ _) | (with_reducible refine Gr.drew ?_) | (with_reducible refine Gr.drewN ?_ _) | (with_reducible refine Gr.setCell ?_ (by simp <;> omega) _) | (with_reducible refine Gr.trans ?_ (by with_reducible assumption)) | exact Gr.refl _ | assumption | refine Gr.alloc ?_ _ | refine Gr.drew ?_ | refine Gr.drewN ?_ _ | refine Gr.setCell ?_ (by simp <;> omega) _ | refine Gr.trans ?_ (by assumption)))⟩
theorem OpErr_02 (sn o pg : Int) (b : ByteArray) (h : (0 == o) = false) (w : World) : Calls Try.prog 68 #[.agg #[.int .i64 0, .int .i64 0, .int .i64 o, .int .i64 pg, .string b]] w fun e w' => e = .returned (.int .i64 5) ∧ Gr w w' := by
  have HK := Lib.hid (show wiB 0 0 4 = true by decide)
  go_enter Try.func68, Try.ntmps68
  go_wp2_with (first | (go_at_call 42; (with_reducible refine (Within_is _ _ _ _ HK.out _).mono ?_); rintro e w1 ⟨rfl, rfl⟩) | (go_at_call 77; (with_reducible refine (Count_true _).mono ?_); rintro e w1 ⟨rfl, rfl⟩))
  go_ret
  exact ⟨rfl, (by repeat (first | (with_reducible exact Gr.refl _) | (with_reducible assumption) | (with_reducible refine Gr.alloc ?_ _) | (with_reducible refine Gr.drew ?_) | (with_reducible refine Gr.drewN ?_ _) | (with_reducible refine Gr.setCell ?_ (by simp <;> omega) _) | (with_reducible refine Gr.trans ?_ (by with_reducible assumption)) | exact Gr.refl _ | assumption | refine Gr.alloc ?_ _ | refine Gr.drew ?_ | refine Gr.drewN ?_ _ | refine Gr.setCell ?_ (by simp <;> omega) _ | refine Gr.trans ?_ (by assumption)))⟩
theorem OpErr_03 (sn o pg : Int) (b : ByteArray) (hb : b ≠ ⟨#[]⟩) (w : World) : Calls Try.prog 68 #[.agg #[.int .i64 0, .int .i64 0, .int .i64 0, .int .i64 pg, .string b]] w fun e w' => e = .returned (.int .i64 5) ∧ Gr w w' := by
  have HK := Lib.hid (show wiB 0 0 4 = true by decide)
  have h1 := (ne_empty hb).1
  have h2 := (ne_empty hb).2
  go_enter Try.func68, Try.ntmps68
  go_wp2_with (first | (go_at_call 42; (with_reducible refine (Within_is _ _ _ _ HK.out _).mono ?_); rintro e w1 ⟨rfl, rfl⟩) | (go_at_call 77; (with_reducible refine (Count_true _).mono ?_); rintro e w1 ⟨rfl, rfl⟩))
  go_ret
  exact ⟨rfl, (by repeat (first | (with_reducible exact Gr.refl _) | (with_reducible assumption) | (with_reducible refine Gr.alloc ?_ _) | (with_reducible refine Gr.drew ?_) | (with_reducible refine Gr.drewN ?_ _) | (with_reducible refine Gr.setCell ?_ (by simp <;> omega) _) | (with_reducible refine Gr.trans ?_ (by with_reducible assumption)) | exact Gr.refl _ | assumption | refine Gr.alloc ?_ _ | refine Gr.drew ?_ | refine Gr.drewN ?_ _ | refine Gr.setCell ?_ (by simp <;> omega) _ | refine Gr.trans ?_ (by assumption)))⟩
theorem OpErr_10 (sn o pg : Int) (b : ByteArray) (w : World) : Calls Try.prog 68 #[.agg #[.int .i64 1, .int .i64 sn, .int .i64 0, .int .i64 pg, .string ⟨#[]⟩]] w fun e w' => e = .returned (.int .i64 0) ∧ Gr w w' := by
  have HK := Lib.hid (show wiB 1 0 4 = true by decide)
  go_enter Try.func68, Try.ntmps68
  go_wp2_with (first | (go_at_call 42; (with_reducible refine (Within_is _ _ _ _ HK.out _).mono ?_); rintro e w1 ⟨rfl, rfl⟩) | (go_at_call 77; (with_reducible refine (Count_false _).mono ?_); rintro e w1 ⟨rfl, rfl⟩))
  go_region
  all_goals
    go_wp2_with ((go_at_call 77; (with_reducible refine (Count_false _).mono ?_); rintro e w1 ⟨rfl, rfl⟩))
    go_ret
    exact ⟨rfl, (by repeat (first | (with_reducible exact Gr.refl _) | (with_reducible assumption) | (with_reducible refine Gr.alloc ?_ _) | (with_reducible refine Gr.drew ?_) | (with_reducible refine Gr.drewN ?_ _) | (with_reducible refine Gr.setCell ?_ (by simp <;> omega) _) | (with_reducible refine Gr.trans ?_ (by with_reducible assumption)) | exact Gr.refl _ | assumption | refine Gr.alloc ?_ _ | refine Gr.drew ?_ | refine Gr.drewN ?_ _ | refine Gr.setCell ?_ (by simp <;> omega) _ | refine Gr.trans ?_ (by assumption)))⟩
theorem OpErr_12 (sn o pg : Int) (b : ByteArray) (h : (0 == o) = false) (w : World) : Calls Try.prog 68 #[.agg #[.int .i64 1, .int .i64 sn, .int .i64 o, .int .i64 pg, .string b]] w fun e w' => e = .returned (.int .i64 5) ∧ Gr w w' := by
  have HK := Lib.hid (show wiB 1 0 4 = true by decide)
  go_enter Try.func68, Try.ntmps68
  go_wp2_with (first | (go_at_call 42; (with_reducible refine (Within_is _ _ _ _ HK.out _).mono ?_); rintro e w1 ⟨rfl, rfl⟩) | (go_at_call 77; (with_reducible refine (Count_true _).mono ?_); rintro e w1 ⟨rfl, rfl⟩))
  go_region
  all_goals
    go_wp2_with ((go_at_call 77; (with_reducible refine (Count_true _).mono ?_); rintro e w1 ⟨rfl, rfl⟩))
    go_ret
    exact ⟨rfl, (by repeat (first | (with_reducible exact Gr.refl _) | (with_reducible assumption) | (with_reducible refine Gr.alloc ?_ _) | (with_reducible refine Gr.drew ?_) | (with_reducible refine Gr.drewN ?_ _) | (with_reducible refine Gr.setCell ?_ (by simp <;> omega) _) | (with_reducible refine Gr.trans ?_ (by with_reducible assumption)) | exact Gr.refl _ | assumption | refine Gr.alloc ?_ _ | refine Gr.drew ?_ | refine Gr.drewN ?_ _ | refine Gr.setCell ?_ (by simp <;> omega) _ | refine Gr.trans ?_ (by assumption)))⟩
theorem OpErr_13 (sn o pg : Int) (b : ByteArray) (hb : b ≠ ⟨#[]⟩) (w : World) : Calls Try.prog 68 #[.agg #[.int .i64 1, .int .i64 sn, .int .i64 0, .int .i64 pg, .string b]] w fun e w' => e = .returned (.int .i64 5) ∧ Gr w w' := by
  have HK := Lib.hid (show wiB 1 0 4 = true by decide)
  have h1 := (ne_empty hb).1
  have h2 := (ne_empty hb).2
  go_enter Try.func68, Try.ntmps68
  go_wp2_with (first | (go_at_call 42; (with_reducible refine (Within_is _ _ _ _ HK.out _).mono ?_); rintro e w1 ⟨rfl, rfl⟩) | (go_at_call 77; (with_reducible refine (Count_true _).mono ?_); rintro e w1 ⟨rfl, rfl⟩))
  go_region
  all_goals
    go_wp2_with ((go_at_call 77; (with_reducible refine (Count_true _).mono ?_); rintro e w1 ⟨rfl, rfl⟩))
    go_ret
    exact ⟨rfl, (by repeat (first | (with_reducible exact Gr.refl _) | (with_reducible assumption) | (with_reducible refine Gr.alloc ?_ _) | (with_reducible refine Gr.drew ?_) | (with_reducible refine Gr.drewN ?_ _) | (with_reducible refine Gr.setCell ?_ (by simp <;> omega) _) | (with_reducible refine Gr.trans ?_ (by with_reducible assumption)) | exact Gr.refl _ | assumption | refine Gr.alloc ?_ _ | refine Gr.drew ?_ | refine Gr.drewN ?_ _ | refine Gr.setCell ?_ (by simp <;> omega) _ | refine Gr.trans ?_ (by assumption)))⟩
theorem OpErr_20 (sn o pg : Int) (b : ByteArray) (w : World) : Calls Try.prog 68 #[.agg #[.int .i64 2, .int .i64 sn, .int .i64 0, .int .i64 pg, .string ⟨#[]⟩]] w fun e w' => e = .returned (.int .i64 0) ∧ Gr w w' := by
  have HK := Lib.hid (show wiB 2 0 4 = true by decide)
  go_enter Try.func68, Try.ntmps68
  go_wp2_with (first | (go_at_call 42; (with_reducible refine (Within_is _ _ _ _ HK.out _).mono ?_); rintro e w1 ⟨rfl, rfl⟩) | (go_at_call 77; (with_reducible refine (Count_false _).mono ?_); rintro e w1 ⟨rfl, rfl⟩))
  go_region
  all_goals
    go_wp2_with ((go_at_call 77; (with_reducible refine (Count_false _).mono ?_); rintro e w1 ⟨rfl, rfl⟩))
    go_ret
    exact ⟨rfl, (by repeat (first | (with_reducible exact Gr.refl _) | (with_reducible assumption) | (with_reducible refine Gr.alloc ?_ _) | (with_reducible refine Gr.drew ?_) | (with_reducible refine Gr.drewN ?_ _) | (with_reducible refine Gr.setCell ?_ (by simp <;> omega) _) | (with_reducible refine Gr.trans ?_ (by with_reducible assumption)) | exact Gr.refl _ | assumption | refine Gr.alloc ?_ _ | refine Gr.drew ?_ | refine Gr.drewN ?_ _ | refine Gr.setCell ?_ (by simp <;> omega) _ | refine Gr.trans ?_ (by assumption)))⟩
theorem OpErr_22 (sn o pg : Int) (b : ByteArray) (h : (0 == o) = false) (w : World) : Calls Try.prog 68 #[.agg #[.int .i64 2, .int .i64 sn, .int .i64 o, .int .i64 pg, .string b]] w fun e w' => e = .returned (.int .i64 5) ∧ Gr w w' := by
  have HK := Lib.hid (show wiB 2 0 4 = true by decide)
  go_enter Try.func68, Try.ntmps68
  go_wp2_with (first | (go_at_call 42; (with_reducible refine (Within_is _ _ _ _ HK.out _).mono ?_); rintro e w1 ⟨rfl, rfl⟩) | (go_at_call 77; (with_reducible refine (Count_true _).mono ?_); rintro e w1 ⟨rfl, rfl⟩))
  go_region
  all_goals
    go_wp2_with ((go_at_call 77; (with_reducible refine (Count_true _).mono ?_); rintro e w1 ⟨rfl, rfl⟩))
    go_ret
    exact ⟨rfl, (by repeat (first | (with_reducible exact Gr.refl _) | (with_reducible assumption) | (with_reducible refine Gr.alloc ?_ _) | (with_reducible refine Gr.drew ?_) | (with_reducible refine Gr.drewN ?_ _) | (with_reducible refine Gr.setCell ?_ (by simp <;> omega) _) | (with_reducible refine Gr.trans ?_ (by with_reducible assumption)) | exact Gr.refl _ | assumption | refine Gr.alloc ?_ _ | refine Gr.drew ?_ | refine Gr.drewN ?_ _ | refine Gr.setCell ?_ (by simp <;> omega) _ | refine Gr.trans ?_ (by assumption)))⟩
theorem OpErr_23 (sn o pg : Int) (b : ByteArray) (hb : b ≠ ⟨#[]⟩) (w : World) : Calls Try.prog 68 #[.agg #[.int .i64 2, .int .i64 sn, .int .i64 0, .int .i64 pg, .string b]] w fun e w' => e = .returned (.int .i64 5) ∧ Gr w w' := by
  have HK := Lib.hid (show wiB 2 0 4 = true by decide)
  have h1 := (ne_empty hb).1
  have h2 := (ne_empty hb).2
  go_enter Try.func68, Try.ntmps68
  go_wp2_with (first | (go_at_call 42; (with_reducible refine (Within_is _ _ _ _ HK.out _).mono ?_); rintro e w1 ⟨rfl, rfl⟩) | (go_at_call 77; (with_reducible refine (Count_true _).mono ?_); rintro e w1 ⟨rfl, rfl⟩))
  go_region
  all_goals
    go_wp2_with ((go_at_call 77; (with_reducible refine (Count_true _).mono ?_); rintro e w1 ⟨rfl, rfl⟩))
    go_ret
    exact ⟨rfl, (by repeat (first | (with_reducible exact Gr.refl _) | (with_reducible assumption) | (with_reducible refine Gr.alloc ?_ _) | (with_reducible refine Gr.drew ?_) | (with_reducible refine Gr.drewN ?_ _) | (with_reducible refine Gr.setCell ?_ (by simp <;> omega) _) | (with_reducible refine Gr.trans ?_ (by with_reducible assumption)) | exact Gr.refl _ | assumption | refine Gr.alloc ?_ _ | refine Gr.drew ?_ | refine Gr.drewN ?_ _ | refine Gr.setCell ?_ (by simp <;> omega) _ | refine Gr.trans ?_ (by assumption)))⟩
theorem OpErr_30 (sn o pg : Int) (b : ByteArray) (w : World) : Calls Try.prog 68 #[.agg #[.int .i64 3, .int .i64 sn, .int .i64 0, .int .i64 0, .string ⟨#[]⟩]] w fun e w' => e = .returned (.int .i64 0) ∧ Gr w w' := by
  have HK := Lib.hid (show wiB 3 0 4 = true by decide)
  go_enter Try.func68, Try.ntmps68
  go_wp2_with (first | (go_at_call 42; (with_reducible refine (Within_is _ _ _ _ HK.out _).mono ?_); rintro e w1 ⟨rfl, rfl⟩) | (go_at_call 77; (with_reducible refine (Count_false _).mono ?_); rintro e w1 ⟨rfl, rfl⟩))
  go_ret
  exact ⟨rfl, (by repeat (first | (with_reducible exact Gr.refl _) | (with_reducible assumption) | (with_reducible refine Gr.alloc ?_ _) | (with_reducible refine Gr.drew ?_) | (with_reducible refine Gr.drewN ?_ _) | (with_reducible refine Gr.setCell ?_ (by simp <;> omega) _) | (with_reducible refine Gr.trans ?_ (by with_reducible assumption)) | exact Gr.refl _ | assumption | refine Gr.alloc ?_ _ | refine Gr.drew ?_ | refine Gr.drewN ?_ _ | refine Gr.setCell ?_ (by simp <;> omega) _ | refine Gr.trans ?_ (by assumption)))⟩
theorem OpErr_32 (sn o pg : Int) (b : ByteArray) (h : (0 == o) = false) (w : World) : Calls Try.prog 68 #[.agg #[.int .i64 3, .int .i64 sn, .int .i64 o, .int .i64 pg, .string b]] w fun e w' => e = .returned (.int .i64 5) ∧ Gr w w' := by
  have HK := Lib.hid (show wiB 3 0 4 = true by decide)
  go_enter Try.func68, Try.ntmps68
  go_wp2_with (first | (go_at_call 42; (with_reducible refine (Within_is _ _ _ _ HK.out _).mono ?_); rintro e w1 ⟨rfl, rfl⟩) | (go_at_call 77; (with_reducible refine (Count_true _).mono ?_); rintro e w1 ⟨rfl, rfl⟩))
  go_ret
  exact ⟨rfl, (by repeat (first | (with_reducible exact Gr.refl _) | (with_reducible assumption) | (with_reducible refine Gr.alloc ?_ _) | (with_reducible refine Gr.drew ?_) | (with_reducible refine Gr.drewN ?_ _) | (with_reducible refine Gr.setCell ?_ (by simp <;> omega) _) | (with_reducible refine Gr.trans ?_ (by with_reducible assumption)) | exact Gr.refl _ | assumption | refine Gr.alloc ?_ _ | refine Gr.drew ?_ | refine Gr.drewN ?_ _ | refine Gr.setCell ?_ (by simp <;> omega) _ | refine Gr.trans ?_ (by assumption)))⟩
theorem OpErr_34 (sn o pg : Int) (b : ByteArray) (h : (0 == pg) = false) (w : World) : Calls Try.prog 68 #[.agg #[.int .i64 3, .int .i64 sn, .int .i64 0, .int .i64 pg, .string b]] w fun e w' => e = .returned (.int .i64 5) ∧ Gr w w' := by
  have HK := Lib.hid (show wiB 3 0 4 = true by decide)
  go_enter Try.func68, Try.ntmps68
  go_wp2_with (first | (go_at_call 42; (with_reducible refine (Within_is _ _ _ _ HK.out _).mono ?_); rintro e w1 ⟨rfl, rfl⟩) | (go_at_call 77; (with_reducible refine (Count_true _).mono ?_); rintro e w1 ⟨rfl, rfl⟩))
  go_ret
  exact ⟨rfl, (by repeat (first | (with_reducible exact Gr.refl _) | (with_reducible assumption) | (with_reducible refine Gr.alloc ?_ _) | (with_reducible refine Gr.drew ?_) | (with_reducible refine Gr.drewN ?_ _) | (with_reducible refine Gr.setCell ?_ (by simp <;> omega) _) | (with_reducible refine Gr.trans ?_ (by with_reducible assumption)) | exact Gr.refl _ | assumption | refine Gr.alloc ?_ _ | refine Gr.drew ?_ | refine Gr.drewN ?_ _ | refine Gr.setCell ?_ (by simp <;> omega) _ | refine Gr.trans ?_ (by assumption)))⟩
theorem OpErr_33 (sn o pg : Int) (b : ByteArray) (hb : b ≠ ⟨#[]⟩) (w : World) : Calls Try.prog 68 #[.agg #[.int .i64 3, .int .i64 sn, .int .i64 0, .int .i64 0, .string b]] w fun e w' => e = .returned (.int .i64 5) ∧ Gr w w' := by
  have HK := Lib.hid (show wiB 3 0 4 = true by decide)
  have h1 := (ne_empty hb).1
  have h2 := (ne_empty hb).2
  go_enter Try.func68, Try.ntmps68
  go_wp2_with (first | (go_at_call 42; (with_reducible refine (Within_is _ _ _ _ HK.out _).mono ?_); rintro e w1 ⟨rfl, rfl⟩) | (go_at_call 77; (with_reducible refine (Count_true _).mono ?_); rintro e w1 ⟨rfl, rfl⟩))
  go_ret
  exact ⟨rfl, (by repeat (first | (with_reducible exact Gr.refl _) | (with_reducible assumption) | (with_reducible refine Gr.alloc ?_ _) | (with_reducible refine Gr.drew ?_) | (with_reducible refine Gr.drewN ?_ _) | (with_reducible refine Gr.setCell ?_ (by simp <;> omega) _) | (with_reducible refine Gr.trans ?_ (by with_reducible assumption)) | exact Gr.refl _ | assumption | refine Gr.alloc ?_ _ | refine Gr.drew ?_ | refine Gr.drewN ?_ _ | refine Gr.setCell ?_ (by simp <;> omega) _ | refine Gr.trans ?_ (by assumption)))⟩
theorem OpErr_40 (sn o pg : Int) (b : ByteArray) (w : World) : Calls Try.prog 68 #[.agg #[.int .i64 4, .int .i64 sn, .int .i64 o, .int .i64 0, .string b]] w fun e w' => e = .returned (.int .i64 0) ∧ Gr w w' := by
  have HK := Lib.hid (show wiB 4 0 4 = true by decide)
  go_enter Try.func68, Try.ntmps68
  go_wp2_with (first | (go_at_call 42; (with_reducible refine (Within_is _ _ _ _ HK.out _).mono ?_); rintro e w1 ⟨rfl, rfl⟩) | (go_at_call 77; (with_reducible refine (Count_false _).mono ?_); rintro e w1 ⟨rfl, rfl⟩))
  go_region
  all_goals
    go_wp2_with ((go_at_call 77; (with_reducible refine (Count_false _).mono ?_); rintro e w1 ⟨rfl, rfl⟩))
    go_ret
    exact ⟨rfl, (by repeat (first | (with_reducible exact Gr.refl _) | (with_reducible assumption) | (with_reducible refine Gr.alloc ?_ _) | (with_reducible refine Gr.drew ?_) | (with_reducible refine Gr.drewN ?_ _) | (with_reducible refine Gr.setCell ?_ (by simp <;> omega) _) | (with_reducible refine Gr.trans ?_ (by with_reducible assumption)) | exact Gr.refl _ | assumption | refine Gr.alloc ?_ _ | refine Gr.drew ?_ | refine Gr.drewN ?_ _ | refine Gr.setCell ?_ (by simp <;> omega) _ | refine Gr.trans ?_ (by assumption)))⟩
theorem OpErr_44 (sn o pg : Int) (b : ByteArray) (h : (0 == pg) = false) (w : World) : Calls Try.prog 68 #[.agg #[.int .i64 4, .int .i64 sn, .int .i64 o, .int .i64 pg, .string b]] w fun e w' => e = .returned (.int .i64 5) ∧ Gr w w' := by
  have HK := Lib.hid (show wiB 4 0 4 = true by decide)
  go_enter Try.func68, Try.ntmps68
  go_wp2_with (first | (go_at_call 42; (with_reducible refine (Within_is _ _ _ _ HK.out _).mono ?_); rintro e w1 ⟨rfl, rfl⟩) | (go_at_call 77; (with_reducible refine (Count_true _).mono ?_); rintro e w1 ⟨rfl, rfl⟩))
  go_region
  all_goals
    go_wp2_with ((go_at_call 77; (with_reducible refine (Count_true _).mono ?_); rintro e w1 ⟨rfl, rfl⟩))
    go_ret
    exact ⟨rfl, (by repeat (first | (with_reducible exact Gr.refl _) | (with_reducible assumption) | (with_reducible refine Gr.alloc ?_ _) | (with_reducible refine Gr.drew ?_) | (with_reducible refine Gr.drewN ?_ _) | (with_reducible refine Gr.setCell ?_ (by simp <;> omega) _) | (with_reducible refine Gr.trans ?_ (by with_reducible assumption)) | exact Gr.refl _ | assumption | refine Gr.alloc ?_ _ | refine Gr.drew ?_ | refine Gr.drewN ?_ _ | refine Gr.setCell ?_ (by simp <;> omega) _ | refine Gr.trans ?_ (by assumption)))⟩

theorem OpErr_any (kd sn o pg : Int) (b : ByteArray) (w : World) : Calls Try.prog 68 #[.agg #[.int .i64 kd, .int .i64 sn, .int .i64 o, .int .i64 pg, .string b]] w fun e w' => e = .returned (.int .i64 (opE kd sn o pg b)) ∧ Gr w w' := by
  rcases Bool.eq_false_or_eq_true (wiB kd 0 4) with hk | hk
  rotate_left
  · rw [opE_kind hk]; exact OpErr_kind kd sn o pg b hk w
  have hk2 := wiB_iff.1 hk
  have ne0 : ∀ {x : Int}, x ≠ 0 → ((0 : Int) == x) = false := fun h => by simpa using fun e => h e.symm
  rcases (show kd = 0 ∨ kd = 1 ∨ kd = 2 ∨ kd = 3 ∨ kd = 4 by omega) with rfl | rfl | rfl | rfl | rfl
  · by_cases h1 : sn = 0
    rotate_left
    · rw [opE_bad hk (.inl (by simpa [uSn] using h1))]; exact OpErr_01 sn o pg b (ne0 h1) w
    subst h1
    by_cases h2 : o = 0
    rotate_left
    · rw [opE_bad hk (.inr (.inl (by simpa [uOf] using h2)))]; exact OpErr_02 0 o pg b (ne0 h2) w
    subst h2
    by_cases h4 : b = ⟨#[]⟩
    rotate_left
    · rw [opE_bad hk (.inr (.inr (.inr (by simpa [uBy] using h4))))]; exact OpErr_03 0 0 pg b h4 w
    subst h4
    rw [show opE 0 0 0 pg ⟨#[]⟩ = 0 from opE_good hk rfl rfl (by simp [uPg]) rfl]; exact OpErr_00 0 0 pg ⟨#[]⟩ w
  · by_cases h2 : o = 0
    rotate_left
    · rw [opE_bad hk (.inr (.inl (by simpa [uOf] using h2)))]; exact OpErr_12 sn o pg b (ne0 h2) w
    subst h2
    by_cases h4 : b = ⟨#[]⟩
    rotate_left
    · rw [opE_bad hk (.inr (.inr (.inr (by simpa [uBy] using h4))))]; exact OpErr_13 sn 0 pg b h4 w
    subst h4
    rw [show opE 1 sn 0 pg ⟨#[]⟩ = 0 from opE_good hk (by simp [uSn]) rfl (by simp [uPg]) rfl]; exact OpErr_10 sn 0 pg ⟨#[]⟩ w
  · by_cases h2 : o = 0
    rotate_left
    · rw [opE_bad hk (.inr (.inl (by simpa [uOf] using h2)))]; exact OpErr_22 sn o pg b (ne0 h2) w
    subst h2
    by_cases h4 : b = ⟨#[]⟩
    rotate_left
    · rw [opE_bad hk (.inr (.inr (.inr (by simpa [uBy] using h4))))]; exact OpErr_23 sn 0 pg b h4 w
    subst h4
    rw [show opE 2 sn 0 pg ⟨#[]⟩ = 0 from opE_good hk (by simp [uSn]) rfl (by simp [uPg]) rfl]; exact OpErr_20 sn 0 pg ⟨#[]⟩ w
  · by_cases h2 : o = 0
    rotate_left
    · rw [opE_bad hk (.inr (.inl (by simpa [uOf] using h2)))]; exact OpErr_32 sn o pg b (ne0 h2) w
    subst h2
    by_cases h3 : pg = 0
    rotate_left
    · rw [opE_bad hk (.inr (.inr (.inl (by simpa [uPg] using h3))))]; exact OpErr_34 sn 0 pg b (ne0 h3) w
    subst h3
    by_cases h4 : b = ⟨#[]⟩
    rotate_left
    · rw [opE_bad hk (.inr (.inr (.inr (by simpa [uBy] using h4))))]; exact OpErr_33 sn 0 0 b h4 w
    subst h4
    rw [show opE 3 sn 0 0 ⟨#[]⟩ = 0 from opE_good hk (by simp [uSn]) rfl rfl rfl]; exact OpErr_30 sn 0 0 ⟨#[]⟩ w
  · by_cases h3 : pg = 0
    rotate_left
    · rw [opE_bad hk (.inr (.inr (.inl (by simpa [uPg] using h3))))]; exact OpErr_44 sn o pg b (ne0 h3) w
    subst h3
    rw [show opE 4 sn o 0 b = 0 from opE_good hk (by simp [uSn]) (by simp [uOf]) rfl (by simp [uBy])]; exact OpErr_40 sn o 0 b w
end Go.Proofs.Ytljminmfldejnaa
