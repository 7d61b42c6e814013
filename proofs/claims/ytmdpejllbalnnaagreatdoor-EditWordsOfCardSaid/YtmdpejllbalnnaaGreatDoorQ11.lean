/- Texts of the walks, merged. -/
import Derived.Test.YtmdpejllbalnnaaGreatDoorQ10
import Derived.Deep.RegionWith
namespace Go.Proofs.YtmdpejllbalnnaaGreatDoor
set_option linter.unusedSimpArgs false
set_option linter.unusedVariables false
open Go.RowKit

theorem ext_all (T : ByteArray) (p : Nat) : T.extract p T.size = BL (T.data.toList.drop p) := by
  have h := BL_cut T.data.toList p T.size
  rw [BL_of] at h
  rw [h, List.take_of_length_le]
  rw [List.length_drop]; exact Nat.le_refl _
set_option maxHeartbeats 2000000 in
theorem suppressed_core (T C Z U R : ByteArray) (F p most : Int) (hF : F < 0 ∨ most < F → p = most) (hF2 : ¬(F < 0 ∨ most < F) → p = F)
    (hI : ∀ w, Calls Tryz.prog 84 #[.string T, .string C] w fun e w' => e = .returned (.int .i64 F) ∧ Gr w w')
    (hB : ∀ w, Calls Tryz.prog 49 #[.int .i64 p] w fun e w' => e = .returned (.string Z) ∧ Gr w w')
    (hS : ∀ w, (Instr.slice 9 (.string T) (some (.int .i64 p)) none none).run Tryz.prog w = .ok (.string U) w)
    (hA : ∀ w, (Op.stringOp .add Z U).run Tryz.prog w = .ok (.string R) w) (w : World) :
    Calls Tryz.prog 62 #[.string T, .string C, .int .i64 most] w fun e w' => e = .returned (.string R) ∧ Gr w w' := by
  by_cases h1 : F < 0
  · obtain rfl := hF (Or.inl h1)
    have b1 : decide (F < 0) = true := by simp [h1]
    clear hF hF2 h1
    go_enter Tryz.func62, Tryz.ntmps62
    go_wp2_with (go_at_call 84; (with_reducible refine (hI _).mono ?_); rintro e w1 ⟨rfl, hb⟩)
    go_region_with (go_at_call 49; (with_reducible refine (hB _).mono ?_); rintro e w2 ⟨rfl, hb2⟩)
    all_goals
      go_wp2_with fail
      go_ret
      exact ⟨rfl, (by repeat (first | (with_reducible exact Gr.refl _) | (with_reducible assumption) | (with_reducible refine Gr.alloc ?_ _) | (with_reducible refine Gr.drew ?_) | (with_reducible refine Gr.drewN ?_ _) | (with_reducible refine Gr.setCell ?_ (by simp <;> omega) _) | (with_reducible refine Gr.trans ?_ (by with_reducible assumption)) | exact Gr.refl _ | assumption | refine Gr.alloc ?_ _ | refine Gr.drew ?_ | refine Gr.drewN ?_ _ | refine Gr.setCell ?_ (by simp <;> omega) _ | refine Gr.trans ?_ (by assumption)))⟩
  · by_cases h2 : most < F
    · obtain rfl := hF (Or.inr h2)
      have b1 : decide (F < 0) = false := by simp [h1]
      have b2 : decide (p < F) = true := by simp [h2]
      clear hF hF2 h1 h2
      go_enter Tryz.func62, Tryz.ntmps62
      go_wp2_with (go_at_call 84; (with_reducible refine (hI _).mono ?_); rintro e w1 ⟨rfl, hb⟩)
      go_region_with (go_at_call 49; (with_reducible refine (hB _).mono ?_); rintro e w2 ⟨rfl, hb2⟩)
      all_goals
        go_wp2_with fail
        go_ret
        exact ⟨rfl, (by repeat (first | (with_reducible exact Gr.refl _) | (with_reducible assumption) | (with_reducible refine Gr.alloc ?_ _) | (with_reducible refine Gr.drew ?_) | (with_reducible refine Gr.drewN ?_ _) | (with_reducible refine Gr.setCell ?_ (by simp <;> omega) _) | (with_reducible refine Gr.trans ?_ (by with_reducible assumption)) | exact Gr.refl _ | assumption | refine Gr.alloc ?_ _ | refine Gr.drew ?_ | refine Gr.drewN ?_ _ | refine Gr.setCell ?_ (by simp <;> omega) _ | refine Gr.trans ?_ (by assumption)))⟩
    · obtain rfl := hF2 (by omega)
      have b1 : decide (p < 0) = false := by simp [h1]
      have b2 : decide (most < p) = false := by simp [h2]
      clear hF hF2 h1 h2
      go_enter Tryz.func62, Tryz.ntmps62
      go_wp2_with (go_at_call 84; (with_reducible refine (hI _).mono ?_); rintro e w1 ⟨rfl, hb⟩)
      go_region_with (go_at_call 49; (with_reducible refine (hB _).mono ?_); rintro e w2 ⟨rfl, hb2⟩)
      all_goals
        go_wp2_with fail
        go_ret
        exact ⟨rfl, (by repeat (first | (with_reducible exact Gr.refl _) | (with_reducible assumption) | (with_reducible refine Gr.alloc ?_ _) | (with_reducible refine Gr.drew ?_) | (with_reducible refine Gr.drewN ?_ _) | (with_reducible refine Gr.setCell ?_ (by simp <;> omega) _) | (with_reducible refine Gr.trans ?_ (by with_reducible assumption)) | exact Gr.refl _ | assumption | refine Gr.alloc ?_ _ | refine Gr.drew ?_ | refine Gr.drewN ?_ _ | refine Gr.setCell ?_ (by simp <;> omega) _ | refine Gr.trans ?_ (by assumption)))⟩
/-- A text with its zeros and commas made blanks, as far as some characters or so many. -/
theorem suppressed_any (T C : ByteArray) (most : Int) (M : Nat) (hm : most = M) (hM : M ≤ T.size) (hT : T.size ≤ 256) (hC : C.size ≤ 256)
    (has : ∀ (j : Nat) b, T.data.toList[j]? = some b → b.toNat < 128) (hac : ∀ (j : Nat) b, C.data.toList[j]? = some b → b.toNat < 128) (w : World) :
    Calls Tryz.prog 62 #[.string T, .string C, .int .i64 most] w fun e w' => e = .returned (.string (BL (sup T.data.toList (spM (Lib.indexAny T.data.toList C.data.toList) M)))) ∧ Gr w w' := by
  have hp := spM_le (Lib.indexAny T.data.toList C.data.toList) M
  have hz : (BL (List.replicate (spM (Lib.indexAny T.data.toList C.data.toList) M) 32)).size + (T.extract (spM (Lib.indexAny T.data.toList C.data.toList) M) T.size).size ≤ 9223372036854775807 := by
    rw [BL_size, List.length_replicate, ByteArray.size_extract]; omega
  have hA := add_ss _ _ hz
  have hE : BL (List.replicate (spM (Lib.indexAny T.data.toList C.data.toList) M) 32) ++ T.extract (spM (Lib.indexAny T.data.toList C.data.toList) M) T.size = BL (sup T.data.toList (spM (Lib.indexAny T.data.toList C.data.toList) M)) := by
    rw [ext_all, BL_append]; rfl
  rw [hE] at hA
  refine suppressed_core T C _ _ _ _ (spM (Lib.indexAny T.data.toList C.data.toList) M : Nat) most ?_ ?_ (fun w => Tryz.strings_IndexAny_laid T C w (by omega) (by omega) has hac) (blanks_any _ _ rfl (by omega)) (fun w => cut_i T _ _ rfl (by omega) w) hA w
  · intro h; unfold spM; rw [if_pos (by omega)]; omega
  · intro h; unfold spM; rw [if_neg (by omega)]; omega
end Go.Proofs.YtmdpejllbalnnaaGreatDoor
namespace Go.Proofs.YtmdpejllbalnnaaGreatDoor
set_option linter.unusedSimpArgs false
set_option linter.unusedVariables false
open Go.RowKit

def nzL : List UInt8 := [49, 50, 51, 52, 53, 54, 55, 56, 57]
theorem nz_dg (b : UInt8) : (!isDg b || (nzL.contains b == !(b == 48))) = true := u8_all (P := fun b => (!isDg b || (nzL.contains b == !(b == 48))) = true) (by decide +kernel) b
theorem lt_mem {l : List UInt8} (h : ∀ b ∈ l, b.toNat < 128) : ∀ (j : Nat) b, l[j]? = some b → b.toNat < 128 := fun j b e => h b (List.mem_of_getElem? e)
theorem isDg_lt {b : UInt8} (h : isDg b = true) : b.toNat < 128 := by
  unfold isDg at h; simp only [Bool.and_eq_true, decide_eq_true_eq] at h; omega
theorem dtT_mem {D : List UInt8} {b : UInt8} (h : b ∈ dtT D) : b ∈ D ∨ b = 47 := by
  unfold dtT at h
  rw [List.mem_append, List.mem_append, List.mem_append] at h
  rcases h with ((h | h) | h) | h
  · exact Or.inl (List.mem_of_mem_take h)
  · exact Or.inr (by simpa using h)
  · exact Or.inl (List.mem_of_mem_drop (List.mem_of_mem_take h))
  · split at h
    · rcases List.mem_cons.1 h with h | h
      · exact Or.inr h
      · exact Or.inl (List.mem_of_mem_drop h)
    · simp at h
theorem dt_sup (D : List UInt8) (h : 4 ≤ D.length) (hd : isDg (dAt D 0) = true) : sup (dtT D) (spM (Lib.indexAny (dtT D) nzL) 1) = dtL D := by
  match D, h with
  | a :: l, h =>
    have ha : isDg a = true := hd
    obtain ⟨R, hR⟩ : ∃ R, dtT (a :: l) = a :: R := ⟨_, by unfold dtT; simp [List.take]; rfl⟩
    have hn := nz_dg a
    rw [ha] at hn
    simp only [Bool.not_true, Bool.false_or, beq_iff_eq] at hn
    unfold dtL
    rw [show dAt (a :: l) 0 = a from rfl, hR, Lib.indexAny, hn]
    have hg := Lib.indexAny_ge nzL R
    by_cases e : a = 48
    · subst e
      simp only [beq_self_eq_true, Bool.not_true, Bool.false_eq_true, if_false, if_true]
      have : spM (if Lib.indexAny R nzL == -1 then -1 else Lib.indexAny R nzL + 1) 1 = 1 := by
        by_cases g : Lib.indexAny R nzL = -1
        · rw [g]; decide
        · have g2 : (Lib.indexAny R nzL == -1) = false := by simpa using g
          rw [g2]
          simp only [Bool.false_eq_true, if_false]
          unfold spM
          split <;> omega
      rw [this]; rfl
    · have : (a == 48) = false := by simpa using e
      rw [this, if_neg e]
      simp only [Bool.not_false, if_true]
      rfl
set_option maxHeartbeats 2000000 in
theorem dated_short (D A1 A2 A3 A4 R : ByteArray) (h4 : D.size = 4)
    (hs1 : ∀ w, (Instr.slice 9 (.string D) none (some (.int .i64 2)) none).run Tryz.prog w = .ok (.string A1) w)
    (ha1 : ∀ w, (Op.stringOp .add A1 ⟨#[47]⟩).run Tryz.prog w = .ok (.string A2) w)
    (hs2 : ∀ w, (Instr.slice 9 (.string D) (some (.int .i64 2)) (some (.int .i64 4)) none).run Tryz.prog w = .ok (.string A3) w)
    (ha2 : ∀ w, (Op.stringOp .add A2 A3).run Tryz.prog w = .ok (.string A4) w)
    (hS : ∀ w, Calls Tryz.prog 62 #[.string A4, .string ⟨#[49, 50, 51, 52, 53, 54, 55, 56, 57]⟩, .int .i64 1] w fun e w' => e = .returned (.string R) ∧ Gr w w') (w : World) :
    Calls Tryz.prog 61 #[.string D] w fun e w' => e = .returned (.string R) ∧ Gr w w' := by
  have h4' : (D.size : Int) = 4 := by omega
  clear h4
  go_enter Tryz.func61, Tryz.ntmps61
  go_wp2
  go_quiet (fail)
  go_wp2_with (go_at_call 62; (with_reducible refine (hS _).mono ?_); rintro e w2 ⟨rfl, hb2⟩)
  go_ret
  exact ⟨rfl, (by repeat (first | (with_reducible exact Gr.refl _) | (with_reducible assumption) | (with_reducible refine Gr.alloc ?_ _) | (with_reducible refine Gr.drew ?_) | (with_reducible refine Gr.drewN ?_ _) | (with_reducible refine Gr.setCell ?_ (by simp <;> omega) _) | (with_reducible refine Gr.trans ?_ (by with_reducible assumption)) | exact Gr.refl _ | assumption | refine Gr.alloc ?_ _ | refine Gr.drew ?_ | refine Gr.drewN ?_ _ | refine Gr.setCell ?_ (by simp <;> omega) _ | refine Gr.trans ?_ (by assumption)))⟩
set_option maxHeartbeats 2000000 in
theorem dated_long (D A1 A2 A3 A4 A5 A6 A7 R : ByteArray) (h4 : 4 < D.size)
    (hs1 : ∀ w, (Instr.slice 9 (.string D) none (some (.int .i64 2)) none).run Tryz.prog w = .ok (.string A1) w)
    (ha1 : ∀ w, (Op.stringOp .add A1 ⟨#[47]⟩).run Tryz.prog w = .ok (.string A2) w)
    (hs2 : ∀ w, (Instr.slice 9 (.string D) (some (.int .i64 2)) (some (.int .i64 4)) none).run Tryz.prog w = .ok (.string A3) w)
    (ha2 : ∀ w, (Op.stringOp .add A2 A3).run Tryz.prog w = .ok (.string A4) w)
    (hs3 : ∀ w, (Instr.slice 9 (.string D) (some (.int .i64 4)) none none).run Tryz.prog w = .ok (.string A5) w)
    (ha3 : ∀ w, (Op.stringOp .add ⟨#[47]⟩ A5).run Tryz.prog w = .ok (.string A6) w)
    (ha4 : ∀ w, (Op.stringOp .add A4 A6).run Tryz.prog w = .ok (.string A7) w)
    (hS : ∀ w, Calls Tryz.prog 62 #[.string A7, .string ⟨#[49, 50, 51, 52, 53, 54, 55, 56, 57]⟩, .int .i64 1] w fun e w' => e = .returned (.string R) ∧ Gr w w') (w : World) :
    Calls Tryz.prog 61 #[.string D] w fun e w' => e = .returned (.string R) ∧ Gr w w' := by
  have h4' : decide ((4 : Int) < (D.size : Int)) = true := by simp; omega
  clear h4
  go_enter Tryz.func61, Tryz.ntmps61
  go_wp2
  go_quiet (fail)
  go_wp2_with (go_at_call 62; (with_reducible refine (hS _).mono ?_); rintro e w2 ⟨rfl, hb2⟩)
  go_ret
  exact ⟨rfl, (by repeat (first | (with_reducible exact Gr.refl _) | (with_reducible assumption) | (with_reducible refine Gr.alloc ?_ _) | (with_reducible refine Gr.drew ?_) | (with_reducible refine Gr.drewN ?_ _) | (with_reducible refine Gr.setCell ?_ (by simp <;> omega) _) | (with_reducible refine Gr.trans ?_ (by with_reducible assumption)) | exact Gr.refl _ | assumption | refine Gr.alloc ?_ _ | refine Gr.drew ?_ | refine Gr.drewN ?_ _ | refine Gr.setCell ?_ (by simp <;> omega) _ | refine Gr.trans ?_ (by assumption)))⟩
theorem dated_any (D : List UInt8) (h : D.length = 4 ∨ D.length = 6 ∨ D.length = 8) (hd : ∀ b ∈ D, isDg b = true) (w : World) :
    Calls Tryz.prog 61 #[.string (BL D)] w fun e w' => e = .returned (.string (BL (dtL D))) ∧ Gr w w' := by
  have hsz : (BL D).size = D.length := BL_size D
  have hlt : ∀ (j : Nat) b, (BL (dtT D)).data.toList[j]? = some b → b.toNat < 128 := by
    rw [BL_list]; exact lt_mem fun b hb => by
      rcases dtT_mem hb with g | g
      · exact isDg_lt (hd b g)
      · subst g; decide
  have hlen : 1 ≤ (BL (dtT D)).size ∧ (BL (dtT D)).size ≤ 256 := by
    rw [BL_size]; unfold dtT; simp only [List.length_append, List.length_take, List.length_drop, List.length_cons, List.length_nil]; split <;> simp <;> omega
  have hS := suppressed_any (BL (dtT D)) ⟨#[49, 50, 51, 52, 53, 54, 55, 56, 57]⟩ 1 1 rfl hlen.1 hlen.2 (by decide) hlt (lt_mem (l := nzL) (by decide))
  have hdt := dt_sup D (by omega) (by
    have : 0 < D.length := by omega
    unfold dAt; rw [List.getD_eq_getElem?_getD, List.getElem?_eq_getElem this]; exact hd _ (List.getElem_mem this))
  rw [BL_list] at hS
  change ∀ w, Calls Tryz.prog 62 #[.string (BL (dtT D)), .string ⟨#[49, 50, 51, 52, 53, 54, 55, 56, 57]⟩, .int .i64 1] w fun e w' => e = .returned (.string (BL (sup (dtT D) (spM (Lib.indexAny (dtT D) nzL) 1)))) ∧ Gr w w' at hS
  rw [hdt] at hS
  have e1 : (BL D).extract 0 2 = BL (D.take 2) := BL_cut D 0 2
  have e2 : (BL D).extract 2 4 = BL ((D.drop 2).take 2) := BL_cut D 2 4
  have e3 : (BL D).extract 4 (BL D).size = BL (D.drop 4) := by rw [ext_all, BL_list]
  have c1 := cut_j (BL D) 2 2 rfl (by omega)
  have c2 := cut_ij (BL D) 2 4 2 4 rfl rfl (by omega) (by omega)
  have c3 := cut_i (BL D) 4 4 rfl (by omega)
  rw [e1] at c1; rw [e2] at c2; rw [e3] at c3
  have s1 : (BL (D.take 2)).size ≤ 8 := by rw [BL_size, List.length_take]; omega
  have s2 : (BL ((D.drop 2).take 2)).size ≤ 8 := by rw [BL_size, List.length_take]; omega
  have s3 : (BL (D.drop 4)).size ≤ 8 := by rw [BL_size, List.length_drop]; omega
  have x : (⟨#[47]⟩ : ByteArray) = BL [47] := rfl
  have s0 : (BL [47]).size = 1 := rfl
  by_cases g : 4 < D.length
  · refine dated_long (BL D) _ _ _ _ _ _ (BL (dtT D)) _ (by omega) c1 (add_ss _ _ ?_) c2 (add_ss _ _ ?_) c3 (add_ss _ _ ?_) (fun w => ?_) hS w
    · rw [x]; omega
    · rw [x, ByteArray.size_append]; omega
    · rw [x]; omega
    · rw [add_ss]
      · rw [x, BL_append, BL_append, BL_append, BL_append]
        unfold dtT; rw [if_pos g]; rfl
      · rw [x, ByteArray.size_append, ByteArray.size_append, ByteArray.size_append]; omega
  · refine dated_short (BL D) _ _ _ (BL (dtT D)) _ (by omega) c1 (add_ss _ _ ?_) c2 (fun w => ?_) hS w
    · rw [x]; omega
    · rw [add_ss]
      · rw [x, BL_append, BL_append]
        unfold dtT; rw [if_neg g, List.append_nil]
      · rw [x, ByteArray.size_append]; omega
end Go.Proofs.YtmdpejllbalnnaaGreatDoor
namespace Go.Proofs.YtmdpejllbalnnaaGreatDoor
set_option linter.unusedSimpArgs false
set_option linter.unusedVariables false
open Go.RowKit

set_option maxHeartbeats 4000000 in
theorem signed_core (k l s n q1 q2 : Int) (D T X Z R B : ByteArray) (cm zp ld : Bool) (hq1 : IntKind.i64.wrap ((T.size : Int) + (B.size : Int)) = q1) (hq2 : IntKind.i64.wrap ((T.size : Int) - 1) = q2)
    (hSp : ∀ w, Calls Tryz.prog 52 #[.agg #[.int .i64 k, .int .i64 l, .int .i64 s], .string D, .bool cm] w fun e w' => e = .returned (.string T) ∧ Gr w w')
    (h0 : n = 0 → zp = false → ∀ w, Calls Tryz.prog 49 #[.int .i64 q1] w fun e w' => e = .returned (.string R) ∧ Gr w w')
    (h1 : (n = 0 → zp = true) → ∀ w, Calls Tryz.prog 62 #[.string T, .string ⟨#[46, 49, 50, 51, 52, 53, 54, 55, 56, 57]⟩, .int .i64 q2] w fun e w' => e = .returned (.string X) ∧ Gr w w')
    (h2 : (n = 0 → zp = true) → n < 0 → ∀ w, (Op.stringOp .add X B).run Tryz.prog w = .ok (.string R) w)
    (h3 : (n = 0 → zp = true) → ¬n < 0 → (∀ w, Calls Tryz.prog 49 #[.int .i64 (B.size : Int)] w fun e w' => e = .returned (.string Z) ∧ Gr w w') ∧ ∀ w, (Op.stringOp .add X Z).run Tryz.prog w = .ok (.string R) w) (w : World) :
    Calls Tryz.prog 64 #[.agg #[.int .i64 k, .int .i64 l, .int .i64 s], .string D, .int .i64 n, .agg #[.bool cm, .bool zp, .bool ld, .string B]] w fun e w' => e = .returned (.string R) ∧ Gr w w' := by
  by_cases hn : n = 0
  · subst hn
    cases zp
    · replace h0 := h0 rfl rfl
      clear h1 h2 h3
      go_enter Tryz.func64, Tryz.ntmps64
      go_wp2_with (first | (go_at_call 52; (with_reducible refine (hSp _).mono ?_); rintro e w1 ⟨rfl, hb⟩; obtain ⟨hc, hf⟩ := gcells hb (w.heap.size + 2) (by first | exact hz | omega | (simp; done) | (simp; omega)); have hz : w.heap.size + 2 ≤ w1.heap.size := (by have h := hb.size; (try simp at h); omega); have hz0 : w.heap.size < w1.heap.size := (by omega)) | (go_at_call 49; (with_reducible refine (h0 _).mono ?_); rintro e w1 ⟨rfl, hb⟩; obtain ⟨hc, hf⟩ := gcells hb (w.heap.size + 2) (by first | exact hz | omega | (simp; done) | (simp; omega)); have hz : w.heap.size + 2 ≤ w1.heap.size := (by have h := hb.size; (try simp at h); omega); have hz0 : w.heap.size < w1.heap.size := (by omega)))
      go_ret
      exact ⟨rfl, (by repeat (first | (with_reducible exact Gr.refl _) | (with_reducible assumption) | (with_reducible refine Gr.alloc ?_ _) | (with_reducible refine Gr.drew ?_) | (with_reducible refine Gr.drewN ?_ _) | (with_reducible refine Gr.setCell ?_ (by simp <;> omega) _) | (with_reducible refine Gr.trans ?_ (by with_reducible assumption)) | exact Gr.refl _ | assumption | refine Gr.alloc ?_ _ | refine Gr.drew ?_ | refine Gr.drewN ?_ _ | refine Gr.setCell ?_ (by simp <;> omega) _ | refine Gr.trans ?_ (by assumption)))⟩
    · replace h1 := h1 (fun _ => rfl)
      obtain ⟨h3a, h3b⟩ := h3 (fun _ => rfl) (by omega)
      clear h0 h2 h3
      go_enter Tryz.func64, Tryz.ntmps64
      go_wp2_with (first | (go_at_call 52; (with_reducible refine (hSp _).mono ?_); rintro e w1 ⟨rfl, hb⟩; obtain ⟨hc, hf⟩ := gcells hb (w.heap.size + 2) (by first | exact hz | omega | (simp; done) | (simp; omega)); have hz : w.heap.size + 2 ≤ w1.heap.size := (by have h := hb.size; (try simp at h); omega); have hz0 : w.heap.size < w1.heap.size := (by omega)) | (go_at_call 49; (with_reducible refine (h3a _).mono ?_); rintro e w1 ⟨rfl, hb⟩; obtain ⟨hc, hf⟩ := gcells hb (w.heap.size + 2) (by first | exact hz | omega | (simp; done) | (simp; omega)); have hz : w.heap.size + 2 ≤ w1.heap.size := (by have h := hb.size; (try simp at h); omega); have hz0 : w.heap.size < w1.heap.size := (by omega)) | (go_at_call 62; (with_reducible refine (h1 _).mono ?_); rintro e w1 ⟨rfl, hb⟩; obtain ⟨hc, hf⟩ := gcells hb (w.heap.size + 2) (by first | exact hz | omega | (simp; done) | (simp; omega)); have hz : w.heap.size + 2 ≤ w1.heap.size := (by have h := hb.size; (try simp at h); omega); have hz0 : w.heap.size < w1.heap.size := (by omega)))
      go_ret
      exact ⟨rfl, (by repeat (first | (with_reducible exact Gr.refl _) | (with_reducible assumption) | (with_reducible refine Gr.alloc ?_ _) | (with_reducible refine Gr.drew ?_) | (with_reducible refine Gr.drewN ?_ _) | (with_reducible refine Gr.setCell ?_ (by simp <;> omega) _) | (with_reducible refine Gr.trans ?_ (by with_reducible assumption)) | exact Gr.refl _ | assumption | refine Gr.alloc ?_ _ | refine Gr.drew ?_ | refine Gr.drewN ?_ _ | refine Gr.setCell ?_ (by simp <;> omega) _ | refine Gr.trans ?_ (by assumption)))⟩
  · have b0 : (n == 0) = false := by simp [hn]
    have hz : n = 0 → zp = true := fun e => absurd e hn
    replace h1 := h1 hz
    by_cases hneg : n < 0
    · have b1 : decide (n < 0) = true := by simp [hneg]
      replace h2 := h2 hz hneg
      clear h0 h3 hz hn hneg
      go_enter Tryz.func64, Tryz.ntmps64
      go_wp2_with (first | (go_at_call 52; (with_reducible refine (hSp _).mono ?_); rintro e w1 ⟨rfl, hb⟩; obtain ⟨hc, hf⟩ := gcells hb (w.heap.size + 2) (by first | exact hz | omega | (simp; done) | (simp; omega)); have hz : w.heap.size + 2 ≤ w1.heap.size := (by have h := hb.size; (try simp at h); omega); have hz0 : w.heap.size < w1.heap.size := (by omega)) | (go_at_call 62; (with_reducible refine (h1 _).mono ?_); rintro e w1 ⟨rfl, hb⟩; obtain ⟨hc, hf⟩ := gcells hb (w.heap.size + 2) (by first | exact hz | omega | (simp; done) | (simp; omega)); have hz : w.heap.size + 2 ≤ w1.heap.size := (by have h := hb.size; (try simp at h); omega); have hz0 : w.heap.size < w1.heap.size := (by omega)))
      go_ret
      exact ⟨rfl, (by repeat (first | (with_reducible exact Gr.refl _) | (with_reducible assumption) | (with_reducible refine Gr.alloc ?_ _) | (with_reducible refine Gr.drew ?_) | (with_reducible refine Gr.drewN ?_ _) | (with_reducible refine Gr.setCell ?_ (by simp <;> omega) _) | (with_reducible refine Gr.trans ?_ (by with_reducible assumption)) | exact Gr.refl _ | assumption | refine Gr.alloc ?_ _ | refine Gr.drew ?_ | refine Gr.drewN ?_ _ | refine Gr.setCell ?_ (by simp <;> omega) _ | refine Gr.trans ?_ (by assumption)))⟩
    · have b1 : decide (n < 0) = false := by simp [hneg]
      obtain ⟨h3a, h3b⟩ := h3 hz hneg
      clear h0 h2 h3 hz hn hneg
      go_enter Tryz.func64, Tryz.ntmps64
      go_wp2_with (first | (go_at_call 52; (with_reducible refine (hSp _).mono ?_); rintro e w1 ⟨rfl, hb⟩; obtain ⟨hc, hf⟩ := gcells hb (w.heap.size + 2) (by first | exact hz | omega | (simp; done) | (simp; omega)); have hz : w.heap.size + 2 ≤ w1.heap.size := (by have h := hb.size; (try simp at h); omega); have hz0 : w.heap.size < w1.heap.size := (by omega)) | (go_at_call 49; (with_reducible refine (h3a _).mono ?_); rintro e w1 ⟨rfl, hb⟩; obtain ⟨hc, hf⟩ := gcells hb (w.heap.size + 2) (by first | exact hz | omega | (simp; done) | (simp; omega)); have hz : w.heap.size + 2 ≤ w1.heap.size := (by have h := hb.size; (try simp at h); omega); have hz0 : w.heap.size < w1.heap.size := (by omega)) | (go_at_call 62; (with_reducible refine (h1 _).mono ?_); rintro e w1 ⟨rfl, hb⟩; obtain ⟨hc, hf⟩ := gcells hb (w.heap.size + 2) (by first | exact hz | omega | (simp; done) | (simp; omega)); have hz : w.heap.size + 2 ≤ w1.heap.size := (by have h := hb.size; (try simp at h); omega); have hz0 : w.heap.size < w1.heap.size := (by omega)))
      go_ret
      exact ⟨rfl, (by repeat (first | (with_reducible exact Gr.refl _) | (with_reducible assumption) | (with_reducible refine Gr.alloc ?_ _) | (with_reducible refine Gr.drew ?_) | (with_reducible refine Gr.drewN ?_ _) | (with_reducible refine Gr.setCell ?_ (by simp <;> omega) _) | (with_reducible refine Gr.trans ?_ (by with_reducible assumption)) | exact Gr.refl _ | assumption | refine Gr.alloc ?_ _ | refine Gr.drew ?_ | refine Gr.drewN ?_ _ | refine Gr.setCell ?_ (by simp <;> omega) _ | refine Gr.trans ?_ (by assumption)))⟩
/-- What the function's calls and sums give: p blanks, a mark, the rest. -/
theorem front_eq (T : List UInt8) (p : Nat) (c : UInt8) (w : World) (hp : p ≤ T.length) (hT : T.length ≤ 256) :
    (∀ w, (Instr.slice 9 (.string (BL T)) (some (.int .i64 p)) none none).run Tryz.prog w = .ok (.string (BL (T.drop p))) w) ∧
    (∀ w, (Op.stringOp .add (BL (List.replicate p 32)) ⟨#[c]⟩).run Tryz.prog w = .ok (.string (BL (List.replicate p 32 ++ [c]))) w) ∧
    (∀ w, (Op.stringOp .add (BL (List.replicate p 32 ++ [c])) (BL (T.drop p))).run Tryz.prog w = .ok (.string (BL (List.replicate p 32 ++ [c] ++ T.drop p))) w) ∧
    (∀ w, (Op.stringOp .add (BL (List.replicate p 42)) (BL (T.drop p))).run Tryz.prog w = .ok (.string (BL (List.replicate p 42 ++ T.drop p))) w) ∧
    (∀ w, (Op.stringOp .add ⟨#[32]⟩ (BL T)).run Tryz.prog w = .ok (.string (BL (32 :: T))) w) := by
  have x : ∀ c : UInt8, (⟨#[c]⟩ : ByteArray) = BL [c] := fun _ => rfl
  refine ⟨fun w => ?_, fun w => ?_, fun w => ?_, fun w => ?_, fun w => ?_⟩
  · rw [cut_i (BL T) p p rfl (by rw [BL_size]; exact hp), ext_all, BL_list]
  · rw [x, add_ss _ _ (by rw [BL_size, BL_size, List.length_replicate, List.length_singleton]; omega), BL_append]
  · rw [add_ss _ _ (by rw [BL_size, BL_size, List.length_append, List.length_replicate, List.length_singleton, List.length_drop]; omega), BL_append]
  · rw [add_ss _ _ (by rw [BL_size, BL_size, List.length_replicate, List.length_drop]; omega), BL_append]
  · rw [x, add_ss _ _ (by rw [BL_size, BL_size, List.length_singleton]; omega), BL_append]; rfl
set_option maxHeartbeats 8000000 in
theorem fronted_any (T : List UInt8) (n f : Int) (cm zp ld : Bool) (B : ByteArray) (hT : T.length ≤ 256) (hl : ld = true → n < 0 → lb T < T.length) (w : World) :
    Calls Tryz.prog 63 #[.string (BL T), .int .i64 n, .int .i64 f, .agg #[.bool cm, .bool zp, .bool ld, .string B]] w fun e w' =>
      e = .returned (.string (BL (if ld then (if n < 0 then flL T 45 else 32 :: T) else if f = 2 then flL T 36 else if f = 1 then stL T else T))) ∧ Gr w w' := by
  have hTr : ∀ w, Calls Tryz.prog 85 #[.string (BL T), .string ⟨#[32]⟩] w fun e w' => e = .returned (.string (BL (T.drop (lb T)))) ∧ w = w' := fun w => by
    refine (Tryz.strings_TrimLeft_one (BL T) 32 (by decide) w).mono fun e w' ⟨a, b⟩ => ⟨?_, b.symm⟩
    rw [a, BL_list]
    unfold Lib.trimLeftB
    rw [(lb_trim T).2]; rfl
  have hle := lb_le T
  have hsub : IntKind.i64.wrap (((BL T).size : Int) - ((BL (T.drop (lb T))).size : Int)) = (lb T : Nat) := by
    rw [BL_size, BL_size, List.length_drop, IntWalk.i64_in _ (by omega)]; omega
  have hBl := blanks_any (lb T : Nat) (lb T) rfl (by omega)
  have hSt := rep_any 42 (lb T) (by omega)
  obtain ⟨e1, e2, e3, e4, e5⟩ := front_eq T (lb T) 45 w hle hT
  obtain ⟨-, f2, f3, -, -⟩ := front_eq T (lb T) 36 w hle hT
  have hsz : (BL T).size = T.length := BL_size T
  cases ld
  · simp only [Bool.false_eq_true, if_false]
    by_cases h2 : f = 2
    · subst h2
      rw [if_pos rfl]
      unfold flL
      by_cases g : lb T < T.length
      · rw [if_pos g]
        have b : ((lb T : Int) == ((BL T).size : Int)) = false := by rw [hsz]; simp; omega
        generalize BL (T.drop (lb T)) = U at *
        generalize BL (List.replicate (lb T) 32 ++ [36] ++ T.drop (lb T)) = R at *
        generalize BL (List.replicate (lb T) 32 ++ [36]) = Y at *
        generalize BL (List.replicate (lb T) 32) = Z at *
        generalize lb T = p at *
        generalize BL T = W at *
        clear e2 e3 e4 e5 hSt hl hle hsz g
        go_enter Tryz.func63, Tryz.ntmps63
        go_wp2_with ((go_at_call 85; (with_reducible refine (hTr _).mono ?_); rintro e w1 ⟨rfl, rfl⟩))
        go_region_with (go_at_call 49; (with_reducible refine (hBl _).mono ?_); rintro e w2 ⟨rfl, hb2⟩)
        all_goals
          go_wp2_with fail
          go_ret
          exact ⟨rfl, (by repeat (first | (with_reducible exact Gr.refl _) | (with_reducible assumption) | (with_reducible refine Gr.alloc ?_ _) | (with_reducible refine Gr.drew ?_) | (with_reducible refine Gr.drewN ?_ _) | (with_reducible refine Gr.setCell ?_ (by simp <;> omega) _) | (with_reducible refine Gr.trans ?_ (by with_reducible assumption)) | exact Gr.refl _ | assumption | refine Gr.alloc ?_ _ | refine Gr.drew ?_ | refine Gr.drewN ?_ _ | refine Gr.setCell ?_ (by simp <;> omega) _ | refine Gr.trans ?_ (by assumption)))⟩
      · rw [if_neg g]
        have b : ((lb T : Int) == ((BL T).size : Int)) = true := by rw [hsz]; simp; omega
        generalize BL (T.drop (lb T)) = U at *
        generalize BL (32 :: T) = R at *
        generalize lb T = p at *
        generalize BL T = W at *
        clear e1 e2 e3 e4 f2 f3 hSt hBl hl hle hsz g
        go_enter Tryz.func63, Tryz.ntmps63
        go_wp2_with ((go_at_call 85; (with_reducible refine (hTr _).mono ?_); rintro e w1 ⟨rfl, rfl⟩))
        go_ret
        exact ⟨rfl, (by repeat (first | (with_reducible exact Gr.refl _) | (with_reducible assumption) | (with_reducible refine Gr.alloc ?_ _) | (with_reducible refine Gr.drew ?_) | (with_reducible refine Gr.drewN ?_ _) | (with_reducible refine Gr.setCell ?_ (by simp <;> omega) _) | (with_reducible refine Gr.trans ?_ (by with_reducible assumption)) | exact Gr.refl _ | assumption | refine Gr.alloc ?_ _ | refine Gr.drew ?_ | refine Gr.drewN ?_ _ | refine Gr.setCell ?_ (by simp <;> omega) _ | refine Gr.trans ?_ (by assumption)))⟩
    · rw [if_neg h2]
      have b2 : (f == 2) = false := by simp [h2]
      by_cases h1 : f = 1
      · rw [if_pos h1]
        have b1 : (f == 1) = true := by simp [h1]
        unfold stL
        by_cases g : lb T < T.length
        · rw [if_pos g]
          have b : decide ((lb T : Int) < ((BL T).size : Int)) = true := by rw [hsz]; simp; omega
          have bN : lb T < (BL T).size := by rw [hsz]; exact g
          generalize BL (T.drop (lb T)) = U at *
          generalize BL (List.replicate (lb T) 42 ++ T.drop (lb T)) = R at *
          generalize BL (List.replicate (lb T) 42) = Z at *
          generalize lb T = p at *
          generalize BL T = W at *
          clear e2 e3 e5 f2 f3 hBl hl hle hsz g h2 h1
          go_enter Tryz.func63, Tryz.ntmps63
          go_wp2_with ((go_at_call 85; (with_reducible refine (hTr _).mono ?_); rintro e w1 ⟨rfl, rfl⟩))
          go_region_with (go_at_call 78; (with_reducible refine (hSt _).mono ?_); rintro e w2 ⟨rfl, hb2⟩)
          all_goals
            go_wp2_with fail
            go_ret
            exact ⟨rfl, (by repeat (first | (with_reducible exact Gr.refl _) | (with_reducible assumption) | (with_reducible refine Gr.alloc ?_ _) | (with_reducible refine Gr.drew ?_) | (with_reducible refine Gr.drewN ?_ _) | (with_reducible refine Gr.setCell ?_ (by simp <;> omega) _) | (with_reducible refine Gr.trans ?_ (by with_reducible assumption)) | exact Gr.refl _ | assumption | refine Gr.alloc ?_ _ | refine Gr.drew ?_ | refine Gr.drewN ?_ _ | refine Gr.setCell ?_ (by simp <;> omega) _ | refine Gr.trans ?_ (by assumption)))⟩
        · rw [if_neg g]
          have b : decide ((lb T : Int) < ((BL T).size : Int)) = false := by rw [hsz]; simp; omega
          have bN : ¬lb T < (BL T).size := by rw [hsz]; exact g
          generalize BL (T.drop (lb T)) = U at *
          generalize lb T = p at *
          generalize BL T = W at *
          clear e1 e2 e3 e4 e5 f2 f3 hBl hSt hl hle hsz g h2 h1
          go_enter Tryz.func63, Tryz.ntmps63
          go_wp2_with ((go_at_call 85; (with_reducible refine (hTr _).mono ?_); rintro e w1 ⟨rfl, rfl⟩))
          go_ret
          exact ⟨rfl, (by repeat (first | (with_reducible exact Gr.refl _) | (with_reducible assumption) | (with_reducible refine Gr.alloc ?_ _) | (with_reducible refine Gr.drew ?_) | (with_reducible refine Gr.drewN ?_ _) | (with_reducible refine Gr.setCell ?_ (by simp <;> omega) _) | (with_reducible refine Gr.trans ?_ (by with_reducible assumption)) | exact Gr.refl _ | assumption | refine Gr.alloc ?_ _ | refine Gr.drew ?_ | refine Gr.drewN ?_ _ | refine Gr.setCell ?_ (by simp <;> omega) _ | refine Gr.trans ?_ (by assumption)))⟩
      · rw [if_neg h1]
        have b1 : (f == 1) = false := by simp [h1]
        generalize BL (T.drop (lb T)) = U at *
        generalize lb T = p at *
        generalize BL T = W at *
        clear e1 e2 e3 e4 e5 f2 f3 hBl hSt hl hle hsz h2 h1
        go_enter Tryz.func63, Tryz.ntmps63
        go_wp2_with ((go_at_call 85; (with_reducible refine (hTr _).mono ?_); rintro e w1 ⟨rfl, rfl⟩))
        go_ret
        exact ⟨rfl, (by repeat (first | (with_reducible exact Gr.refl _) | (with_reducible assumption) | (with_reducible refine Gr.alloc ?_ _) | (with_reducible refine Gr.drew ?_) | (with_reducible refine Gr.drewN ?_ _) | (with_reducible refine Gr.setCell ?_ (by simp <;> omega) _) | (with_reducible refine Gr.trans ?_ (by with_reducible assumption)) | exact Gr.refl _ | assumption | refine Gr.alloc ?_ _ | refine Gr.drew ?_ | refine Gr.drewN ?_ _ | refine Gr.setCell ?_ (by simp <;> omega) _ | refine Gr.trans ?_ (by assumption)))⟩
  · simp only [if_true]
    by_cases hn : n < 0
    · rw [if_pos hn]
      have g := hl rfl hn
      unfold flL
      rw [if_pos g]
      have b : decide (0 ≤ n) = false := by simp; omega
      generalize BL (T.drop (lb T)) = U at *
      generalize BL (List.replicate (lb T) 32 ++ [45] ++ T.drop (lb T)) = R at *
      generalize BL (List.replicate (lb T) 32 ++ [45]) = Y at *
      generalize BL (List.replicate (lb T) 32) = Z at *
      generalize lb T = p at *
      generalize BL T = W at *
      clear e4 e5 f2 f3 hSt hl hle hsz g hn
      go_enter Tryz.func63, Tryz.ntmps63
      go_wp2_with ((go_at_call 85; (with_reducible refine (hTr _).mono ?_); rintro e w1 ⟨rfl, rfl⟩))
      go_region_with (go_at_call 49; (with_reducible refine (hBl _).mono ?_); rintro e w2 ⟨rfl, hb2⟩)
      all_goals
        go_wp2_with fail
        go_ret
        exact ⟨rfl, (by repeat (first | (with_reducible exact Gr.refl _) | (with_reducible assumption) | (with_reducible refine Gr.alloc ?_ _) | (with_reducible refine Gr.drew ?_) | (with_reducible refine Gr.drewN ?_ _) | (with_reducible refine Gr.setCell ?_ (by simp <;> omega) _) | (with_reducible refine Gr.trans ?_ (by with_reducible assumption)) | exact Gr.refl _ | assumption | refine Gr.alloc ?_ _ | refine Gr.drew ?_ | refine Gr.drewN ?_ _ | refine Gr.setCell ?_ (by simp <;> omega) _ | refine Gr.trans ?_ (by assumption)))⟩
    · rw [if_neg hn]
      have b : decide (0 ≤ n) = true := by simp; omega
      generalize BL (T.drop (lb T)) = U at *
      generalize BL (32 :: T) = R at *
      generalize lb T = p at *
      generalize BL T = W at *
      clear e1 e2 e3 e4 f2 f3 hBl hSt hl hle hsz hn
      go_enter Tryz.func63, Tryz.ntmps63
      go_wp2_with ((go_at_call 85; (with_reducible refine (hTr _).mono ?_); rintro e w1 ⟨rfl, rfl⟩))
      go_ret
      exact ⟨rfl, (by repeat (first | (with_reducible exact Gr.refl _) | (with_reducible assumption) | (with_reducible refine Gr.alloc ?_ _) | (with_reducible refine Gr.drew ?_) | (with_reducible refine Gr.drewN ?_ _) | (with_reducible refine Gr.setCell ?_ (by simp <;> omega) _) | (with_reducible refine Gr.trans ?_ (by with_reducible assumption)) | exact Gr.refl _ | assumption | refine Gr.alloc ?_ _ | refine Gr.drew ?_ | refine Gr.drewN ?_ _ | refine Gr.setCell ?_ (by simp <;> omega) _ | refine Gr.trans ?_ (by assumption)))⟩
end Go.Proofs.YtmdpejllbalnnaaGreatDoor
