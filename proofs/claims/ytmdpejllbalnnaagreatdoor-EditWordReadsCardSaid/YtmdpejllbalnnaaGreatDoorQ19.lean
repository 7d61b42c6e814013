/- Texts of the walks, merged. -/
import Derived.Test.YtmdpejllbalnnaaGreatDoorQ14
import Derived.Test.YtmdpejllbalnnaaGreatDoorQ17
import Derived.Laws.StructEq
namespace Go.Proofs.YtmdpejllbalnnaaGreatDoor
set_option linter.unusedSimpArgs false
set_option linter.unusedVariables false
open Go.RowKit

theorem pDig (b : UInt8) (d : Bool) (h : isDg b = d) (w : World) : Calls Tryz.prog 73 #[.int .u8 (b.toNat : Int)] w fun e w' => e = .returned (.bool d) ∧ w = w' := by
  have hb : decide ((48 : Int) ≤ (b.toNat : Int)) = decide (48 ≤ b.toNat) := decide_eq_decide.2 (by omega)
  have hc : decide ((b.toNat : Int) ≤ 57) = decide (b.toNat ≤ 57) := decide_eq_decide.2 (by omega)
  have hd : (decide ((48 : Int) ≤ (b.toNat : Int)) && decide ((b.toNat : Int) ≤ 57)) = d := by rw [hb, hc]; exact h
  generalize (b.toNat : Int) = y at *
  clear hb hc h
  by_cases g1 : (48 : Int) ≤ y
  · by_cases g2 : y ≤ 57
    · have E := Lib.hid (show d = true by rw [← hd]; simp [g1, g2])
      clear hd
      go_enter Tryz.func73, Tryz.ntmps73
      go_wp2
      go_ret
      exact ⟨ret_bool E.out.symm, rfl⟩
    · have E := Lib.hid (show d = false by rw [← hd]; simp [g2])
      have b2 : decide (y ≤ 57) = false := by simp; omega
      clear hd
      go_enter Tryz.func73, Tryz.ntmps73
      go_wp2
      go_ret
      exact ⟨ret_bool E.out.symm, rfl⟩
  · have E := Lib.hid (show d = false by rw [← hd]; simp [g1])
    have b1 : decide (48 ≤ y) = false := by simp; omega
    clear hd
    go_enter Tryz.func73, Tryz.ntmps73
    go_wp2
    go_ret
    exact ⟨ret_bool E.out.symm, rfl⟩
set_option maxHeartbeats 4000000 in
set_option maxRecDepth 100000 in
theorem edAmount_any (k s : Int) (S : List UInt8) (L M : Nat) (hM : S.length = M) (hM1 : M ≤ 1000) (hL : L ≤ 17) (w : World) :
    Calls Tryz.prog 35 #[.agg #[.int .i64 k, .int .i64 (L : Int), .int .i64 s], .string (BL S)] w fun e w' => e = .returned (.int .i64 ((amF L S M).1 : Nat)) ∧ Gr w w' := by
  have hsz : (BL S).size = M := by rw [BL_size]; exact hM
  have HAT := Lib.hid fun q (h : q < (BL S).size) => show (((BL S)[q]'h).toNat : Int) = ((dAt S q).toNat : Int) by rw [BL_at]
  have hbd : ∀ q, ((amF L S q).1 : Int) ≤ 1000000000000000000 := fun q => by
    obtain ⟨h1, h2⟩ := amF_le L S q
    have h3 : 10 ^ (amF L S q).2 ≤ 10 ^ 17 := Nat.pow_le_pow_right (by omega) (by omega)
    have h4 : (10 : Nat) ^ 17 = 100000000000000000 := by decide
    omega
  have HBD := Lib.hid hbd
  clear hbd
  generalize BL S = X at *
  go_enter Tryz.func35, Tryz.ntmps35
  go_wp2
  go_loop [5, 6, 7] (fun v c i => ∃ q : Nat, q ≤ M ∧ i = .int .i64 q ∧ v = .int .i64 ((amF L S q).1 : Nat) ∧ c = .int .i64 ((amF L S q).2 : Nat)) (fun _ _ i => M - (intOf i).toNat)
  case atStart => exact ⟨0, by omega, rfl, rfl, rfl⟩
  case round =>
    obtain ⟨q, hq, rfl, rfl, rfl⟩ := hrel
    have hb0 := HBD.out q
    have hb1 := HBD.out (q + 1)
    have hc0 := (amF_le L S q).1
    by_cases hlt : q < M
    · have hqX : q < X.size := by omega
      have hbT := HAT.out q hqX
      have hst : amF L S (q + 1) = if (amF L S q).2 < L ∧ isDg (dAt S q) = true then (10 * (amF L S q).1 + ((dAt S q).toNat - 48), (amF L S q).2 + 1) else amF L S q := rfl
      by_cases hcl : (amF L S q).2 < L
      · obtain ⟨t, ht⟩ : ∃ t, dAt S q = t := ⟨_, rfl⟩
        obtain ⟨d, hd⟩ : ∃ d, isDg t = d := ⟨_, rfl⟩
        have hdl := pDig t d hd
        have hdr : isDg t = true → 48 ≤ t.toNat ∧ t.toNat ≤ 57 := by unfold isDg; simp
        rw [ht, hd] at hst
        rw [ht] at hbT
        rw [hd] at hdr
        have hcl2 : decide (((amF L S q).2 : Int) < (L : Int)) = true := by simp; omega
        have hcl3 : decide ((amF L S q).2 < L) = true := decide_eq_true hcl
        cases d
        · rw [if_neg (by simp)] at hst
          have HS := Lib.hid hst
          clear hst ht hd hdr hb1 hcl
          generalize hv : (amF L S q).1 = v at *
          generalize hcc : (amF L S q).2 = c at *
          have HV := Lib.hid (And.intro hv hcc)
          clear hv hcc
          generalize (t.toNat : Int) = y at *
          go_wp2_with ((go_at_call 73; (with_reducible refine (hdl _).mono ?_); rintro e w1 ⟨rfl, rfl⟩))
          go_round
          case rel => exact ⟨q + 1, by omega, by go_num, by rw [HS.out, HV.out.1], by rw [HS.out, HV.out.2]⟩
          case measure => simp [intOf]; omega
        · rw [if_pos ⟨hcl, rfl⟩] at hst
          rw [hst] at hb1
          have HS := Lib.hid hst
          obtain ⟨d1, d2⟩ := hdr rfl
          clear hst ht hd hdr hcl
          generalize (amF L S q).1 = v at *
          generalize (amF L S q).2 = c at *
          have HS1 := Lib.hid (show (((amF L S (q + 1)).1 : Nat) : Int) = 10 * (v : Int) + ((t.toNat : Int) - 48) by rw [HS.out]; show ((10 * v + (t.toNat - 48) : Nat) : Int) = _; omega)
          have HS2 := Lib.hid (show (((amF L S (q + 1)).2 : Nat) : Int) = (c : Int) + 1 by rw [HS.out]; rfl)
          have hbb : 10 * (v : Int) + ((t.toNat : Int) - 48) ≤ 1000000000000000000 := by
            have : ((10 * v + (t.toNat - 48) : Nat) : Int) ≤ 1000000000000000000 := hb1
            omega
          have hy1 : (48 : Int) ≤ (t.toNat : Int) := by omega
          have hy2 : (t.toNat : Int) ≤ 57 := by omega
          clear d1 d2 hb1
          generalize (t.toNat : Int) = y at *
          have hw8 : IntKind.u8.wrap (y - 48) = y - 48 := IntWalk.u8_in _ (by omega)
          have hw9 : IntKind.i64.wrap (y - 48) = y - 48 := IntWalk.i64_in _ (by omega)
          have hw10 : IntKind.i64.wrap (10 * (v : Int)) = 10 * (v : Int) := IntWalk.i64_in _ (by omega)
          have hw11 : IntKind.i64.wrap (10 * (v : Int) + (y - 48)) = 10 * (v : Int) + (y - 48) := IntWalk.i64_in _ (by omega)
          have hc1 : c ≤ 17 := by omega
          go_wp2_with ((go_at_call 73; (with_reducible refine (hdl _).mono ?_); rintro e w1 ⟨rfl, rfl⟩))
          go_round
          case rel => exact ⟨q + 1, by omega, by go_num, by rw [HS1.out], by rw [HS2.out]⟩
          case measure => simp [intOf]; omega
      · have hcl2 : decide (((amF L S q).2 : Int) < (L : Int)) = false := by simp; omega
        have hcl3 : decide ((amF L S q).2 < L) = false := decide_eq_false hcl
        have hE : amF L S M = amF L S q := by
          have h := amF_stop L S q (by omega) (M - q)
          rwa [show q + (M - q) = M by omega] at h
        have HE := Lib.hid hE
        clear hst hE hcl hb1
        go_wp2
        go_ret
        exact ⟨ret_int (by rw [HE.out]), (by repeat (first | (with_reducible exact Gr.refl _) | (with_reducible assumption) | (with_reducible refine Gr.alloc ?_ _) | (with_reducible refine Gr.drew ?_) | (with_reducible refine Gr.drewN ?_ _) | (with_reducible refine Gr.setCell ?_ (by simp <;> omega) _) | (with_reducible refine Gr.trans ?_ (by with_reducible assumption)) | exact Gr.refl _ | assumption | refine Gr.alloc ?_ _ | refine Gr.drew ?_ | refine Gr.drewN ?_ _ | refine Gr.setCell ?_ (by simp <;> omega) _ | refine Gr.trans ?_ (by assumption)))⟩
    · obtain rfl : q = M := by omega
      go_wp2
      go_ret
      exact ⟨rfl, (by repeat (first | (with_reducible exact Gr.refl _) | (with_reducible assumption) | (with_reducible refine Gr.alloc ?_ _) | (with_reducible refine Gr.drew ?_) | (with_reducible refine Gr.drewN ?_ _) | (with_reducible refine Gr.setCell ?_ (by simp <;> omega) _) | (with_reducible refine Gr.trans ?_ (by with_reducible assumption)) | exact Gr.refl _ | assumption | refine Gr.alloc ?_ _ | refine Gr.drew ?_ | refine Gr.drewN ?_ _ | refine Gr.setCell ?_ (by simp <;> omega) _ | refine Gr.trans ?_ (by assumption)))⟩
/-- The two tries of readBack. -/
def RbW (w : World) (a : Int) (wr : World) : Prop :=
  (wr.cell? ⟨w.heap.size, 0, none⟩ = some (.int .i64 0) ∧ wr.cell? ⟨w.heap.size, 1, none⟩ = some (.string ⟨#[]⟩) ∧ wr.frozen? ⟨w.heap.size, 0, none⟩ = false ∧ wr.frozen? ⟨w.heap.size, 1, none⟩ = false) ∧
  (wr.cell? ⟨w.heap.size + 1, 0, none⟩ = some (.int .i64 a) ∧ wr.cell? ⟨w.heap.size + 1, 1, none⟩ = some (.int .i64 (wrap64 (-a)))) ∧ Gr w wr ∧ w.heap.size + 1 < wr.heap.size
theorem RbW.gr {w : World} {a : Int} {x y : World} (h : RbW w a x) (G : Gr x y) : RbW w a y := by
  obtain ⟨⟨c0, c1, f0, f1⟩, ⟨d0, d1⟩, g, hz⟩ := h
  exact ⟨⟨G.keep c0, G.keep c1, ((G.cells).2 _ _ (by omega)).trans f0, ((G.cells).2 _ _ (by omega)).trans f1⟩, ⟨G.keep d0, G.keep d1⟩, g.trans G, by have := Gr.size G; omega⟩
def rbV (S T1 T2 : ByteArray) (a : Int) : Int := if T1 = S then a else if T2 = S then -a else 0
def rbE (S T1 T2 : ByteArray) : Int := if T1 = S then 0 else if T2 = S then 0 else 8
theorem str_beq {A B : ByteArray} {b : Bool} (h : decide (A = B) = b) : (A.toList == B.toList) = b := by
  rw [← h]
  by_cases g : A = B
  · subst g; rw [beq_self_eq_true, decide_eq_true rfl]
  · rw [decide_eq_false g, beq_eq_false_iff_ne]
    intro e
    rw [ByteArray.toList_eq, ByteArray.toList_eq] at e
    exact g (BL_ext e)
set_option maxHeartbeats 4000000 in
set_option maxRecDepth 100000 in
theorem readBack_core (S T1 T2 : ByteArray) (a : Int) (ha : 0 ≤ a) (ha' : a ≤ 1000000000000000000) (p1 p2 : Addr) (K : World → Prop) (hK : ∀ x y, K x → Gr x y → K y)
    (h1 : ∀ w, K w → Calls Tryz.prog 36 #[.int .i64 a, .pointer (some p1), .pointer (some p2)] w fun e w' => e = .returned (.string T1) ∧ Gr w w')
    (h2 : ∀ w, K w → Calls Tryz.prog 36 #[.int .i64 (-a), .pointer (some p1), .pointer (some p2)] w fun e w' => e = .returned (.string T2) ∧ Gr w w') (w : World) (hw : K w) :
    Calls Tryz.prog 34 #[.string S, .int .i64 a, .func (.func 36) #[] #[.pointer (some p1), .pointer (some p2)]] w fun e w' => e = .returned (.tuple #[.agg #[.int .i64 (rbV S T1 T2 a), .string ⟨#[]⟩], .int .i64 (rbE S T1 T2)]) ∧ Gr w w' := by
  have HK := Lib.hid hK
  have HW := Lib.hid hw
  obtain ⟨b1, hb1⟩ : ∃ b, decide (T1 = S) = b := ⟨_, rfl⟩
  obtain ⟨b2, hb2⟩ : ∃ b, decide (T2 = S) = b := ⟨_, rfl⟩
  have e1 := str_beq hb1
  have e2 := str_beq hb2
  have HV := Lib.hid (show rbV S T1 T2 a = if b1 then a else if b2 then -a else 0 by unfold rbV; rw [← hb1, ← hb2]; simp only [decide_eq_true_eq])
  have HE := Lib.hid (show rbE S T1 T2 = if b1 then 0 else if b2 then 0 else 8 by unfold rbE; rw [← hb1, ← hb2]; simp only [decide_eq_true_eq])
  have hneg : -a = wrap64 (-a) := by unfold wrap64; omega
  rw [hneg] at h2 HV
  clear hK hw hb1 hb2 hneg ha ha'
  go_enter Tryz.func34, Tryz.ntmps34
  go_wp2
  have R0 : RbW w a ((w.alloc (.cells #[.int .i64 0, .string ⟨#[]⟩] 33)).alloc (.cells #[.int .i64 a, .int .i64 (wrap64 (-a))] 3)) := by
    exact ⟨⟨by simp [go_sem], by simp [go_sem], by simp [go_sem], by simp [go_sem]⟩, ⟨by simp [go_sem], by simp [go_sem]⟩, (by repeat (first | (with_reducible exact Gr.refl _) | (with_reducible assumption) | (with_reducible refine Gr.alloc ?_ _) | (with_reducible refine Gr.drew ?_) | (with_reducible refine Gr.drewN ?_ _) | (with_reducible refine Gr.setCell ?_ (by simp <;> omega) _) | (with_reducible refine Gr.trans ?_ (by with_reducible assumption)) | exact Gr.refl _ | assumption | refine Gr.alloc ?_ _ | refine Gr.drew ?_ | refine Gr.drewN ?_ _ | refine Gr.setCell ?_ (by simp <;> omega) _ | refine Gr.trans ?_ (by assumption))), by simp⟩
  have HR0 := Lib.hid R0
  clear R0
  go_loopw [15] (fun i wr => ((i = .int .i64 0) ∨ (i = .int .i64 1 ∧ b1 = false) ∨ (i = .int .i64 2 ∧ b1 = false ∧ b2 = false)) ∧ Hid (RbW w a wr)) (fun i _ => 2 - (intOf i).toNat)
  case atStart => exact ⟨Or.inl rfl, HR0⟩
  case round =>
    obtain ⟨hi, hR⟩ := hrel
    obtain ⟨⟨c0, c1, f0, f1⟩, ⟨d0, d1⟩, g, hz⟩ := hR.out
    have hKw : K wr := HK.out _ _ HW.out g
    have HKw := Lib.hid hKw
    clear hKw HR0
    rcases hi with rfl | ⟨rfl, rfl⟩ | ⟨rfl, rfl, rfl⟩
    · cases b1
      · go_wp2_with (go_at_call 36; (with_reducible refine (h1 _ HKw.out).mono ?_); rintro e w5 ⟨rfl, hb5⟩)
        go_roundw
        case rel => exact ⟨Or.inr (Or.inl ⟨by go_num, by first | rfl | trivial⟩), Lib.hid (hR.out.gr hb5)⟩
        case measure => simp [intOf]
      · go_wp2_with (go_at_call 36; (with_reducible refine (h1 _ HKw.out).mono ?_); rintro e w5 ⟨rfl, hb5⟩; obtain ⟨⟨c50, c51, f50, f51⟩, ⟨d50, d51⟩, g5, hz5⟩ := hR.out.gr hb5; have hz55 : w.heap.size < w5.heap.size := (by omega))
        exact bodyPost_ret (v := .tuple #[.agg #[.int .i64 a, .string ⟨#[]⟩], .int .i64 0]) (by simp [results, Tryz.results34, go_sem, *]) rfl ⟨by rw [HV.out, HE.out]; rfl, (by (repeat (first | with_reducible refine Gr.setCell ?_ (by simp <;> omega) _ | with_reducible refine Gr.drew ?_ | with_reducible refine Gr.drewN ?_ _ | with_reducible refine Gr.alloc ?_ _)); first | (with_reducible exact Gr.refl _) | (with_reducible assumption) | exact (by repeat (first | (with_reducible exact Gr.refl _) | (with_reducible assumption) | (with_reducible refine Gr.alloc ?_ _) | (with_reducible refine Gr.drew ?_) | (with_reducible refine Gr.drewN ?_ _) | (with_reducible refine Gr.setCell ?_ (by simp <;> omega) _) | (with_reducible refine Gr.trans ?_ (by with_reducible assumption)) | exact Gr.refl _ | assumption | refine Gr.alloc ?_ _ | refine Gr.drew ?_ | refine Gr.drewN ?_ _ | refine Gr.setCell ?_ (by simp <;> omega) _ | refine Gr.trans ?_ (by assumption))))⟩
    · cases b2
      · go_wp2_with (go_at_call 36; (with_reducible refine (h2 _ HKw.out).mono ?_); rintro e w5 ⟨rfl, hb5⟩)
        go_roundw
        case rel => exact ⟨Or.inr (Or.inr ⟨by go_num, by first | rfl | trivial, by first | rfl | trivial⟩), Lib.hid (hR.out.gr hb5)⟩
        case measure => simp [intOf]
      · go_wp2_with (go_at_call 36; (with_reducible refine (h2 _ HKw.out).mono ?_); rintro e w5 ⟨rfl, hb5⟩; obtain ⟨⟨c50, c51, f50, f51⟩, ⟨d50, d51⟩, g5, hz5⟩ := hR.out.gr hb5; have hz55 : w.heap.size < w5.heap.size := (by omega))
        exact bodyPost_ret (v := .tuple #[.agg #[.int .i64 (wrap64 (-a)), .string ⟨#[]⟩], .int .i64 0]) (by simp [results, Tryz.results34, go_sem, *]) rfl ⟨by rw [HV.out, HE.out]; rfl, (by (repeat (first | with_reducible refine Gr.setCell ?_ (by simp <;> omega) _ | with_reducible refine Gr.drew ?_ | with_reducible refine Gr.drewN ?_ _ | with_reducible refine Gr.alloc ?_ _)); first | (with_reducible exact Gr.refl _) | (with_reducible assumption) | exact (by repeat (first | (with_reducible exact Gr.refl _) | (with_reducible assumption) | (with_reducible refine Gr.alloc ?_ _) | (with_reducible refine Gr.drew ?_) | (with_reducible refine Gr.drewN ?_ _) | (with_reducible refine Gr.setCell ?_ (by simp <;> omega) _) | (with_reducible refine Gr.trans ?_ (by with_reducible assumption)) | exact Gr.refl _ | assumption | refine Gr.alloc ?_ _ | refine Gr.drew ?_ | refine Gr.drewN ?_ _ | refine Gr.setCell ?_ (by simp <;> omega) _ | refine Gr.trans ?_ (by assumption))))⟩
    · have hz55 : w.heap.size < wr.heap.size := by omega
      go_wp2
      exact bodyPost_ret (v := .tuple #[.agg #[.int .i64 0, .string ⟨#[]⟩], .int .i64 8]) (by simp [results, Tryz.results34, go_sem, *]) rfl ⟨by rw [HV.out, HE.out]; rfl, (by (repeat (first | with_reducible refine Gr.setCell ?_ (by simp <;> omega) _ | with_reducible refine Gr.drew ?_ | with_reducible refine Gr.drewN ?_ _ | with_reducible refine Gr.alloc ?_ _)); first | (with_reducible exact Gr.refl _) | (with_reducible assumption) | exact (by repeat (first | (with_reducible exact Gr.refl _) | (with_reducible assumption) | (with_reducible refine Gr.alloc ?_ _) | (with_reducible refine Gr.drew ?_) | (with_reducible refine Gr.drewN ?_ _) | (with_reducible refine Gr.setCell ?_ (by simp <;> omega) _) | (with_reducible refine Gr.trans ?_ (by with_reducible assumption)) | exact Gr.refl _ | assumption | refine Gr.alloc ?_ _ | refine Gr.drew ?_ | refine Gr.drewN ?_ _ | refine Gr.setCell ?_ (by simp <;> omega) _ | refine Gr.trans ?_ (by assumption))))⟩
end Go.Proofs.YtmdpejllbalnnaaGreatDoor
