/- Texts of the walks, merged. -/
import Derived.Test.YtmdpejllbalnnaaGreatDoorQ27
import Derived.Test.YtmdpejllbalnnaaGreatDoorQ20
import Derived.Laws.StructEq
import Derived.Test.YtmdpejllbalnnaaGreatDoorQ16
namespace Go.Proofs.YtmdpejllbalnnaaGreatDoor
set_option linter.unusedSimpArgs false
set_option linter.unusedVariables false
open Go.RowKit

theorem pDig (b : UInt8) (d : Bool) (h : isDg b = d) (w : World) : Calls Tryz.prog 73 #[.int .u8 (b.toNat : Int)] w fun e w' => e = .returned (.bool d) ∧ w = w' := by
  have hb : decide ((48 : Int) ≤ (b.toNat : Int)) = decide (48 ≤ b.toNat) := decide_eq_decide.2 (by omega)
  have hc : decide ((b.toNat : Int) ≤ 57) = decide (b.toNat ≤ 57) := decide_eq_decide.2 (by omega)
  have hd : (decide ((48 : Int) ≤ (b.toNat : Int)) && decide ((b.toNat : Int) ≤ 57)) = d := by rw [hb, hc]; exact h
  generalize (b.toNat : Int) = y at *
  clear hb hc h
  by_cases g1 : (48 : Int) ≤ y
  · by_cases g2 : y ≤ 57
    · have E := Lib.hid (show d = true by rw [← hd]; simp [g1, g2])
      clear hd
      go_enter Tryz.func73, Tryz.ntmps73
      go_wp2
      go_ret
      exact ⟨ret_bool E.out.symm, rfl⟩
    · have E := Lib.hid (show d = false by rw [← hd]; simp [g2])
      have b2 : decide (y ≤ 57) = false := by simp; omega
      clear hd
      go_enter Tryz.func73, Tryz.ntmps73
      go_wp2
      go_ret
      exact ⟨ret_bool E.out.symm, rfl⟩
  · have E := Lib.hid (show d = false by rw [← hd]; simp [g1])
    have b1 : decide (48 ≤ y) = false := by simp; omega
    clear hd
    go_enter Tryz.func73, Tryz.ntmps73
    go_wp2
    go_ret
    exact ⟨ret_bool E.out.symm, rfl⟩
set_option maxHeartbeats 4000000 in
set_option maxRecDepth 100000 in
theorem edAmount_any (k s : Int) (S : List UInt8) (L M : Nat) (hM : S.length = M) (hM1 : M ≤ 1000) (hL : L ≤ 17) (w : World) :
    Calls Tryz.prog 35 #[.agg #[.int .i64 k, .int .i64 (L : Int), .int .i64 s], .string (BL S)] w fun e w' => e = .returned (.int .i64 ((amF L S M).1 : Nat)) ∧ Gr w w' := by
  have hsz : (BL S).size = M := by rw [BL_size]; exact hM
  have HAT := Lib.hid fun q (h : q < (BL S).size) => show (((BL S)[q]'h).toNat : Int) = ((dAt S q).toNat : Int) by rw [BL_at]
  have hbd : ∀ q, ((amF L S q).1 : Int) ≤ 1000000000000000000 := fun q => by
    obtain ⟨h1, h2⟩ := amF_le L S q
    have h3 : 10 ^ (amF L S q).2 ≤ 10 ^ 17 := Nat.pow_le_pow_right (by omega) (by omega)
    have h4 : (10 : Nat) ^ 17 = 100000000000000000 := by decide
    omega
  have HBD := Lib.hid hbd
  clear hbd
  generalize BL S = X at *
  go_enter Tryz.func35, Tryz.ntmps35
  go_wp2
  go_loop [5, 6, 7] (fun v c i => ∃ q : Nat, q ≤ M ∧ i = .int .i64 q ∧ v = .int .i64 ((amF L S q).1 : Nat) ∧ c = .int .i64 ((amF L S q).2 : Nat)) (fun _ _ i => M - (intOf i).toNat)
  case atStart => exact ⟨0, by omega, rfl, rfl, rfl⟩
  case round =>
    obtain ⟨q, hq, rfl, rfl, rfl⟩ := hrel
    have hb0 := HBD.out q
    have hb1 := HBD.out (q + 1)
    have hc0 := (amF_le L S q).1
    by_cases hlt : q < M
    · have hqX : q < X.size := by omega
      have hbT := HAT.out q hqX
      have hst : amF L S (q + 1) = if (amF L S q).2 < L ∧ isDg (dAt S q) = true then (10 * (amF L S q).1 + ((dAt S q).toNat - 48), (amF L S q).2 + 1) else amF L S q := rfl
      by_cases hcl : (amF L S q).2 < L
      · obtain ⟨t, ht⟩ : ∃ t, dAt S q = t := ⟨_, rfl⟩
        obtain ⟨d, hd⟩ : ∃ d, isDg t = d := ⟨_, rfl⟩
        have hdl := pDig t d hd
        have hdr : isDg t = true → 48 ≤ t.toNat ∧ t.toNat ≤ 57 := by unfold isDg; simp
        rw [ht, hd] at hst
        rw [ht] at hbT
        rw [hd] at hdr
        have hcl2 : decide (((amF L S q).2 : Int) < (L : Int)) = true := by simp; omega
        have hcl3 : decide ((amF L S q).2 < L) = true := decide_eq_true hcl
        cases d
        · rw [if_neg (by simp)] at hst
          have HS := Lib.hid hst
          clear hst ht hd hdr hb1 hcl
          generalize hv : (amF L S q).1 = v at *
          generalize hcc : (amF L S q).2 = c at *
          have HV := Lib.hid (And.intro hv hcc)
          clear hv hcc
          generalize (t.toNat : Int) = y at *
          go_wp2_with ((go_at_call 73; (with_reducible refine (hdl _).mono ?_); rintro e w1 ⟨rfl, rfl⟩))
          go_round
          case rel => exact ⟨q + 1, by omega, by go_num, by rw [HS.out, HV.out.1], by rw [HS.out, HV.out.2]⟩
          case measure => simp [intOf]; omega
        · rw [if_pos ⟨hcl, rfl⟩] at hst
          rw [hst] at hb1
          have HS := Lib.hid hst
          obtain ⟨d1, d2⟩ := hdr rfl
          clear hst ht hd hdr hcl
          generalize (amF L S q).1 = v at *
          generalize (amF L S q).2 = c at *
          have HS1 := Lib.hid (show (((amF L S (q + 1)).1 : Nat) : Int) = 10 * (v : Int) + ((t.toNat : Int) - 48) by rw [HS.out]; show ((10 * v + (t.toNat - 48) : Nat) : Int) = _; omega)
          have HS2 := Lib.hid (show (((amF L S (q + 1)).2 : Nat) : Int) = (c : Int) + 1 by rw [HS.out]; rfl)
          have hbb : 10 * (v : Int) + ((t.toNat : Int) - 48) ≤ 1000000000000000000 := by
            have : ((10 * v + (t.toNat - 48) : Nat) : Int) ≤ 1000000000000000000 := hb1
            omega
          have hy1 : (48 : Int) ≤ (t.toNat : Int) := by omega
          have hy2 : (t.toNat : Int) ≤ 57 := by omega
          clear d1 d2 hb1
          generalize (t.toNat : Int) = y at *
          have hw8 : IntKind.u8.wrap (y - 48) = y - 48 := IntWalk.u8_in _ (by omega)
          have hw9 : IntKind.i64.wrap (y - 48) = y - 48 := IntWalk.i64_in _ (by omega)
          have hw10 : IntKind.i64.wrap (10 * (v : Int)) = 10 * (v : Int) := IntWalk.i64_in _ (by omega)
          have hw11 : IntKind.i64.wrap (10 * (v : Int) + (y - 48)) = 10 * (v : Int) + (y - 48) := IntWalk.i64_in _ (by omega)
          have hc1 : c ≤ 17 := by omega
          go_wp2_with ((go_at_call 73; (with_reducible refine (hdl _).mono ?_); rintro e w1 ⟨rfl, rfl⟩))
          go_round
          case rel => exact ⟨q + 1, by omega, by go_num, by rw [HS1.out], by rw [HS2.out]⟩
          case measure => simp [intOf]; omega
      · have hcl2 : decide (((amF L S q).2 : Int) < (L : Int)) = false := by simp; omega
        have hcl3 : decide ((amF L S q).2 < L) = false := decide_eq_false hcl
        have hE : amF L S M = amF L S q := by
          have h := amF_stop L S q (by omega) (M - q)
          rwa [show q + (M - q) = M by omega] at h
        have HE := Lib.hid hE
        clear hst hE hcl hb1
        go_wp2
        go_ret
        exact ⟨ret_int (by rw [HE.out]), (by repeat (first | (with_reducible exact Gr.refl _) | (with_reducible assumption) | (with_reducible refine Gr.alloc ?_ _) | (with_reducible refine Gr.drew ?_) | (with_reducible refine Gr.drewN ?_ _) | (with_reducible refine Gr.setCell ?_ (by simp <;> omega) _) | (with_reducible refine Gr.trans ?_ (by with_reducible assumption)) | exact Gr.refl _ | assumption | refine Gr.alloc ?_ _ | refine Gr.drew ?_ | refine Gr.drewN ?_ _ | refine Gr.setCell ?_ (by simp <;> omega) _ | refine Gr.trans ?_ (by assumption)))⟩
    · obtain rfl : q = M := by omega
      go_wp2
      go_ret
      exact ⟨rfl, (by repeat (first | (with_reducible exact Gr.refl _) | (with_reducible assumption) | (with_reducible refine Gr.alloc ?_ _) | (with_reducible refine Gr.drew ?_) | (with_reducible refine Gr.drewN ?_ _) | (with_reducible refine Gr.setCell ?_ (by simp <;> omega) _) | (with_reducible refine Gr.trans ?_ (by with_reducible assumption)) | exact Gr.refl _ | assumption | refine Gr.alloc ?_ _ | refine Gr.drew ?_ | refine Gr.drewN ?_ _ | refine Gr.setCell ?_ (by simp <;> omega) _ | refine Gr.trans ?_ (by assumption)))⟩
/-- The two tries of readBack. -/
def RbW (w : World) (a : Int) (wr : World) : Prop :=
  (wr.cell? ⟨w.heap.size, 0, none⟩ = some (.int .i64 0) ∧ wr.cell? ⟨w.heap.size, 1, none⟩ = some (.string ⟨#[]⟩) ∧ wr.frozen? ⟨w.heap.size, 0, none⟩ = false ∧ wr.frozen? ⟨w.heap.size, 1, none⟩ = false) ∧
  (wr.cell? ⟨w.heap.size + 1, 0, none⟩ = some (.int .i64 a) ∧ wr.cell? ⟨w.heap.size + 1, 1, none⟩ = some (.int .i64 (wrap64 (-a)))) ∧ Gr w wr ∧ w.heap.size + 1 < wr.heap.size
theorem RbW.gr {w : World} {a : Int} {x y : World} (h : RbW w a x) (G : Gr x y) : RbW w a y := by
  obtain ⟨⟨c0, c1, f0, f1⟩, ⟨d0, d1⟩, g, hz⟩ := h
  exact ⟨⟨G.keep c0, G.keep c1, ((G.cells).2 _ _ (by omega)).trans f0, ((G.cells).2 _ _ (by omega)).trans f1⟩, ⟨G.keep d0, G.keep d1⟩, g.trans G, by have := Gr.size G; omega⟩
def rbV (S T1 T2 : ByteArray) (a : Int) : Int := if T1 = S then a else if T2 = S then -a else 0
def rbE (S T1 T2 : ByteArray) : Int := if T1 = S then 0 else if T2 = S then 0 else 8
theorem str_beq {A B : ByteArray} {b : Bool} (h : decide (A = B) = b) : (A.toList == B.toList) = b := by
  rw [← h]
  by_cases g : A = B
  · subst g; rw [beq_self_eq_true, decide_eq_true rfl]
  · rw [decide_eq_false g, beq_eq_false_iff_ne]
    intro e
    rw [ByteArray.toList_eq, ByteArray.toList_eq] at e
    exact g (BL_ext e)
set_option maxHeartbeats 4000000 in
set_option maxRecDepth 100000 in
theorem readBack_core (S T1 T2 : ByteArray) (a : Int) (ha : 0 ≤ a) (ha' : a ≤ 1000000000000000000) (p1 p2 : Addr) (K : World → Prop) (hK : ∀ x y, K x → Gr x y → K y)
    (h1 : ∀ w, K w → Calls Tryz.prog 36 #[.int .i64 a, .pointer (some p1), .pointer (some p2)] w fun e w' => e = .returned (.string T1) ∧ Gr w w')
    (h2 : ∀ w, K w → Calls Tryz.prog 36 #[.int .i64 (-a), .pointer (some p1), .pointer (some p2)] w fun e w' => e = .returned (.string T2) ∧ Gr w w') (w : World) (hw : K w) :
    Calls Tryz.prog 34 #[.string S, .int .i64 a, .func (.func 36) #[] #[.pointer (some p1), .pointer (some p2)]] w fun e w' => e = .returned (.tuple #[.agg #[.int .i64 (rbV S T1 T2 a), .string ⟨#[]⟩], .int .i64 (rbE S T1 T2)]) ∧ Gr w w' := by
  have HK := Lib.hid hK
  have HW := Lib.hid hw
  obtain ⟨b1, hb1⟩ : ∃ b, decide (T1 = S) = b := ⟨_, rfl⟩
  obtain ⟨b2, hb2⟩ : ∃ b, decide (T2 = S) = b := ⟨_, rfl⟩
  have e1 := str_beq hb1
  have e2 := str_beq hb2
  have HV := Lib.hid (show rbV S T1 T2 a = if b1 then a else if b2 then -a else 0 by unfold rbV; rw [← hb1, ← hb2]; simp only [decide_eq_true_eq])
  have HE := Lib.hid (show rbE S T1 T2 = if b1 then 0 else if b2 then 0 else 8 by unfold rbE; rw [← hb1, ← hb2]; simp only [decide_eq_true_eq])
  have hneg : -a = wrap64 (-a) := by unfold wrap64; omega
  rw [hneg] at h2 HV
  clear hK hw hb1 hb2 hneg ha ha'
  go_enter Tryz.func34, Tryz.ntmps34
  go_wp2
  have R0 : RbW w a ((w.alloc (.cells #[.int .i64 0, .string ⟨#[]⟩] 33)).alloc (.cells #[.int .i64 a, .int .i64 (wrap64 (-a))] 3)) := by
    exact ⟨⟨by simp [go_sem], by simp [go_sem], by simp [go_sem], by simp [go_sem]⟩, ⟨by simp [go_sem], by simp [go_sem]⟩, (by repeat (first | (with_reducible exact Gr.refl _) | (with_reducible assumption) | (with_reducible refine Gr.alloc ?_ _) | (with_reducible refine Gr.drew ?_) | (with_reducible refine Gr.drewN ?_ _) | (with_reducible refine Gr.setCell ?_ (by simp <;> omega) _) | (with_reducible refine Gr.trans ?_ (by with_reducible assumption)) | exact Gr.refl _ | assumption | refine Gr.alloc ?_ _ | refine Gr.drew ?_ | refine Gr.drewN ?_ _ | refine Gr.setCell ?_ (by simp <;> omega) _ | refine Gr.trans ?_ (by assumption))), by simp⟩
  have HR0 := Lib.hid R0
  clear R0
  go_loopw [15] (fun i wr => ((i = .int .i64 0) ∨ (i = .int .i64 1 ∧ b1 = false) ∨ (i = .int .i64 2 ∧ b1 = false ∧ b2 = false)) ∧ Hid (RbW w a wr)) (fun i _ => 2 - (intOf i).toNat)
  case atStart => exact ⟨Or.inl rfl, HR0⟩
  case round =>
    obtain ⟨hi, hR⟩ := hrel
    obtain ⟨⟨c0, c1, f0, f1⟩, ⟨d0, d1⟩, g, hz⟩ := hR.out
    have hKw : K wr := HK.out _ _ HW.out g
    have HKw := Lib.hid hKw
    clear hKw HR0
    rcases hi with rfl | ⟨rfl, rfl⟩ | ⟨rfl, rfl, rfl⟩
    · cases b1
      · go_wp2_with (go_at_call 36; (with_reducible refine (h1 _ HKw.out).mono ?_); rintro e w5 ⟨rfl, hb5⟩)
        go_roundw
        case rel => exact ⟨Or.inr (Or.inl ⟨by go_num, by first | rfl | trivial⟩), Lib.hid (hR.out.gr hb5)⟩
        case measure => simp [intOf]
      · go_wp2_with (go_at_call 36; (with_reducible refine (h1 _ HKw.out).mono ?_); rintro e w5 ⟨rfl, hb5⟩; obtain ⟨⟨c50, c51, f50, f51⟩, ⟨d50, d51⟩, g5, hz5⟩ := hR.out.gr hb5; have hz55 : w.heap.size < w5.heap.size := (by omega))
        exact bodyPost_ret (v := .tuple #[.agg #[.int .i64 a, .string ⟨#[]⟩], .int .i64 0]) (by simp [results, Tryz.results34, go_sem, *]) rfl ⟨by rw [HV.out, HE.out]; rfl, (by (repeat (first | with_reducible refine Gr.setCell ?_ (by simp <;> omega) _ | with_reducible refine Gr.drew ?_ | with_reducible refine Gr.drewN ?_ _ | with_reducible refine Gr.alloc ?_ _)); first | (with_reducible exact Gr.refl _) | (with_reducible assumption) | exact (by repeat (first | (with_reducible exact Gr.refl _) | (with_reducible assumption) | (with_reducible refine Gr.alloc ?_ _) | (with_reducible refine Gr.drew ?_) | (with_reducible refine Gr.drewN ?_ _) | (with_reducible refine Gr.setCell ?_ (by simp <;> omega) _) | (with_reducible refine Gr.trans ?_ (by with_reducible assumption)) | exact Gr.refl _ | assumption | refine Gr.alloc ?_ _ | refine Gr.drew ?_ | refine Gr.drewN ?_ _ | refine Gr.setCell ?_ (by simp <;> omega) _ | refine Gr.trans ?_ (by assumption))))⟩
    · cases b2
      · go_wp2_with (go_at_call 36; (with_reducible refine (h2 _ HKw.out).mono ?_); rintro e w5 ⟨rfl, hb5⟩)
        go_roundw
        case rel => exact ⟨Or.inr (Or.inr ⟨by go_num, by first | rfl | trivial, by first | rfl | trivial⟩), Lib.hid (hR.out.gr hb5)⟩
        case measure => simp [intOf]
      · go_wp2_with (go_at_call 36; (with_reducible refine (h2 _ HKw.out).mono ?_); rintro e w5 ⟨rfl, hb5⟩; obtain ⟨⟨c50, c51, f50, f51⟩, ⟨d50, d51⟩, g5, hz5⟩ := hR.out.gr hb5; have hz55 : w.heap.size < w5.heap.size := (by omega))
        exact bodyPost_ret (v := .tuple #[.agg #[.int .i64 (wrap64 (-a)), .string ⟨#[]⟩], .int .i64 0]) (by simp [results, Tryz.results34, go_sem, *]) rfl ⟨by rw [HV.out, HE.out]; rfl, (by (repeat (first | with_reducible refine Gr.setCell ?_ (by simp <;> omega) _ | with_reducible refine Gr.drew ?_ | with_reducible refine Gr.drewN ?_ _ | with_reducible refine Gr.alloc ?_ _)); first | (with_reducible exact Gr.refl _) | (with_reducible assumption) | exact (by repeat (first | (with_reducible exact Gr.refl _) | (with_reducible assumption) | (with_reducible refine Gr.alloc ?_ _) | (with_reducible refine Gr.drew ?_) | (with_reducible refine Gr.drewN ?_ _) | (with_reducible refine Gr.setCell ?_ (by simp <;> omega) _) | (with_reducible refine Gr.trans ?_ (by with_reducible assumption)) | exact Gr.refl _ | assumption | refine Gr.alloc ?_ _ | refine Gr.drew ?_ | refine Gr.drewN ?_ _ | refine Gr.setCell ?_ (by simp <;> omega) _ | refine Gr.trans ?_ (by assumption))))⟩
    · have hz55 : w.heap.size < wr.heap.size := by omega
      go_wp2
      exact bodyPost_ret (v := .tuple #[.agg #[.int .i64 0, .string ⟨#[]⟩], .int .i64 8]) (by simp [results, Tryz.results34, go_sem, *]) rfl ⟨by rw [HV.out, HE.out]; rfl, (by (repeat (first | with_reducible refine Gr.setCell ?_ (by simp <;> omega) _ | with_reducible refine Gr.drew ?_ | with_reducible refine Gr.drewN ?_ _ | with_reducible refine Gr.alloc ?_ _)); first | (with_reducible exact Gr.refl _) | (with_reducible assumption) | exact (by repeat (first | (with_reducible exact Gr.refl _) | (with_reducible assumption) | (with_reducible refine Gr.alloc ?_ _) | (with_reducible refine Gr.drew ?_) | (with_reducible refine Gr.drewN ?_ _) | (with_reducible refine Gr.setCell ?_ (by simp <;> omega) _) | (with_reducible refine Gr.trans ?_ (by with_reducible assumption)) | exact Gr.refl _ | assumption | refine Gr.alloc ?_ _ | refine Gr.drew ?_ | refine Gr.drewN ?_ _ | refine Gr.setCell ?_ (by simp <;> omega) _ | refine Gr.trans ?_ (by assumption))))⟩
end Go.Proofs.YtmdpejllbalnnaaGreatDoor
namespace Go.Proofs.YtmdpejllbalnnaaGreatDoor
set_option linter.unusedSimpArgs false
set_option linter.unusedVariables false
open Go.RowKit

/-- The boxes that the function value reads, and the table. -/
def UnK (g1 g2 : Nat) (k l s c f : Int) (w : World) : Prop :=
  TabW w ∧ w.cell? ⟨g1, 0, none⟩ = some (.int .i64 k) ∧ w.cell? ⟨g1, 1, none⟩ = some (.int .i64 l) ∧ w.cell? ⟨g1, 2, none⟩ = some (.int .i64 s) ∧ w.cell? ⟨g2, 0, none⟩ = some (.int .u8 c) ∧ w.cell? ⟨g2, 1, none⟩ = some (.int .i64 f)
theorem UnK.gr {g1 g2 : Nat} {k l s c f : Int} {x y : World} (h : UnK g1 g2 k l s c f x) (G : Gr x y) : UnK g1 g2 k l s c f y := by
  obtain ⟨h1, c0, c1, c2, c3, c4⟩ := h
  exact ⟨h1.gr G, G.keep c0, G.keep c1, G.keep c2, G.keep c3, G.keep c4⟩
set_option maxHeartbeats 1000000 in
theorem un1_any (g1 g2 : Nat) (k l s c f n : Int) (T : ByteArray)
    (hE : ∀ w, TabW w → Calls Tryz.prog 28 #[.agg #[.int .i64 k, .int .i64 l, .int .i64 s], .int .i64 n, .agg #[.int .u8 c, .int .i64 f]] w fun e w' => e = .returned (.string T) ∧ Gr w w') (w : World) (hw : UnK g1 g2 k l s c f w) :
    Calls Tryz.prog 36 #[.int .i64 n, .pointer (some ⟨g1, 0, none⟩), .pointer (some ⟨g2, 0, none⟩)] w fun e w' => e = .returned (.string T) ∧ Gr w w' := by
  obtain ⟨h1, c0, c1, c2, c3, c4⟩ := hw
  have HT := Lib.hid h1
  clear h1
  go_enter Tryz.func36, Tryz.ntmps36
  go_wp2_with (go_at_call 28; (with_reducible refine (hE _ HT.out).mono ?_); rintro e w1 ⟨rfl, hb⟩)
  go_ret
  exact ⟨rfl, (by repeat (first | (with_reducible exact Gr.refl _) | (with_reducible assumption) | (with_reducible refine Gr.alloc ?_ _) | (with_reducible refine Gr.drew ?_) | (with_reducible refine Gr.drewN ?_ _) | (with_reducible refine Gr.setCell ?_ (by simp <;> omega) _) | (with_reducible refine Gr.trans ?_ (by with_reducible assumption)) | exact Gr.refl _ | assumption | refine Gr.alloc ?_ _ | refine Gr.drew ?_ | refine Gr.drewN ?_ _ | refine Gr.setCell ?_ (by simp <;> omega) _ | refine Gr.trans ?_ (by assumption)))⟩
def UnR (n E : Int) (w : World) (en : Ending) (w' : World) : Prop := en = .returned (.tuple #[.agg #[.int .i64 n, .string ⟨#[]⟩], .int .i64 E]) ∧ Gr w w'
set_option maxHeartbeats 1000000 in
theorem Unedited_no (k l s c f E : Int) (S : ByteArray) (hE : E ≠ 0) (w : World)
    (h1 : ∀ w, Calls Tryz.prog 27 #[.agg #[.int .i64 k, .int .i64 l, .int .i64 s], .agg #[.int .u8 c, .int .i64 f]] w fun e w' => e = .returned (.int .i64 E) ∧ Gr w w') :
    Calls Tryz.prog 17 #[.agg #[.int .i64 k, .int .i64 l, .int .i64 s], .string S, .agg #[.int .u8 c, .int .i64 f]] w (UnR 0 E w) := by
  have b1 : (E != 0) = true := by simp [hE]
  clear hE
  go_enter Tryz.func17, Tryz.ntmps17
  go_wp2_with ((go_at_call 27; (with_reducible refine (h1 _).mono ?_); rintro e w1 ⟨rfl, w1h⟩; obtain ⟨w1c, w1f⟩ := w1h.cells; have w1s := w1h.size; (try simp at w1s); have w1z : w.heap.size < w1.heap.size := (by omega)); have hz1 : w.heap.size + 1 < w1.heap.size := (by omega); have hz2 : w.heap.size + 2 < w1.heap.size := (by omega))
  exact bodyPost_ret (v := .tuple #[.agg #[.int .i64 0, .string ⟨#[]⟩], .int .i64 E]) (by simp [results, Tryz.results17, go_sem, *]) rfl ⟨rfl, (by repeat (first | (with_reducible exact Gr.refl _) | (with_reducible assumption) | (with_reducible refine Gr.alloc ?_ _) | (with_reducible refine Gr.drew ?_) | (with_reducible refine Gr.drewN ?_ _) | (with_reducible refine Gr.setCell ?_ (by simp <;> omega) _) | (with_reducible refine Gr.trans ?_ (by with_reducible assumption)) | exact Gr.refl _ | assumption | refine Gr.alloc ?_ _ | refine Gr.drew ?_ | refine Gr.drewN ?_ _ | refine Gr.setCell ?_ (by simp <;> omega) _ | refine Gr.trans ?_ (by assumption)))⟩
set_option maxHeartbeats 4000000 in
set_option maxRecDepth 100000 in
theorem Unedited_yes (k l s c f a : Int) (S T1 T2 : ByteArray) (ha : 0 ≤ a) (ha' : a ≤ 1000000000000000000) (w : World) (hw : TabW w)
    (h1 : ∀ w, Calls Tryz.prog 27 #[.agg #[.int .i64 k, .int .i64 l, .int .i64 s], .agg #[.int .u8 c, .int .i64 f]] w fun e w' => e = .returned (.int .i64 0) ∧ Gr w w')
    (h2 : ∀ w, Calls Tryz.prog 35 #[.agg #[.int .i64 k, .int .i64 l, .int .i64 s], .string S] w fun e w' => e = .returned (.int .i64 a) ∧ Gr w w')
    (h3 : ∀ w, TabW w → Calls Tryz.prog 28 #[.agg #[.int .i64 k, .int .i64 l, .int .i64 s], .int .i64 a, .agg #[.int .u8 c, .int .i64 f]] w fun e w' => e = .returned (.string T1) ∧ Gr w w')
    (h4 : ∀ w, TabW w → Calls Tryz.prog 28 #[.agg #[.int .i64 k, .int .i64 l, .int .i64 s], .int .i64 (-a), .agg #[.int .u8 c, .int .i64 f]] w fun e w' => e = .returned (.string T2) ∧ Gr w w') :
    Calls Tryz.prog 17 #[.agg #[.int .i64 k, .int .i64 l, .int .i64 s], .string S, .agg #[.int .u8 c, .int .i64 f]] w (UnR (rbV S T1 T2 a) (rbE S T1 T2) w) := by
  have HT := Lib.hid hw
  have hRB := fun W (hK : UnK w.heap.size (w.heap.size + 1) k l s c f W) => readBack_core S T1 T2 a ha ha' ⟨w.heap.size, 0, none⟩ ⟨w.heap.size + 1, 0, none⟩ (UnK w.heap.size (w.heap.size + 1) k l s c f) (fun _ _ h G => h.gr G)
    (fun W h => un1_any _ _ k l s c f a T1 h3 W h) (fun W h => un1_any _ _ k l s c f (-a) T2 h4 W h) W hK
  have hmf : ∀ (fn : Fn) (first cap : Array Value) (w : World), (Instr.makeFunc fn first cap).run Tryz.prog w = .ok (.func fn first cap) w := fun _ _ _ _ => rfl
  have HRB := Lib.hid hRB
  generalize rbV S T1 T2 a = rv at *
  generalize rbE S T1 T2 = re at *
  clear hw hRB h3 h4 ha ha'
  go_enter Tryz.func17, Tryz.ntmps17
  go_wp2_with (first | ((go_at_call 27; (with_reducible refine (h1 _).mono ?_); rintro e w1 ⟨rfl, w1h⟩; obtain ⟨w1c, w1f⟩ := w1h.cells; have w1s := w1h.size; (try simp at w1s); have w1z : w.heap.size < w1.heap.size := (by omega)); have hz1 : w.heap.size + 1 < w1.heap.size := (by omega); have hz2 : w.heap.size + 1 + 1 < w1.heap.size := (by omega)) | ((go_at_call 35; (with_reducible refine (h2 _).mono ?_); rintro e w2 ⟨rfl, w2h⟩; obtain ⟨w2c, w2f⟩ := w2h.cells; have w2s := w2h.size; (try simp at w2s); have w2z : w.heap.size < w2.heap.size := (by omega)); have hz3 : w.heap.size + 1 < w2.heap.size := (by omega); have hz4 : w.heap.size + 1 + 1 < w2.heap.size := (by omega); have HK2 := Lib.hid (show UnK w.heap.size (w.heap.size + 1) k l s c f w2 from ⟨HT.out.gr (by repeat (first | (with_reducible exact Gr.refl _) | (with_reducible assumption) | (with_reducible refine Gr.alloc ?_ _) | (with_reducible refine Gr.drew ?_) | (with_reducible refine Gr.drewN ?_ _) | (with_reducible refine Gr.setCell ?_ (by simp <;> omega) _) | (with_reducible refine Gr.trans ?_ (by with_reducible assumption)) | exact Gr.refl _ | assumption | refine Gr.alloc ?_ _ | refine Gr.drew ?_ | refine Gr.drewN ?_ _ | refine Gr.setCell ?_ (by simp <;> omega) _ | refine Gr.trans ?_ (by assumption))), (w1h.trans w2h).keep (by simp [go_sem]), (w1h.trans w2h).keep (by simp [go_sem]), (w1h.trans w2h).keep (by simp [go_sem]), (w1h.trans w2h).keep (by simp [go_sem]), (w1h.trans w2h).keep (by simp [go_sem])⟩)) |
    (go_at_call 34; go_loud ((with_reducible refine (HRB.out _ HK2.out).mono ?_)); rintro e w3 ⟨rfl, w3h⟩; obtain ⟨w3c, w3f⟩ := w3h.cells; have hz5 : w.heap.size + 1 + 1 < w3.heap.size := (by have h := Gr.size w3h; (try simp at h); omega)))
  exact bodyPost_ret (v := .tuple #[.agg #[.int .i64 rv, .string ⟨#[]⟩], .int .i64 re]) (by simp [results, Tryz.results17, go_sem, *]) rfl ⟨rfl, (by repeat (first | (with_reducible exact Gr.refl _) | (with_reducible assumption) | (with_reducible refine Gr.alloc ?_ _) | (with_reducible refine Gr.drew ?_) | (with_reducible refine Gr.drewN ?_ _) | (with_reducible refine Gr.setCell ?_ (by simp <;> omega) _) | (with_reducible refine Gr.trans ?_ (by with_reducible assumption)) | exact Gr.refl _ | assumption | refine Gr.alloc ?_ _ | refine Gr.drew ?_ | refine Gr.drewN ?_ _ | refine Gr.setCell ?_ (by simp <;> omega) _ | refine Gr.trans ?_ (by assumption)))⟩
theorem amF_fits (L : Nat) (S : List UInt8) (q : Nat) (hL : L ≤ 15) (l : Int) (hl : l = L) (z : Int) (hz : z = (amF L S q).1 ∨ z = -((amF L S q).1 : Int)) : fitsB z l = true := by
  obtain ⟨h1, h2⟩ := amF_le L S q
  have h3 : 10 ^ (amF L S q).2 ≤ 10 ^ L := Nat.pow_le_pow_right (by omega) h1
  have h4 : ((10 ^ L : Nat) : Int) = (10 : Int) ^ L := by simp
  unfold fitsB most p10
  rw [hl, Int.toNat_natCast]
  simp only [Bool.and_eq_true, decide_eq_true_eq]
  omega
/-- What Unedited gives. -/
def unA (l : Int) (S : List UInt8) : Int := ((amF l.toNat S S.length).1 : Nat)
def unV (k l s : Int) (S : List UInt8) (c8 : UInt8) (f : Int) : Int := if ckC k l s c8 f ≠ 0 then 0 else rbV (BL S) (BL (edX l s (unA l S) c8 f)) (BL (edX l s (-unA l S) c8 f)) (unA l S)
def unE (k l s : Int) (S : List UInt8) (c8 : UInt8) (f : Int) : Int := if ckC k l s c8 f ≠ 0 then ckC k l s c8 f else rbE (BL S) (BL (edX l s (unA l S) c8 f)) (BL (edX l s (-unA l S) c8 f))
theorem edited_ok (k l s n f : Int) (c8 : UInt8) (c : Int) (hc : c = c8.toNat) (h1 : ckC k l s c8 f = 0) (hfit : fitsB n l = true) (w : World) (hT : TabW w) :
    Calls Tryz.prog 28 #[.agg #[.int .i64 k, .int .i64 l, .int .i64 s], .int .i64 n, .agg #[.int .u8 c, .int .i64 f]] w fun e w' => e = .returned (.string (BL (edX l s n c8 f))) ∧ Gr w w' := by
  obtain ⟨t1, t2, hcd, f0, f1, hf, h89⟩ := ck_right h1
  obtain ⟨l0, l1, s0, s1, hk⟩ := num_right t1 t2
  obtain ⟨d1, d2⟩ := fits_len hfit l0 l1
  have hl : ((l.toNat : Nat) : Int) = l := by omega
  have h := edited_any k s n f c8 c n.natAbs (l - s).toNat l.toNat hc rfl (by omega) (by omega) (by omega) (by omega) d1 d2 hcd (by intro e; have := (h89 e).1; omega) w hT
  rw [hl] at h
  exact h
theorem Unedited_any (k l s f : Int) (S : List UInt8) (c8 : UInt8) (c : Int) (hc : c = c8.toNat) (hS : S.length ≤ 1000) (w : World) (hT : TabW w) :
    Calls Tryz.prog 17 #[.agg #[.int .i64 k, .int .i64 l, .int .i64 s], .string (BL S), .agg #[.int .u8 c, .int .i64 f]] w (UnR (unV k l s S c8 f) (unE k l s S c8 f) w) := by
  have h1 := checkCode_any k l s f c8 c hc
  unfold unV unE
  by_cases h : ckC k l s c8 f = 0
  · rw [if_neg (by omega), if_neg (by omega)]
    rw [h] at h1
    obtain ⟨t1, t2, -⟩ := ck_right h
    obtain ⟨l0, l1, s0, s1, hk⟩ := num_right t1 t2
    have hl : ((l.toNat : Nat) : Int) = l := by omega
    have hf1 := amF_fits l.toNat S S.length (by omega) l hl.symm (unA l S) (Or.inl rfl)
    have hf2 := amF_fits l.toNat S S.length (by omega) l hl.symm (-unA l S) (Or.inr rfl)
    obtain ⟨d1, d2⟩ := fits_len hf1 l0 l1
    have hu : 0 ≤ unA l S := Int.natCast_nonneg _
    have h2 := edAmount_any k s S l.toNat S.length rfl hS (by omega)
    rw [hl] at h2
    exact Unedited_yes k l s c f (unA l S) (BL S) _ _ hu (by omega) w hT h1 h2 (edited_ok k l s _ f c8 c hc h hf1) (edited_ok k l s _ f c8 c hc h hf2)
  · rw [if_pos h, if_pos h]
    exact Unedited_no k l s c f _ (BL S) h w h1
end Go.Proofs.YtmdpejllbalnnaaGreatDoor
