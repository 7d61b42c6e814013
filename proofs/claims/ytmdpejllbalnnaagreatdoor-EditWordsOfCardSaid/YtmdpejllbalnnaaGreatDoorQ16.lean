/- Texts of the walks, merged. -/
import Derived.Test.YtmdpejllbalnnaaGreatDoorQ15
namespace Go.Proofs.YtmdpejllbalnnaaGreatDoor
set_option linter.unusedSimpArgs false
set_option linter.unusedVariables false
open Go.RowKit

set_option maxHeartbeats 1000000 in
theorem PartsOf_empty (w : World) :
    Calls Tryz.prog 74 #[.string ⟨#[]⟩] w fun e w' => e = .returned (.tuple #[.agg #[.int .i64 0, .int .i64 0, .int .i64 0, .bool false], .int .i64 0, .int .i64 1]) ∧ Gr w w' := by
  have hemp : (⟨#[]⟩ : ByteArray).toList.isEmpty = true := by rw [isEmpty_size]; rfl
  go_enter Tryz.func74, Tryz.ntmps74
  go_wp2
  exact bodyPost_ret (v := .tuple #[.agg #[.int .i64 0, .int .i64 0, .int .i64 0, .bool false], .int .i64 0, .int .i64 1]) (by simp [results, Tryz.results74, go_sem, *]) rfl ⟨rfl, (by repeat (first | (with_reducible exact Gr.refl _) | (with_reducible assumption) | (with_reducible refine Gr.alloc ?_ _) | (with_reducible refine Gr.drew ?_) | (with_reducible refine Gr.drewN ?_ _) | (with_reducible refine Gr.setCell ?_ (by simp <;> omega) _) | (with_reducible refine Gr.trans ?_ (by with_reducible assumption)) | exact Gr.refl _ | assumption | refine Gr.alloc ?_ _ | refine Gr.drew ?_ | refine Gr.drewN ?_ _ | refine Gr.setCell ?_ (by simp <;> omega) _ | refine Gr.trans ?_ (by assumption)))⟩
set_option maxHeartbeats 1000000 in
theorem PartsOf_long (X : ByteArray) (h : 40 < X.size) (w : World) :
    Calls Tryz.prog 74 #[.string X] w fun e w' => e = .returned (.tuple #[.agg #[.int .i64 0, .int .i64 0, .int .i64 0, .bool false], .int .i64 0, .int .i64 2]) ∧ Gr w w' := by
  have hemp : X.toList.isEmpty = false := by rw [isEmpty_size, decide_eq_false (by omega)]
  have b40 : decide ((40 : Int) < (X.size : Int)) = true := by simp; omega
  clear h
  go_enter Tryz.func74, Tryz.ntmps74
  go_wp2
  exact bodyPost_ret (v := .tuple #[.agg #[.int .i64 0, .int .i64 0, .int .i64 0, .bool false], .int .i64 0, .int .i64 2]) (by simp [results, Tryz.results74, go_sem, *]) rfl ⟨rfl, (by repeat (first | (with_reducible exact Gr.refl _) | (with_reducible assumption) | (with_reducible refine Gr.alloc ?_ _) | (with_reducible refine Gr.drew ?_) | (with_reducible refine Gr.drewN ?_ _) | (with_reducible refine Gr.setCell ?_ (by simp <;> omega) _) | (with_reducible refine Gr.trans ?_ (by with_reducible assumption)) | exact Gr.refl _ | assumption | refine Gr.alloc ?_ _ | refine Gr.drew ?_ | refine Gr.drewN ?_ _ | refine Gr.setCell ?_ (by simp <;> omega) _ | refine Gr.trans ?_ (by assumption)))⟩
theorem PartsOf_any (T : List UInt8) (w : World) :
    Calls Tryz.prog 74 #[.string (BL T)] w fun e w' => e = .returned (.tuple #[paV T, .int .i64 (paAt T), .int .i64 (paE T)]) ∧ Gr w w' := by
  by_cases h1 : T = []
  · subst h1
    exact PartsOf_empty w
  by_cases h2 : 40 < T.length
  · have e : paE T = 2 := by unfold paE; rw [if_neg h1, if_pos h2]
    have h := PartsOf_long (BL T) (by rw [BL_size]; exact h2) w
    unfold paV paAt
    rw [e]
    exact h
  have e : paE T = if bdI T ≠ -1 then 8 else if bodI T = 0 then 6 else 0 := by unfold paE; rw [if_neg h1, if_neg h2]
  refine PartsOf_core T h1 (by omega) w _ _ _ (bodI T) (stsI T) (stpI T) (astB T) ?_ ?_ ?_ ?_
  · intro g
    rw [if_pos g] at e
    unfold paV paAt
    rw [e]
    exact ⟨rfl, rfl, rfl⟩
  · intro g g2
    rw [if_neg (by omega), if_pos g2] at e
    unfold paV paAt
    rw [e]
    exact ⟨rfl, rfl, rfl⟩
  · intro g g2
    rw [if_neg (by omega), if_neg g2] at e
    unfold paV paAt
    rw [e]
    exact ⟨rfl, rfl, rfl⟩
  · intro g w
    refine partsOf_any T (by omega) (fun b hb => ?_) w
    obtain ⟨i, hi, rfl⟩ := List.getElem_of_mem hb
    have := (bdF_all T T.length 0 (by omega) g i (by omega) hi).2
    unfold dAt at this
    rw [List.getD_eq_getElem?_getD, List.getElem?_eq_getElem hi] at this
    have h : T[i].toNat ≤ 126 := this
    omega
end Go.Proofs.YtmdpejllbalnnaaGreatDoor
namespace Go.Proofs.YtmdpejllbalnnaaGreatDoor
set_option linter.unusedSimpArgs false
set_option linter.unusedVariables false
open Go.RowKit

/-- How many of the first places are digit positions. -/
def psN (T : List UInt8) (sp : Int) : Nat → Nat
  | 0 => 0
  | i + 1 => psN T sp i + (if (dAt T i == 32 || decide ((i : Int) = sp)) = true then 1 else 0)
theorem psN_le (T : List UInt8) (sp : Int) : ∀ i, psN T sp i ≤ i
  | 0 => Nat.le_refl _
  | i + 1 => by have := psN_le T sp i; rw [psN]; split <;> omega
def CkW (w : World) (g : Nat) (l bo st sp : Int) (ast : Bool) (wr : World) : Prop :=
  wr.cell? ⟨w.heap.size, 1, none⟩ = some (.int .i64 l) ∧ PaC (w.heap.size + 1) 0 0 0 false wr ∧ PaC g bo st sp ast wr ∧ Gr w wr ∧ w.heap.size + 1 < wr.heap.size ∧ g < wr.heap.size ∧ w.heap.size + 1 < g
theorem CkW.gr {w : World} {g : Nat} {l bo st sp : Int} {ast : Bool} {a b : World} (h : CkW w g l bo st sp ast a) (G : Gr a b) : CkW w g l bo st sp ast b := by
  obtain ⟨h1, h2, h3, h4, h5, h6, h7⟩ := h
  have := Gr.size G
  exact ⟨G.keep h1, h2.gr G h5, h3.gr G h6, h4.trans G, by omega, by omega, h7⟩
set_option maxHeartbeats 4000000 in
theorem checkWord_ok (k l s : Int) (T : List UInt8) (bo st sp : Int) (ast : Bool) (b : Nat) (hb' : bo = b) (hbT : b ≤ T.length) (hT : T.length ≤ 100) (w : World)
    (hN : ∀ w, Calls Tryz.prog 56 #[.agg #[.int .i64 k, .int .i64 l, .int .i64 s]] w fun e w' => e = .returned (.int .i64 0) ∧ Gr w w')
    (hP : ∀ w, Calls Tryz.prog 74 #[.string (BL T)] w fun e w' => e = .returned (.tuple #[.agg #[.int .i64 bo, .int .i64 st, .int .i64 sp, .bool ast], .int .i64 0, .int .i64 0]) ∧ Gr w w') :
    Calls Tryz.prog 38 #[.agg #[.int .i64 k, .int .i64 l, .int .i64 s], .string (BL T)] w fun e w' => e = .returned (.tuple #[if (psN T sp b : Int) ≠ l then .agg #[.int .i64 0, .int .i64 0, .int .i64 0, .bool false] else .agg #[.int .i64 bo, .int .i64 st, .int .i64 sp, .bool ast], .int .i64 (if (psN T sp b : Int) ≠ l then 18 else 0)]) ∧ Gr w w' := by
  have hI := fun (q : Nat) (h : q < T.length) => isPosition_any T (q : Int) q rfl h bo st sp ast
  have HI := Lib.hid hI
  have HB := Lib.hid hb'
  clear hI hb'
  generalize BL T = X at *
  go_enter Tryz.func38, Tryz.ntmps38
  go_wp2_with (first | (go_at_call 56; (with_reducible refine (hN _).mono ?_); rintro e wA ⟨rfl, hbA⟩) | (go_at_call 74; (with_reducible refine (hP _).mono ?_); rintro e wB ⟨rfl, hbB⟩))
  have GB := hbA.trans hbB
  have k1 : wB.cell? ⟨w.heap.size, 1, none⟩ = some (.int .i64 l) := GB.keep (by simp [go_sem])
  have hzB := Gr.size GB
  simp at hzB
  have P1 : PaC (w.heap.size + 1) 0 0 0 false wB := PaC.gr (a := ((w.alloc (.cells #[.int .i64 k, .int .i64 l, .int .i64 s] 23)).alloc (.cells #[.int .i64 0, .int .i64 0, .int .i64 0, .bool false] 66))) ⟨⟨by simp [go_sem], by simp [go_sem], by simp [go_sem], by simp [go_sem]⟩, ⟨by simp [go_sem], by simp [go_sem], by simp [go_sem], by simp [go_sem]⟩⟩ GB (by simp)
  have GW : Gr w wB := Gr.trans ((Gr.alloc (Gr.alloc (Gr.refl w) _) _)) GB
  have C0 : CkW w wB.heap.size l bo st sp ast (wB.alloc (.cells #[.int .i64 bo, .int .i64 st, .int .i64 sp, .bool ast] 66)) := by
    have A0 := (Gr.refl wB).alloc (.cells #[.int .i64 bo, .int .i64 st, .int .i64 sp, .bool ast] 66)
    exact ⟨A0.keep k1, P1.gr A0 (by omega), ⟨⟨by simp [go_sem], by simp [go_sem], by simp [go_sem], by simp [go_sem]⟩, ⟨by simp [go_sem], by simp [go_sem], by simp [go_sem], by simp [go_sem]⟩⟩, GW.trans A0, by simp; omega, by simp, by omega⟩
  have CC := Lib.hid C0
  clear C0 P1 GW k1 hbA hbB GB
  generalize hg : wB.heap.size = g at *
  clear hzB
  go_loopw [10, 30] (fun c i wr => ∃ q : Nat, q ≤ b ∧ i = .int .i64 q ∧ c = .int .i64 (psN T sp q : Nat) ∧ Hid (CkW w g l bo st sp ast wr)) (fun _ i _ => b - (intOf i).toNat)
  case atStart => exact ⟨0, by omega, rfl, rfl, CC⟩
  case round =>
    obtain ⟨q, hq, rfl, rfl, hC⟩ := hrel
    obtain ⟨k1, ⟨⟨r0, r1, r2, r3⟩, ⟨s0, s1, s2, s3⟩⟩, ⟨⟨d0, d1, d2, d3⟩, ⟨g0, g1, g2, g3⟩⟩, G, hz1, hz2, hz3⟩ := hC.out
    have hn := psN_le T sp q
    have hbo := HB.out
    by_cases hlt : q < b
    · have hq2 := HI.out q (by omega)
      have hstep := Lib.hid (show psN T sp (q + 1) = psN T sp q + (if (dAt T q == 32 || decide ((q : Int) = sp)) = true then 1 else 0) from rfl)
      have clt : decide ((q : Int) < bo) = true := by simp; omega
      cases hv : (dAt T q == 32 || decide ((q : Int) = sp))
      · rw [hv] at hq2
        have hs2 := Lib.hid (show psN T sp (q + 1) = psN T sp q by rw [hstep.out, hv]; rfl)
        clear hv hstep hbo
        go_wp2_with (go_at_call 75; (with_reducible refine (hq2 _).mono ?_); rintro e w5 ⟨rfl, hb5⟩)
        go_roundw
        case rel => exact ⟨q + 1, by omega, by go_num, by rw [hs2.out], Lib.hid (hC.out.gr hb5)⟩
        case measure => simp [intOf]; omega
      · rw [hv] at hq2
        have hs2 := Lib.hid (show psN T sp (q + 1) = psN T sp q + 1 by rw [hstep.out, hv]; rfl)
        clear hv hstep hbo
        generalize psN T sp q = c at *
        go_wp2_with (go_at_call 75; (with_reducible refine (hq2 _).mono ?_); rintro e w5 ⟨rfl, hb5⟩)
        go_roundw
        case rel => exact ⟨q + 1, by omega, by go_num, by rw [hs2.out]; go_num, Lib.hid (hC.out.gr hb5)⟩
        case measure => simp [intOf]; omega
    · obtain rfl : q = b := by omega
      have clt : decide ((q : Int) < bo) = false := by simp; omega
      clear hbo
      by_cases hv : (psN T sp q : Int) = l
      · have c1 : ((psN T sp q : Int) != l) = false := by simp [hv]
        have HV := Lib.hid hv
        clear hv hn
        go_wp2
        exact bodyPost_ret (v := .tuple #[.agg #[.int .i64 bo, .int .i64 st, .int .i64 sp, .bool ast], .int .i64 0]) (by simp [results, Tryz.results38, go_sem, *]) rfl ⟨by first | rfl | rw [if_neg (fun h => h HV.out), if_neg (fun h => h HV.out)], (by (repeat (first | with_reducible refine Gr.setCell ?_ (by simp <;> omega) _ | with_reducible refine Gr.drew ?_ | with_reducible refine Gr.drewN ?_ _ | with_reducible refine Gr.alloc ?_ _)); first | (with_reducible exact Gr.refl _) | (with_reducible assumption) | exact (by repeat (first | (with_reducible exact Gr.refl _) | (with_reducible assumption) | (with_reducible refine Gr.alloc ?_ _) | (with_reducible refine Gr.drew ?_) | (with_reducible refine Gr.drewN ?_ _) | (with_reducible refine Gr.setCell ?_ (by simp <;> omega) _) | (with_reducible refine Gr.trans ?_ (by with_reducible assumption)) | exact Gr.refl _ | assumption | refine Gr.alloc ?_ _ | refine Gr.drew ?_ | refine Gr.drewN ?_ _ | refine Gr.setCell ?_ (by simp <;> omega) _ | refine Gr.trans ?_ (by assumption))))⟩
      · have c1 : ((psN T sp q : Int) != l) = true := by simp [hv]
        have HV := Lib.hid hv
        clear hv hn
        go_wp2
        exact bodyPost_ret (v := .tuple #[.agg #[.int .i64 0, .int .i64 0, .int .i64 0, .bool false], .int .i64 18]) (by simp [results, Tryz.results38, go_sem, *]) rfl ⟨by first | rfl | rw [if_pos HV.out, if_pos HV.out], (by (repeat (first | with_reducible refine Gr.setCell ?_ (by simp <;> omega) _ | with_reducible refine Gr.drew ?_ | with_reducible refine Gr.drewN ?_ _ | with_reducible refine Gr.alloc ?_ _)); first | (with_reducible exact Gr.refl _) | (with_reducible assumption) | exact (by repeat (first | (with_reducible exact Gr.refl _) | (with_reducible assumption) | (with_reducible refine Gr.alloc ?_ _) | (with_reducible refine Gr.drew ?_) | (with_reducible refine Gr.drewN ?_ _) | (with_reducible refine Gr.setCell ?_ (by simp <;> omega) _) | (with_reducible refine Gr.trans ?_ (by with_reducible assumption)) | exact Gr.refl _ | assumption | refine Gr.alloc ?_ _ | refine Gr.drew ?_ | refine Gr.drewN ?_ _ | refine Gr.setCell ?_ (by simp <;> omega) _ | refine Gr.trans ?_ (by assumption))))⟩
end Go.Proofs.YtmdpejllbalnnaaGreatDoor
namespace Go.Proofs.YtmdpejllbalnnaaGreatDoor
set_option linter.unusedSimpArgs false
set_option linter.unusedVariables false
open Go.RowKit

set_option maxHeartbeats 1000000 in
theorem checkWord_num (k l s E : Int) (X : ByteArray) (hE : E ≠ 0) (w : World)
    (hN : ∀ w, Calls Tryz.prog 56 #[.agg #[.int .i64 k, .int .i64 l, .int .i64 s]] w fun e w' => e = .returned (.int .i64 E) ∧ Gr w w') :
    Calls Tryz.prog 38 #[.agg #[.int .i64 k, .int .i64 l, .int .i64 s], .string X] w fun e w' => e = .returned (.tuple #[.agg #[.int .i64 0, .int .i64 0, .int .i64 0, .bool false], .int .i64 E]) ∧ Gr w w' := by
  have b1 : (E != 0) = true := by simp [hE]
  clear hE
  go_enter Tryz.func38, Tryz.ntmps38
  go_wp2_with ((go_at_call 56; (with_reducible refine (hN _).mono ?_); rintro e w1 ⟨rfl, hb⟩; obtain ⟨hc, hf⟩ := gcells hb (w.heap.size + 2) (by first | exact hz | omega | (simp; done) | (simp; omega)); have hz : w.heap.size + 2 ≤ w1.heap.size := (by have h := hb.size; (try simp at h); omega); have hz0 : w.heap.size < w1.heap.size := (by omega)))
  exact bodyPost_ret (v := .tuple #[.agg #[.int .i64 0, .int .i64 0, .int .i64 0, .bool false], .int .i64 E]) (by simp [results, Tryz.results38, go_sem, *]) rfl ⟨rfl, (by repeat (first | (with_reducible exact Gr.refl _) | (with_reducible assumption) | (with_reducible refine Gr.alloc ?_ _) | (with_reducible refine Gr.drew ?_) | (with_reducible refine Gr.drewN ?_ _) | (with_reducible refine Gr.setCell ?_ (by simp <;> omega) _) | (with_reducible refine Gr.trans ?_ (by with_reducible assumption)) | exact Gr.refl _ | assumption | refine Gr.alloc ?_ _ | refine Gr.drew ?_ | refine Gr.drewN ?_ _ | refine Gr.setCell ?_ (by simp <;> omega) _ | refine Gr.trans ?_ (by assumption)))⟩
set_option maxHeartbeats 1000000 in
theorem checkWord_parts (k l s A E bo st sp : Int) (ast : Bool) (X : ByteArray) (hE : E ≠ 0) (w : World)
    (hN : ∀ w, Calls Tryz.prog 56 #[.agg #[.int .i64 k, .int .i64 l, .int .i64 s]] w fun e w' => e = .returned (.int .i64 0) ∧ Gr w w')
    (hP : ∀ w, Calls Tryz.prog 74 #[.string X] w fun e w' => e = .returned (.tuple #[.agg #[.int .i64 bo, .int .i64 st, .int .i64 sp, .bool ast], .int .i64 A, .int .i64 E]) ∧ Gr w w') :
    Calls Tryz.prog 38 #[.agg #[.int .i64 k, .int .i64 l, .int .i64 s], .string X] w fun e w' => e = .returned (.tuple #[.agg #[.int .i64 0, .int .i64 0, .int .i64 0, .bool false], .int .i64 E]) ∧ Gr w w' := by
  have b1 : (E != 0) = true := by simp [hE]
  clear hE
  go_enter Tryz.func38, Tryz.ntmps38
  go_wp2_with (first | (go_at_call 56; (with_reducible refine (hN _).mono ?_); rintro e w1 ⟨rfl, hb⟩; obtain ⟨hc, hf⟩ := gcells hb (w.heap.size + 2) (by first | exact hz | omega | (simp; done) | (simp; omega)); have hz : w.heap.size + 2 ≤ w1.heap.size := (by have h := hb.size; (try simp at h); omega); have hz0 : w.heap.size < w1.heap.size := (by omega)) | ((go_at_call 74; (with_reducible refine (hP _).mono ?_); rintro e w1 ⟨rfl, hb⟩; obtain ⟨hc, hf⟩ := gcells hb (w.heap.size + 2) (by first | exact hz | omega | (simp; done) | (simp; omega)); have hz : w.heap.size + 2 ≤ w1.heap.size := (by have h := hb.size; (try simp at h); omega); have hz0 : w.heap.size < w1.heap.size := (by omega)); have hz1 : w.heap.size + 1 < w1.heap.size := (by omega)))
  exact bodyPost_ret (v := .tuple #[.agg #[.int .i64 0, .int .i64 0, .int .i64 0, .bool false], .int .i64 E]) (by simp [results, Tryz.results38, go_sem, *]) rfl ⟨rfl, (by repeat (first | (with_reducible exact Gr.refl _) | (with_reducible assumption) | (with_reducible refine Gr.alloc ?_ _) | (with_reducible refine Gr.drew ?_) | (with_reducible refine Gr.drewN ?_ _) | (with_reducible refine Gr.setCell ?_ (by simp <;> omega) _) | (with_reducible refine Gr.trans ?_ (by with_reducible assumption)) | exact Gr.refl _ | assumption | refine Gr.alloc ?_ _ | refine Gr.drew ?_ | refine Gr.drewN ?_ _ | refine Gr.setCell ?_ (by simp <;> omega) _ | refine Gr.trans ?_ (by assumption)))⟩
end Go.Proofs.YtmdpejllbalnnaaGreatDoor
namespace Go.Proofs.YtmdpejllbalnnaaGreatDoor
set_option linter.unusedSimpArgs false
set_option linter.unusedVariables false
open Go.RowKit

/-- checkWord's error. -/
def cwE (k l s : Int) (T : List UInt8) : Int :=
  if ntE k l s ≠ 0 then ntE k l s else if paE T ≠ 0 then paE T else if (psN T (stpI T) (bodI T).toNat : Int) ≠ l then 18 else 0
def cwV (k l s : Int) (T : List UInt8) : Value := if cwE k l s T = 0 then .agg #[.int .i64 (bodI T), .int .i64 (stsI T), .int .i64 (stpI T), .bool (astB T)] else .agg #[.int .i64 0, .int .i64 0, .int .i64 0, .bool false]
theorem pa_right {T : List UInt8} (h : paE T = 0) : T ≠ [] ∧ T.length ≤ 40 ∧ bdI T = -1 ∧ bodI T ≠ 0 := by
  unfold paE at h
  split at h
  · simp at h
  · split at h
    · simp at h
    · split at h
      · simp at h
      · split at h
        · simp at h
        · rename_i a b c d
          exact ⟨a, by omega, by omega, d⟩
theorem checkWord_any (k l s : Int) (T : List UInt8) (w : World) :
    Calls Tryz.prog 38 #[.agg #[.int .i64 k, .int .i64 l, .int .i64 s], .string (BL T)] w fun e w' => e = .returned (.tuple #[cwV k l s T, .int .i64 (cwE k l s T)]) ∧ Gr w w' := by
  have hN := edCheckNumeric_any k l s
  have hP := PartsOf_any T
  by_cases h1 : ntE k l s = 0
  · rw [h1] at hN
    by_cases h2 : paE T = 0
    · obtain ⟨a1, a2, a3, a4⟩ := pa_right h2
      obtain ⟨b0, b1, -, -, -⟩ := bod_bd T
      have hv : paV T = .agg #[.int .i64 (bodI T), .int .i64 (stsI T), .int .i64 (stpI T), .bool (astB T)] := by unfold paV; rw [if_pos h2]
      have ha : paAt T = 0 := by unfold paAt; rw [h2]; rfl
      rw [hv, ha, h2] at hP
      have h := checkWord_ok k l s T (bodI T) (stsI T) (stpI T) (astB T) (bodI T).toNat (by omega) (by omega) (by omega) w hN hP
      have e : cwE k l s T = if (psN T (stpI T) (bodI T).toNat : Int) ≠ l then 18 else 0 := by
        unfold cwE; rw [if_neg (by omega), if_neg (by omega)]
      unfold cwV
      rw [e]
      by_cases g : (psN T (stpI T) (bodI T).toNat : Int) ≠ l
      · rw [if_pos g, if_pos g] at h
        rw [if_pos g, if_neg (by decide)]
        exact h
      · rw [if_neg g, if_neg g] at h
        rw [if_neg g, if_pos rfl]
        exact h
    · have hv : paV T = .agg #[.int .i64 0, .int .i64 0, .int .i64 0, .bool false] := by unfold paV; rw [if_neg h2]
      rw [hv] at hP
      have h := checkWord_parts k l s (paAt T) (paE T) 0 0 0 false (BL T) h2 w hN hP
      have e : cwE k l s T = paE T := by unfold cwE; rw [if_neg (by omega), if_pos h2]
      unfold cwV
      rw [e, if_neg h2]
      exact h
  · have h := checkWord_num k l s (ntE k l s) (BL T) h1 w hN
    have e : cwE k l s T = ntE k l s := by unfold cwE; rw [if_pos h1]
    unfold cwV
    rw [e, if_neg h1]
    exact h
end Go.Proofs.YtmdpejllbalnnaaGreatDoor
namespace Go.Proofs.YtmdpejllbalnnaaGreatDoor
set_option linter.unusedSimpArgs false
set_option linter.unusedVariables false
open Go.RowKit

set_option maxHeartbeats 4000000 in
theorem editedBy_core (k l s n bo st sp : Int) (ast : Bool) (X D U V R : ByteArray) (P : World → Prop) (hP : ∀ a b, P a → Gr a b → P b) (w : World) (hw : P w)
    (hDg : ∀ w, P w → Calls Tryz.prog 60 #[.agg #[.int .i64 k, .int .i64 l, .int .i64 s], .int .i64 n] w fun e w' => e = .returned (.string D) ∧ Gr w w')
    (hBd : ∀ w, Calls Tryz.prog 76 #[.string D, .string X, .agg #[.int .i64 bo, .int .i64 st, .int .i64 sp, .bool ast]] w fun e w' => e = .returned (.string U) ∧ Gr w w')
    (hEx : ∀ w, P w → Calls Tryz.prog 77 #[.bool (decide (n < 0)), .string X, .agg #[.int .i64 bo, .int .i64 st, .int .i64 sp, .bool ast]] w fun e w' => e = .returned (.string V) ∧ Gr w w')
    (hadd : ∀ w, (Op.stringOp .add U V).run Tryz.prog w = .ok (.string R) w) :
    Calls Tryz.prog 39 #[.agg #[.int .i64 k, .int .i64 l, .int .i64 s], .int .i64 n, .string X, .agg #[.int .i64 bo, .int .i64 st, .int .i64 sp, .bool ast]] w fun e w' => e = .returned (.string R) ∧ Gr w w' := by
  have HP := Lib.hid hP
  have HW := Lib.hid hw
  obtain ⟨below, hbel⟩ : ∃ b, decide (n < 0) = b := ⟨_, rfl⟩
  rw [hbel] at hEx
  clear hP hw
  go_enter Tryz.func39, Tryz.ntmps39
  go_wp2_with fail
  go_region_held3 (fun w' => w'.cell? ⟨w.heap.size, 0, none⟩ = some (.int .i64 k) ∧ w'.cell? ⟨w.heap.size, 1, none⟩ = some (.int .i64 l) ∧ w'.cell? ⟨w.heap.size, 2, none⟩ = some (.int .i64 s) ∧ w'.cell? ⟨w.heap.size + 1, 0, none⟩ = some (.int .i64 bo) ∧ w'.cell? ⟨w.heap.size + 1, 1, none⟩ = some (.int .i64 st) ∧ w'.cell? ⟨w.heap.size + 1, 2, none⟩ = some (.int .i64 sp) ∧ w'.cell? ⟨w.heap.size + 1, 3, none⟩ = some (.bool ast)) (((try go_split_ands); (repeat' apply And.intro) <;> ((try simp only [World.cell?_drew]); first | (with_reducible assumption) | (simp [go_sem]; done) | ((repeat (first | (refine keepFar ?_ (by first | (dsimp only; omega) | (simp; done) | (simp; omega))) | (refine (Gr.alloc (Gr.refl _) _).keep ?_))); (try simp only [World.cell?_drew]); first | (with_reducible assumption) | (refine hb.keep ?_; (try simp only [World.cell?_drew]); first | (with_reducible assumption) | (simp [go_sem]; done) | ((repeat (refine (Gr.alloc (Gr.refl _) _).keep ?_)); (try simp only [World.cell?_drew]); (with_reducible assumption))) | (simp [*, go_sem]; done))))) (first | (go_at_call 60; (with_reducible refine (hDg _ (HP.out _ _ HW.out (by repeat (first | (with_reducible exact Gr.refl _) | (with_reducible assumption) | (with_reducible refine Gr.alloc ?_ _) | (with_reducible refine Gr.drew ?_) | (with_reducible refine Gr.drewN ?_ _) | (with_reducible refine Gr.setCell ?_ (by simp <;> omega) _) | (with_reducible refine Gr.trans ?_ (by with_reducible assumption)) | exact Gr.refl _ | assumption | refine Gr.alloc ?_ _ | refine Gr.drew ?_ | refine Gr.drewN ?_ _ | refine Gr.setCell ?_ (by simp <;> omega) _ | refine Gr.trans ?_ (by assumption))))).mono ?_); rintro e wA ⟨rfl, hb⟩) | (go_at_call 76; (with_reducible refine (hBd _).mono ?_); rintro e wB ⟨rfl, hb⟩) | (go_at_call 77; (with_reducible refine (hEx _ (HP.out _ _ HW.out (by repeat (first | (with_reducible exact Gr.refl _) | (with_reducible assumption) | (with_reducible refine Gr.alloc ?_ _) | (with_reducible refine Gr.drew ?_) | (with_reducible refine Gr.drewN ?_ _) | (with_reducible refine Gr.setCell ?_ (by simp <;> omega) _) | (with_reducible refine Gr.trans ?_ (by with_reducible assumption)) | exact Gr.refl _ | assumption | refine Gr.alloc ?_ _ | refine Gr.drew ?_ | refine Gr.drewN ?_ _ | refine Gr.setCell ?_ (by simp <;> omega) _ | refine Gr.trans ?_ (by assumption))))).mono ?_); rintro e wC ⟨rfl, hb⟩))
  all_goals
    go_wp2_with fail
    go_ret
    exact ⟨rfl, (by repeat (first | (with_reducible exact Gr.refl _) | (with_reducible assumption) | (with_reducible refine Gr.alloc ?_ _) | (with_reducible refine Gr.drew ?_) | (with_reducible refine Gr.drewN ?_ _) | (with_reducible refine Gr.setCell ?_ (by simp <;> omega) _) | (with_reducible refine Gr.trans ?_ (by with_reducible assumption)) | exact Gr.refl _ | assumption | refine Gr.alloc ?_ _ | refine Gr.drew ?_ | refine Gr.drewN ?_ _ | refine Gr.setCell ?_ (by simp <;> omega) _ | refine Gr.trans ?_ (by assumption)))⟩
set_option maxHeartbeats 4000000 in
theorem EditedBy_core (k l s n E1 E2 bo st sp : Int) (ast : Bool) (X x R : ByteArray) (P : World → Prop) (hP : ∀ a b, P a → Gr a b → P b) (w : World) (hw : P w)
    (h1 : ∀ w, Calls Tryz.prog 38 #[.agg #[.int .i64 k, .int .i64 l, .int .i64 s], .string X] w fun e w' => e = .returned (.tuple #[.agg #[.int .i64 bo, .int .i64 st, .int .i64 sp, .bool ast], .int .i64 E1]) ∧ Gr w w')
    (h2 : ∀ w, Calls Tryz.prog 33 #[.agg #[.int .i64 k, .int .i64 l, .int .i64 s], .agg #[.int .i64 n, .string x]] w fun e w' => e = .returned (.int .i64 E2) ∧ Gr w w')
    (h3 : E1 = 0 → E2 = 0 → ∀ w, P w → Calls Tryz.prog 39 #[.agg #[.int .i64 k, .int .i64 l, .int .i64 s], .int .i64 n, .string X, .agg #[.int .i64 bo, .int .i64 st, .int .i64 sp, .bool ast]] w fun e w' => e = .returned (.string R) ∧ Gr w w') :
    Calls Tryz.prog 19 #[.agg #[.int .i64 k, .int .i64 l, .int .i64 s], .agg #[.int .i64 n, .string x], .string X] w (EdR (if E1 ≠ 0 then ⟨#[]⟩ else if E2 ≠ 0 then ⟨#[]⟩ else R) (if E1 ≠ 0 then E1 else E2) w) := by
  have HP := Lib.hid hP
  have HW := Lib.hid hw
  clear hP hw
  by_cases g1 : E1 = 0
  · subst g1
    by_cases g2 : E2 = 0
    · subst g2
      replace h3 := h3 rfl rfl
      rw [if_neg (by simp), if_neg (by simp), if_neg (by simp)]
      go_enter Tryz.func19, Tryz.ntmps19
      go_wp2_with (first | ((go_at_call 38; (with_reducible refine (h1 _).mono ?_); rintro e w1 ⟨rfl, hb⟩; obtain ⟨hc, hf⟩ := gcells hb (w.heap.size + 2) (by first | exact hz | omega | (simp; done) | (simp; omega)); have hz : w.heap.size + 2 ≤ w1.heap.size := (by have h := hb.size; (try simp at h); omega); have hz0 : w.heap.size < w1.heap.size := (by omega)); have hz1 : w.heap.size + 1 < w1.heap.size := (by omega)) | (go_at_call 33; (with_reducible refine (h2 _).mono ?_); rintro e w8 ⟨rfl, w8h⟩; obtain ⟨w8c, w8f⟩ := w8h.cells; have w8s := w8h.size; (try simp at w8s); have w8z : w.heap.size < w8.heap.size := (by omega)) | (go_at_call 39; (with_reducible refine (h3 _ (HP.out _ _ HW.out (by repeat (first | (with_reducible exact Gr.refl _) | (with_reducible assumption) | (with_reducible refine Gr.alloc ?_ _) | (with_reducible refine Gr.drew ?_) | (with_reducible refine Gr.drewN ?_ _) | (with_reducible refine Gr.setCell ?_ (by simp <;> omega) _) | (with_reducible refine Gr.trans ?_ (by with_reducible assumption)) | exact Gr.refl _ | assumption | refine Gr.alloc ?_ _ | refine Gr.drew ?_ | refine Gr.drewN ?_ _ | refine Gr.setCell ?_ (by simp <;> omega) _ | refine Gr.trans ?_ (by assumption))))).mono ?_); rintro e w9 ⟨rfl, w9h⟩; obtain ⟨w9c, w9f⟩ := w9h.cells; have w9s := w9h.size; (try simp at w9s); have w9z : w.heap.size < w9.heap.size := (by omega)))
      refine bodyPost_ret (v := .tuple #[.string R, .int .i64 0]) (by simp [results, Tryz.results19, go_sem, *]) rfl ?_
      exact ⟨rfl, (by repeat (first | (with_reducible exact Gr.refl _) | (with_reducible assumption) | (with_reducible refine Gr.alloc ?_ _) | (with_reducible refine Gr.drew ?_) | (with_reducible refine Gr.drewN ?_ _) | (with_reducible refine Gr.setCell ?_ (by simp <;> omega) _) | (with_reducible refine Gr.trans ?_ (by with_reducible assumption)) | exact Gr.refl _ | assumption | refine Gr.alloc ?_ _ | refine Gr.drew ?_ | refine Gr.drewN ?_ _ | refine Gr.setCell ?_ (by simp <;> omega) _ | refine Gr.trans ?_ (by assumption)))⟩
    · have b2 : (E2 != 0) = true := by simp [g2]
      rw [if_neg (by simp), if_pos g2, if_neg (by simp)]
      clear h3 g2
      go_enter Tryz.func19, Tryz.ntmps19
      go_wp2_with (first | ((go_at_call 38; (with_reducible refine (h1 _).mono ?_); rintro e w1 ⟨rfl, hb⟩; obtain ⟨hc, hf⟩ := gcells hb (w.heap.size + 2) (by first | exact hz | omega | (simp; done) | (simp; omega)); have hz : w.heap.size + 2 ≤ w1.heap.size := (by have h := hb.size; (try simp at h); omega); have hz0 : w.heap.size < w1.heap.size := (by omega)); have hz1 : w.heap.size + 1 < w1.heap.size := (by omega)) | (go_at_call 33; (with_reducible refine (h2 _).mono ?_); rintro e w8 ⟨rfl, w8h⟩; obtain ⟨w8c, w8f⟩ := w8h.cells; have w8s := w8h.size; (try simp at w8s); have w8z : w.heap.size < w8.heap.size := (by omega)))
      refine bodyPost_ret (v := .tuple #[.string ⟨#[]⟩, .int .i64 E2]) (by simp [results, Tryz.results19, go_sem, *]) rfl ?_
      exact ⟨rfl, (by repeat (first | (with_reducible exact Gr.refl _) | (with_reducible assumption) | (with_reducible refine Gr.alloc ?_ _) | (with_reducible refine Gr.drew ?_) | (with_reducible refine Gr.drewN ?_ _) | (with_reducible refine Gr.setCell ?_ (by simp <;> omega) _) | (with_reducible refine Gr.trans ?_ (by with_reducible assumption)) | exact Gr.refl _ | assumption | refine Gr.alloc ?_ _ | refine Gr.drew ?_ | refine Gr.drewN ?_ _ | refine Gr.setCell ?_ (by simp <;> omega) _ | refine Gr.trans ?_ (by assumption)))⟩
  · have b1 : (E1 != 0) = true := by simp [g1]
    rw [if_pos g1, if_pos g1]
    clear h3 g1 h2
    go_enter Tryz.func19, Tryz.ntmps19
    go_wp2_with ((go_at_call 38; (with_reducible refine (h1 _).mono ?_); rintro e w1 ⟨rfl, hb⟩; obtain ⟨hc, hf⟩ := gcells hb (w.heap.size + 2) (by first | exact hz | omega | (simp; done) | (simp; omega)); have hz : w.heap.size + 2 ≤ w1.heap.size := (by have h := hb.size; (try simp at h); omega); have hz0 : w.heap.size < w1.heap.size := (by omega)))
    refine bodyPost_ret (v := .tuple #[.string ⟨#[]⟩, .int .i64 E1]) (by simp [results, Tryz.results19, go_sem, *]) rfl ?_
    exact ⟨rfl, (by repeat (first | (with_reducible exact Gr.refl _) | (with_reducible assumption) | (with_reducible refine Gr.alloc ?_ _) | (with_reducible refine Gr.drew ?_) | (with_reducible refine Gr.drewN ?_ _) | (with_reducible refine Gr.setCell ?_ (by simp <;> omega) _) | (with_reducible refine Gr.trans ?_ (by with_reducible assumption)) | exact Gr.refl _ | assumption | refine Gr.alloc ?_ _ | refine Gr.drew ?_ | refine Gr.drewN ?_ _ | refine Gr.setCell ?_ (by simp <;> omega) _ | refine Gr.trans ?_ (by assumption)))⟩
end Go.Proofs.YtmdpejllbalnnaaGreatDoor
namespace Go.Proofs.YtmdpejllbalnnaaGreatDoor
set_option linter.unusedSimpArgs false
set_option linter.unusedVariables false
open Go.RowKit

def posB (T : List UInt8) (sp : Int) (q : Nat) : Bool := dAt T q == 32 || decide ((q : Int) = sp)
/-- What stands at a place once its digit is laid, if it has one. -/
def ldO (D T : List UInt8) (sp : Int) (q : Nat) : UInt8 := if posB T sp q then dAt D (psN T sp q) else dAt T q
/-- The first q characters of the body, and whether zeros are still suppressed. -/
def bdS (D T : List UInt8) (sp : Int) (fl : UInt8) : Nat → List UInt8 × Bool
  | 0 => ([], true)
  | q + 1 =>
    let p := bdS D T sp fl q
    let s1 := p.2 && (!posB T sp q || ldO D T sp q == 48)
    (p.1 ++ [if dAt T q = 38 then 32 else if s1 then fl else ldO D T sp q], s1 && !decide ((q : Int) = sp))
theorem bdS_len (D T : List UInt8) (sp : Int) (fl : UInt8) : ∀ q, (bdS D T sp fl q).1.length = q
  | 0 => rfl
  | q + 1 => by rw [bdS]; simp [bdS_len D T sp fl q]
theorem psN_step (T : List UInt8) (sp : Int) (q : Nat) : psN T sp (q + 1) = psN T sp q + (if posB T sp q = true then 1 else 0) := rfl
theorem psN_mono (T : List UInt8) (sp : Int) (q : Nat) : ∀ n, psN T sp q ≤ psN T sp (q + n)
  | 0 => Nat.le_refl _
  | n + 1 => by
    have := psN_mono T sp q n
    rw [← Nat.add_assoc, psN_step]; omega
/-- A digit is left where one is wanted. -/
theorem psN_lt (T : List UInt8) (sp : Int) {q b : Nat} (h : q < b) (hp : posB T sp q = true) : psN T sp q < psN T sp b := by
  have h1 := psN_mono T sp (q + 1) (b - (q + 1))
  rw [show q + 1 + (b - (q + 1)) = b by omega, psN_step, if_pos hp] at h1
  omega
/-- The bytes that a block's first cells hold; they may be written. -/
def ByW (w : World) (g : Nat) (xs : List UInt8) : Prop := ∀ j, j < xs.length → w.cell? ⟨g, j, none⟩ = some (.int .u8 ((dAt xs j).toNat : Int)) ∧ w.frozen? ⟨g, j, none⟩ = false
theorem ByW.gr {w w' : World} {g : Nat} {xs : List UInt8} (h : ByW w g xs) (G : Gr w w') (hg : g < w.heap.size) : ByW w' g xs := fun j hj =>
  ⟨G.keep (h j hj).1, (G.cells.2 _ _ hg).trans (h j hj).2⟩
end Go.Proofs.YtmdpejllbalnnaaGreatDoor
