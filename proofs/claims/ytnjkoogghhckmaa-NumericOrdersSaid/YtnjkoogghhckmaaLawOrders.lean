/- NumericOrders: for every data type and every two numbers, rounded or cut off, the law returns true (the order of the numbers is kept, and as zoned bytes too); no condition. -/
import Derived.Test.YtnjkoogghhckmaaOrdA
import Derived.Test.YtnjkoogghhckmaaOrdB
import Derived.Test.YtnjkoogghhckmaaPair
import Derived.Test.YtnjkoogghhckmaaK
import Derived.OpenShut
import Derived.Lib.SmallJoins
namespace Go.Proofs.Ytnjkoogghhckmaa.lawOrders
set_option linter.unusedSimpArgs false
set_option linter.unusedVariables false
open Go.Proofs.Ytnjkoogghhckmaa
open Go.ChangeShapes Go.WideShapes Go.ChangeAt Go.RowKit Go.Joins
set_option linter.unusedVariables false

theorem cv_ok {n s k l sc : Int} {half : Bool} (h : cvE n s k l sc half = 0) : cvErr n s k l sc = 0 ∧ pE (cvZ n s sc half) l = 0 ∧ cvN n s k l sc half = rdI (decide (n < 0)) (cvZ n s sc half) ∧ ((cvZ n s sc half : Nat) : Int) ≤ most l := by
  have he : cvErr n s k l sc = 0 := by
    by_cases e : cvErr n s k l sc = 0
    · exact e
    · unfold cvE at h; rw [if_pos e] at h; exact h
  have hp : pE (cvZ n s sc half) l = 0 := by
    unfold cvE at h; rw [if_neg (by omega)] at h; exact h
  refine ⟨he, hp, ?_, ?_⟩
  · unfold cvN; rw [if_neg (by omega)]; exact pN_ok hp
  · unfold pE at hp; split at hp <;> omega
theorem rdI_bd {b : Bool} {Z : Nat} {M : Int} (h : (Z : Int) ≤ M) : -M ≤ rdI b Z ∧ rdI b Z ≤ M := by
  unfold rdI; split <;> omega
theorem numErr_of {n s k l sc : Int} (h : cvErr n s k l sc = 0) : numErr n s = 0 := by
  have := cvErr_ok h
  unfold numErr; rw [if_neg (by omega)]
theorem typeErr_of {n s k l sc : Int} (h : cvErr n s k l sc = 0) : typeErr k l sc = 0 := by
  have h1 := numErr_of h
  unfold cvErr at h
  by_cases e : typeErr k l sc = 0
  · exact e
  · simp [first0, h1, e] at h
theorem valErr_of {l sc N : Int} (h : typeErr 2 l sc = 0) (h1 : -(most l) ≤ N) (h2 : N ≤ most l) : valErr 2 l sc N ⟨#[]⟩ = 0 := by
  have hf : fitsB N l = true := by unfold fitsB; simp [h1, h2]
  unfold valErr
  simp [h, hf, ByteArray.size]
theorem enc_of {l sc N : Int} (h : typeErr 2 l sc = 0) (h1 : -(most l) ≤ N) (h2 : N ≤ most l) (w : World) :
    Calls Try.prog 24 #[.agg #[.int .i64 2, .int .i64 l, .int .i64 sc], .agg #[.int .i64 N, .string ⟨#[]⟩]] w fun e w' => e = .returned (.tuple #[.string (strOfNums (znB N l.toNat)), .int .i64 0]) ∧ Gr w w' := by
  have hE := Encode_any 2 l sc N ⟨#[]⟩ w
  rw [valErr_of h h1 h2, if_pos rfl] at hE
  exact hE
theorem less_of {l x y : Int} (hx : 0 ≤ x) (hx' : x ≤ most l) (hy : 0 ≤ y) (hy' : y ≤ most l) : Op.bytesLess (strOfNums (znB x l.toNat)).toList (strOfNums (znB y l.toNat)).toList = decide (x < y) := by
  rw [zn_list x _ hx, zn_list y _ hy]
  unfold most p10 at hx' hy'
  exact zl_less _ x y hx (by omega) hy (by omega)

theorem law (k l sc n s m r : Int) (half : Bool) (w : World) :
    Calls Try.prog 10 #[.agg #[.int .i64 k, .int .i64 l, .int .i64 sc], .agg #[.int .i64 n, .int .i64 s, .int .i64 m, .int .i64 r], .bool half] w fun e w' => e = .returned (.bool true) ∧ Gr w w' := by
  have hA := Converted_any n s k l sc half
  have hB := Converted_any m r k l sc half
  have hC := Compared_any n s m r
  by_cases a0 : cvE n s k l sc half = 0
  · by_cases b0 : cvE m r k l sc half = 0
    · obtain ⟨ea, pa, va, ma⟩ := cv_ok a0
      obtain ⟨eb, pb, vb, mb⟩ := cv_ok b0
      have ba := cvErr_ok ea
      have bb := cvErr_ok eb
      have ht := typeErr_of ea
      have ec : cpErr n s m r = 0 := by unfold cpErr; rw [numErr_of ea, numErr_of eb]; rfl
      have rr : cpR n s m r = sgI (upI n s (max s r) - upI m r (max s r)) := by unfold cpR; rw [if_neg (by omega)]
      have mono := (rd_mono (n := n) (s := s) (m := m) (r := r) (sc := sc) half (by omega) (by omega) (by omega))
      have mono' := (rd_mono (n := m) (s := r) (m := n) (r := s) (sc := sc) half (by omega) (by omega) (by omega)).1
      rw [show max r s = max s r by omega] at mono'
      rw [va, a0] at hA
      rw [vb, b0] at hB
      rw [rr, ec] at hC
      have ra := rdI_bd (b := decide (n < 0)) ma
      have rb := rdI_bd (b := decide (m < 0)) mb
      generalize rdI (decide (n < 0)) (cvZ n s sc half) = NA at *
      generalize rdI (decide (m < 0)) (cvZ m r sc half) = NB at *
      generalize upI n s (max s r) = U at *
      generalize upI m r (max s r) = V at *
      rcases Int.lt_trichotomy U V with c | c | c
      · have g := mono.1 c
        rw [show sgI (U - V) = -1 by unfold sgI; rw [if_pos (by omega)]] at hC
        by_cases k2 : k = 2
        · subst k2
          by_cases na : NA < 0
          · exact coreLa l sc n s m r half NA NB awake_any hA hB hC (by omega) (decide_eq_false (by omega)) na (decide_eq_true na) w
          · exact coreLr l sc n s m r half NA NB _ _ awake_any hA hB hC (enc_of ht ra.1 ra.2) (enc_of ht rb.1 rb.2) (less_of (by omega) ra.2 (by omega) rb.2) (by omega) (decide_eq_false (by omega)) na (decide_eq_false na) (by omega) (decide_eq_false (by omega)) w
        · exact coreLk k l sc n s m r half NA NB awake_any hA hB hC (by omega) (decide_eq_false (by omega)) (by simp [k2]) w
      · have g := mono.2 c
        subst g
        rw [show sgI (U - V) = 0 by unfold sgI; rw [if_neg (by omega), if_pos (by omega)]] at hC
        by_cases k2 : k = 2
        · subst k2
          by_cases na : NA < 0
          · exact coreEa l sc n s m r half NA awake_any hA hB hC na (decide_eq_true na) w
          · exact coreEr l sc n s m r half NA _ awake_any hA hB hC (enc_of ht ra.1 ra.2) ((less_of (by omega) ra.2 (by omega) ra.2).trans (by simp)) na (decide_eq_false na) w
        · exact coreEk k l sc n s m r half NA awake_any hA hB hC (by simp [k2]) w
      · have g := mono' c
        rw [show sgI (U - V) = 1 by unfold sgI; rw [if_neg (by omega), if_neg (by omega)]] at hC
        by_cases k2 : k = 2
        · subst k2
          by_cases na : NA < 0
          · exact coreMa l sc n s m r half NA NB awake_any hA hB hC (by omega) (decide_eq_false (by omega)) na (decide_eq_true na) w
          · by_cases nb : NB < 0
            · exact coreMb l sc n s m r half NA NB awake_any hA hB hC (by omega) (decide_eq_false (by omega)) na (decide_eq_false na) nb (decide_eq_true nb) w
            · exact coreMr l sc n s m r half NA NB _ _ awake_any hA hB hC (enc_of ht ra.1 ra.2) (enc_of ht rb.1 rb.2) (less_of (by omega) ra.2 (by omega) rb.2) (by omega) (decide_eq_false (by omega)) na (decide_eq_false na) nb (decide_eq_false nb) w
        · exact coreMk k l sc n s m r half NA NB awake_any hA hB hC (by omega) (decide_eq_false (by omega)) (by simp [k2]) w
    · rw [a0] at hA
      exact coreB k l sc n s m r half _ _ _ _ _ awake_any hA hB hC (by simp [b0]) w
  · exact coreA k l sc n s m r half _ _ _ _ _ _ awake_any hA hB hC (by simp [a0]) w

theorem own : ownKnob Try.prog.godebug = none := by kernel_rfl
theorem cells_dt : Try.prog.cellsOf 23 = 3 := by kernel_rfl
set_option maxRecDepth 100000 in
theorem lifted (os : Os) (started : os.Started) (H : Type) (enc : TypeId × Value → H) :
    ReturnsInHanded {} Try.checked os 10 .any (Rows.numericOrdersSpec.pre6 enc Try.prog Try.f10 Rows.numericOrdersRow.domain false) (Rows.numericOrdersSpec.post enc Try.prog Try.f10 false true false false) := by
  refine returnsInHanded_of_change (C := Try.checked) own started (by kernel_rfl) Try.func10
    (ChangeSpec.witness6 (enc := enc) (C := Try.checked) false ⟨#[], #[.agg #[.int .i64 0, .int .i64 0, .int .i64 0], .agg #[.int .i64 0, .int .i64 0, .int .i64 0, .int .i64 0], .bool false], []⟩ 8 (by kernel_rfl) (by kernel_rfl) (by kernel_rfl) (by kernel_rfl)) ?_
  intro W base args ds gs before hval0 hW hcnd _
  have hval : ∀ (j : Nat) t v, Try.f10.params[j]? = some t → args[j]? = some v → Value.okWide Try.prog W .any base t v := hval0
  have hW' := hW
  obtain ⟨p, q, hA0, hV, rfl, hfz, hnd⟩ := hW
  have hA : DataW.TrodAll enc Try.prog W 0 (fun _ => true) true Try.f10.params.toList args.toList ds p := hA0
  rw [Try.params10] at hA hval
  obtain ⟨v0, vs0, d0, ds0, p0, q0, hargs, rfl, rfl, h0, r0⟩ := trodAll_cons hA
  obtain ⟨v1, vs1, d1, ds1, p1, q1, rfl, rfl, rfl, h1, r1⟩ := trodAll_cons r0
  obtain ⟨v2, vs2, d2, ds2, p2, q2, rfl, rfl, rfl, h2, r2⟩ := trodAll_cons r1
  obtain ⟨rfl, rfl, rfl⟩ := trodAll_nil r2
  obtain rfl : args = #[v0, v1, v2] := by cases args; simp_all
  obtain ⟨rfl, rfl⟩ := trodVars_none hV
  obtain ⟨c00, c01, c02, y00, y01, y02, m0, rfl, rfl, rfl, g00, g01, g02⟩ := open_agg3 Try.underlying23 (by kernel_rfl) cells_dt (hval 0 23 v0 rfl rfl) h0
  obtain ⟨a00, e00, rfl, w00⟩ := DataW.trod_int Try.underlying3 g00
  obtain ⟨a01, e01, rfl, w01⟩ := DataW.trod_int Try.underlying3 g01
  obtain ⟨a02, e02, rfl, w02⟩ := DataW.trod_int Try.underlying3 g02
  simp at e00 e01 e02
  subst e00 e01 e02
  obtain ⟨a10, a11, a12, a13, rfl, rfl, rfl, w10, w11, w12, w13⟩ := open_pair (hval 1 56 v1 rfl rfl) h1
  obtain ⟨a2, rfl, rfl, rfl⟩ := open_bool Try.underlying4 (hval 2 4 v2 rfl rfl) h2
  clear hA0 hval0
  simp only [List.append_nil] at hW'
  refine (law a00 a01 a02 a10 a11 a12 a13 a2 W).mono fun e W' ⟨he, hg⟩ => ?_
  subst he
  have hB : Below W.heap.size W W' := hg
  exact ⟨_, rfl, _, _, _, [], [], [], hW', (trodAll_cons_mk (shut_bool Try.underlying4 _) trodAll_mk0), (trodAll_cons_mk (shut_agg3 (y0 := (.lit (.int .i64 a00), [])) (y1 := (.lit (.int .i64 a01), [])) (y2 := (.lit (.int .i64 a02), [])) Try.underlying23 (by kernel_rfl) cells_dt ⟨1, by simp [DataW.trod, Try.underlying3, w00]⟩ ⟨1, by simp [DataW.trod, Try.underlying3, w01]⟩ ⟨1, by simp [DataW.trod, Try.underlying3, w02]⟩) (trodAll_cons_mk (shut_pair w10 w11 w12 w13) (trodAll_cons_mk (shut_bool Try.underlying4 _) trodAll_mk0))), rfl, hB.frame _, fun h => by cases h⟩

theorem proved : Rows.NumericOrdersSaid :=
  OpenClaim.holds_of_wide 10 Try.f10 rfl rfl rfl rfl rfl rfl rfl ⟨rfl, rfl, rfl, rfl, rfl⟩ rfl rfl rfl rfl rfl (by kernel_rfl) Try.func10 (by kernel_rfl)
    (of_decide_eq_true (by kernel_rfl)) (by unfold Func.isWrapper; first | (rw [if_pos (by decide +kernel)]; kernel_rfl) | (rw [if_neg (by decide +kernel)]; exact ⟨rfl, rfl⟩))
    (fun os started H enc _ => lifted os started H enc)

end Go.Proofs.Ytnjkoogghhckmaa.lawOrders
