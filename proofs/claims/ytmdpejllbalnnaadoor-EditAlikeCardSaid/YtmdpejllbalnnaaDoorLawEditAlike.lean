/- EditAlike: for every data type, value and edit code the law returns true (the text of a value by a code has as many characters as all others, and its digits make the value's amount); no condition but that the listed tables are laid, which the card ties to the program's text. -/
import Derived.Test.YtmdpejllbalnnaaDoorQ22
import Derived.Test.YtmdpejllbalnnaaDoorQ18
import Derived.Test.YtmdpejllbalnnaaDoorQ21
import Derived.Test.YtmdpejllbalnnaaDoorQ01
namespace Go.Proofs.YtmdpejllbalnnaaDoor.lawEditAlike
set_option linter.unusedSimpArgs false
set_option linter.unusedVariables false
open Go.Proofs.YtmdpejllbalnnaaDoor
open Go.ChangeShapes Go.WideShapes Go.ChangeAt Go.RowKit Go.Joins Go.Deep

theorem dig_law (b : UInt8) (d : Bool) (h : isDg b = d) (w : World) : Calls Tryd.prog 10 #[.int .u8 (b.toNat : Int)] w fun e w' => e = .returned (.bool d) ∧ w = w' := by
  have hb : decide ((48 : Int) ≤ (b.toNat : Int)) = decide (48 ≤ b.toNat) := decide_eq_decide.2 (by omega)
  have hc : decide ((b.toNat : Int) ≤ 57) = decide (b.toNat ≤ 57) := decide_eq_decide.2 (by omega)
  have hd : (decide ((48 : Int) ≤ (b.toNat : Int)) && decide ((b.toNat : Int) ≤ 57)) = d := by rw [hb, hc]; exact h
  generalize (b.toNat : Int) = y at *
  clear hb hc h
  by_cases g1 : (48 : Int) ≤ y
  · by_cases g2 : y ≤ 57
    · have E := Lib.hid (show d = true by rw [← hd]; simp [g1, g2])
      clear hd
      go_enter Tryd.func10, Tryd.ntmps10
      go_wp2
      go_ret
      exact ⟨ret_bool E.out.symm, rfl⟩
    · have E := Lib.hid (show d = false by rw [← hd]; simp [g2])
      have b2 : decide (y ≤ 57) = false := by simp; omega
      clear hd
      go_enter Tryd.func10, Tryd.ntmps10
      go_wp2
      go_ret
      exact ⟨ret_bool E.out.symm, rfl⟩
  · have E := Lib.hid (show d = false by rw [← hd]; simp [g1])
    have b1 : decide (48 ≤ y) = false := by simp; omega
    clear hd
    go_enter Tryd.func10, Tryd.ntmps10
    go_wp2
    go_ret
    exact ⟨ret_bool E.out.symm, rfl⟩
set_option maxHeartbeats 2000000 in
set_option maxRecDepth 100000 in
theorem large (k l s n c f : Int) (x : ByteArray) (hx : x.size ≤ maxLen) (h3 : (300 : Int) < x.size) (w : World) (hw : PW w) :
    Calls Tryd.prog 4 #[.agg #[.int .i64 k, .int .i64 l, .int .i64 s], .agg #[.int .i64 n, .string x], .agg #[.int .u8 c, .int .i64 f]] w fun e w' => e = .returned (.bool true) ∧ Gr w w' := by
  unfold maxLen at hx
  have HW := Lib.hid hw
  clear hw
  have b1 : decide ((300 : Int) < (x.size : Int)) = true := by simp; omega
  clear h3
  go_enter Tryd.func4, Tryd.ntmps4
  go_wp2_with ((go_at_call 5; (with_reducible refine (awake_any _ (HW.out.gr (by repeat (first | (with_reducible exact Gr.refl _) | (with_reducible assumption) | (with_reducible refine Gr.alloc ?_ _) | (with_reducible refine Gr.drew ?_) | (with_reducible refine Gr.drewN ?_ _) | (with_reducible refine Gr.setCell ?_ (by simp <;> omega) _) | (with_reducible refine Gr.trans ?_ (by with_reducible assumption)) | exact Gr.refl _ | assumption | refine Gr.alloc ?_ _ | refine Gr.drew ?_ | refine Gr.drewN ?_ _ | refine Gr.setCell ?_ (by simp <;> omega) _ | refine Gr.trans ?_ (by assumption))))).mono ?_); rintro e w1 ⟨rfl, hb⟩; obtain ⟨hc, hf⟩ := gcells hb (w.heap.size + 3) (by first | exact hz | omega | (simp; done) | (simp; omega)); have hz : w.heap.size + 3 ≤ w1.heap.size := (by have h := hb.size; (try simp at h); omega); have hz0 : w.heap.size < w1.heap.size := (by omega)); have hz1 : w.heap.size + 1 < w1.heap.size := (by omega); have hz2 : w.heap.size + 2 < w1.heap.size := (by omega))
  go_ret
  exact ⟨rfl, (by repeat (first | (with_reducible exact Gr.refl _) | (with_reducible assumption) | (with_reducible refine Gr.alloc ?_ _) | (with_reducible refine Gr.drew ?_) | (with_reducible refine Gr.drewN ?_ _) | (with_reducible refine Gr.setCell ?_ (by simp <;> omega) _) | (with_reducible refine Gr.trans ?_ (by with_reducible assumption)) | exact Gr.refl _ | assumption | refine Gr.alloc ?_ _ | refine Gr.drew ?_ | refine Gr.drewN ?_ _ | refine Gr.setCell ?_ (by simp <;> omega) _ | refine Gr.trans ?_ (by assumption)))⟩
set_option maxHeartbeats 4000000 in
set_option maxRecDepth 100000 in
theorem core_no (k l s n c f E E2 N : Int) (x T : ByteArray) (hx : x.size ≤ maxLen) (h3 : ¬ (300 : Int) < x.size) (hE : E ≠ 0)
    (h1 : ∀ w, TabW w → Calls Tryd.prog 8 #[.agg #[.int .i64 k, .int .i64 l, .int .i64 s], .agg #[.int .i64 n, .string x], .agg #[.int .u8 c, .int .i64 f]] w (EdR T E w))
    (h2 : ∀ w, TabW w → Calls Tryd.prog 9 #[.agg #[.int .i64 k, .int .i64 l, .int .i64 s], .agg #[.int .u8 c, .int .i64 f]] w fun en w' => en = .returned (.tuple #[.int .i64 N, .int .i64 E2]) ∧ Gr w w') (w : World) (hw : PW w) :
    Calls Tryd.prog 4 #[.agg #[.int .i64 k, .int .i64 l, .int .i64 s], .agg #[.int .i64 n, .string x], .agg #[.int .u8 c, .int .i64 f]] w fun e w' => e = .returned (.bool true) ∧ Gr w w' := by
  unfold maxLen at hx
  have HW := Lib.hid hw
  clear hw
  have b1 : decide ((300 : Int) < (x.size : Int)) = false := by simp; omega
  have bE : (E != 0) = true := by simp [hE]
  clear h3 hE
  go_enter Tryd.func4, Tryd.ntmps4
  go_wp2_with (first | ((go_at_call 5; (with_reducible refine (awake_any _ (HW.out.gr (by repeat (first | (with_reducible exact Gr.refl _) | (with_reducible assumption) | (with_reducible refine Gr.alloc ?_ _) | (with_reducible refine Gr.drew ?_) | (with_reducible refine Gr.drewN ?_ _) | (with_reducible refine Gr.setCell ?_ (by simp <;> omega) _) | (with_reducible refine Gr.trans ?_ (by with_reducible assumption)) | exact Gr.refl _ | assumption | refine Gr.alloc ?_ _ | refine Gr.drew ?_ | refine Gr.drewN ?_ _ | refine Gr.setCell ?_ (by simp <;> omega) _ | refine Gr.trans ?_ (by assumption))))).mono ?_); rintro e wa ⟨rfl, wah⟩; obtain ⟨wac, waf⟩ := wah.cells; have was := wah.size; (try simp at was); have waz : w.heap.size < wa.heap.size := (by omega)); have hz1 : w.heap.size + 1 < wa.heap.size := (by omega); have hz2 : w.heap.size + 2 < wa.heap.size := (by omega)) | ((go_at_call 8; (with_reducible refine (h1 _ (HW.out.gr (by repeat (first | (with_reducible exact Gr.refl _) | (with_reducible assumption) | (with_reducible refine Gr.alloc ?_ _) | (with_reducible refine Gr.drew ?_) | (with_reducible refine Gr.drewN ?_ _) | (with_reducible refine Gr.setCell ?_ (by simp <;> omega) _) | (with_reducible refine Gr.trans ?_ (by with_reducible assumption)) | exact Gr.refl _ | assumption | refine Gr.alloc ?_ _ | refine Gr.drew ?_ | refine Gr.drewN ?_ _ | refine Gr.setCell ?_ (by simp <;> omega) _ | refine Gr.trans ?_ (by assumption)))).tab).mono ?_); rintro e wb ⟨rfl, wbh⟩; obtain ⟨wbc, wbf⟩ := wbh.cells; have wbs := wbh.size; (try simp at wbs); have wbz : w.heap.size < wb.heap.size := (by omega)); have hz3 : w.heap.size + 1 < wb.heap.size := (by omega); have hz4 : w.heap.size + 2 < wb.heap.size := (by omega)) | ((go_at_call 9; (with_reducible refine (h2 _ (HW.out.gr (by repeat (first | (with_reducible exact Gr.refl _) | (with_reducible assumption) | (with_reducible refine Gr.alloc ?_ _) | (with_reducible refine Gr.drew ?_) | (with_reducible refine Gr.drewN ?_ _) | (with_reducible refine Gr.setCell ?_ (by simp <;> omega) _) | (with_reducible refine Gr.trans ?_ (by with_reducible assumption)) | exact Gr.refl _ | assumption | refine Gr.alloc ?_ _ | refine Gr.drew ?_ | refine Gr.drewN ?_ _ | refine Gr.setCell ?_ (by simp <;> omega) _ | refine Gr.trans ?_ (by assumption)))).tab).mono ?_); rintro e wc ⟨rfl, wch⟩; obtain ⟨wcc, wcf⟩ := wch.cells; have wcs := wch.size; (try simp at wcs); have wcz : w.heap.size < wc.heap.size := (by omega))))
  go_ret
  exact ⟨rfl, (by repeat (first | (with_reducible exact Gr.refl _) | (with_reducible assumption) | (with_reducible refine Gr.alloc ?_ _) | (with_reducible refine Gr.drew ?_) | (with_reducible refine Gr.drewN ?_ _) | (with_reducible refine Gr.setCell ?_ (by simp <;> omega) _) | (with_reducible refine Gr.trans ?_ (by with_reducible assumption)) | exact Gr.refl _ | assumption | refine Gr.alloc ?_ _ | refine Gr.drew ?_ | refine Gr.drewN ?_ _ | refine Gr.setCell ?_ (by simp <;> omega) _ | refine Gr.trans ?_ (by assumption)))⟩
set_option maxHeartbeats 4000000 in
set_option maxRecDepth 100000 in
theorem core_yes (k l s n c f : Int) (x : ByteArray) (T : List UInt8) (L : Nat) (hL : T.length = L) (hx : x.size ≤ maxLen) (h3 : ¬ (300 : Int) < x.size) (hT : L ≤ 300) (hn : -1000000000000000000 ≤ n) (hn' : n ≤ 1000000000000000000) (hdn : (dn 0 T : Int) = absI n)
    (h1 : ∀ w, TabW w → Calls Tryd.prog 8 #[.agg #[.int .i64 k, .int .i64 l, .int .i64 s], .agg #[.int .i64 n, .string x], .agg #[.int .u8 c, .int .i64 f]] w (EdR (BL T) 0 w))
    (h2 : ∀ w, TabW w → Calls Tryd.prog 9 #[.agg #[.int .i64 k, .int .i64 l, .int .i64 s], .agg #[.int .u8 c, .int .i64 f]] w fun en w' => en = .returned (.tuple #[.int .i64 (L : Int), .int .i64 0]) ∧ Gr w w')
    (h4 : ∀ w, Calls Tryd.prog 12 #[.agg #[.int .i64 k, .int .i64 l, .int .i64 s], .agg #[.int .i64 n, .string x]] w fun e w' => e = .returned (.int .i64 0) ∧ Gr w w') (w : World) (hw : PW w) :
    Calls Tryd.prog 4 #[.agg #[.int .i64 k, .int .i64 l, .int .i64 s], .agg #[.int .i64 n, .string x], .agg #[.int .u8 c, .int .i64 f]] w fun e w' => e = .returned (.bool true) ∧ Gr w w' := by
  unfold maxLen at hx
  have HW := Lib.hid hw
  have hAm : ∀ w, Calls Tryd.prog 11 #[.int .i64 n] w fun e w' => e = .returned (.int .i64 (dn 0 T : Nat)) ∧ w = w' := fun w => by
    rw [hdn]; exact Amount_any n hn hn' w
  have hab : absI n ≤ 1000000000000000000 := by unfold absI; split <;> omega
  have hle := fun q => dn_take T q
  have hsz : (BL T).size = L := by rw [BL_size]; exact hL
  have HAT := Lib.hid fun q (h : q < (BL T).size) => show (((BL T)[q]'h).toNat : Int) = ((dAt T q).toNat : Int) by rw [BL_at]
  have HLE := Lib.hid hle
  have HDN := Lib.hid hdn
  have HAB := Lib.hid hab
  have HLL := Lib.hid hL
  have b1 : decide ((300 : Int) < (x.size : Int)) = false := by simp; omega
  clear h3 hw hle hdn hab hn hn' hL
  generalize BL T = X at *
  go_enter Tryd.func4, Tryd.ntmps4
  go_upto_region 11 with (first | ((go_at_call 5; (with_reducible refine (awake_any _ (HW.out.gr (by repeat (first | (with_reducible exact Gr.refl _) | (with_reducible assumption) | (with_reducible refine Gr.alloc ?_ _) | (with_reducible refine Gr.drew ?_) | (with_reducible refine Gr.drewN ?_ _) | (with_reducible refine Gr.setCell ?_ (by simp <;> omega) _) | (with_reducible refine Gr.trans ?_ (by with_reducible assumption)) | exact Gr.refl _ | assumption | refine Gr.alloc ?_ _ | refine Gr.drew ?_ | refine Gr.drewN ?_ _ | refine Gr.setCell ?_ (by simp <;> omega) _ | refine Gr.trans ?_ (by assumption))))).mono ?_); rintro e wa ⟨rfl, wah⟩; obtain ⟨wac, waf⟩ := wah.cells; have was := wah.size; (try simp at was); have waz : w.heap.size < wa.heap.size := (by omega)); have hz1 : w.heap.size + 1 < wa.heap.size := (by omega); have hz2 : w.heap.size + 2 < wa.heap.size := (by omega)) | ((go_at_call 8; (with_reducible refine (h1 _ (HW.out.gr (by repeat (first | (with_reducible exact Gr.refl _) | (with_reducible assumption) | (with_reducible refine Gr.alloc ?_ _) | (with_reducible refine Gr.drew ?_) | (with_reducible refine Gr.drewN ?_ _) | (with_reducible refine Gr.setCell ?_ (by simp <;> omega) _) | (with_reducible refine Gr.trans ?_ (by with_reducible assumption)) | exact Gr.refl _ | assumption | refine Gr.alloc ?_ _ | refine Gr.drew ?_ | refine Gr.drewN ?_ _ | refine Gr.setCell ?_ (by simp <;> omega) _ | refine Gr.trans ?_ (by assumption)))).tab).mono ?_); rintro e wb ⟨rfl, wbh⟩; obtain ⟨wbc, wbf⟩ := wbh.cells; have wbs := wbh.size; (try simp at wbs); have wbz : w.heap.size < wb.heap.size := (by omega)); have hz3 : w.heap.size + 1 < wb.heap.size := (by omega); have hz4 : w.heap.size + 2 < wb.heap.size := (by omega)) | ((go_at_call 9; (with_reducible refine (h2 _ (HW.out.gr (by repeat (first | (with_reducible exact Gr.refl _) | (with_reducible assumption) | (with_reducible refine Gr.alloc ?_ _) | (with_reducible refine Gr.drew ?_) | (with_reducible refine Gr.drewN ?_ _) | (with_reducible refine Gr.setCell ?_ (by simp <;> omega) _) | (with_reducible refine Gr.trans ?_ (by with_reducible assumption)) | exact Gr.refl _ | assumption | refine Gr.alloc ?_ _ | refine Gr.drew ?_ | refine Gr.drewN ?_ _ | refine Gr.setCell ?_ (by simp <;> omega) _ | refine Gr.trans ?_ (by assumption)))).tab).mono ?_); rintro e wc ⟨rfl, wch⟩; obtain ⟨wcc, wcf⟩ := wch.cells; have wcs := wch.size; (try simp at wcs); have wcz : w.heap.size < wc.heap.size := (by omega)); have hz5 : w.heap.size + 1 < wc.heap.size := (by omega); have hz6 : w.heap.size + 2 < wc.heap.size := (by omega)))
  have k0 : wc.cell? ⟨w.heap.size, 0, none⟩ = some (.int .i64 k) := by simp [go_sem, *]
  have k1 : wc.cell? ⟨w.heap.size, 1, none⟩ = some (.int .i64 l) := by simp [go_sem, *]
  have k2 : wc.cell? ⟨w.heap.size, 2, none⟩ = some (.int .i64 s) := by simp [go_sem, *]
  have k3 : wc.cell? ⟨w.heap.size + 1, 0, none⟩ = some (.int .i64 n) := by simp [go_sem, *]
  have k4 : wc.cell? ⟨w.heap.size + 1, 1, none⟩ = some (.string x) := by simp [go_sem, *]
  have GW : Gr w wc := (by repeat (first | (with_reducible exact Gr.refl _) | (with_reducible assumption) | (with_reducible refine Gr.alloc ?_ _) | (with_reducible refine Gr.drew ?_) | (with_reducible refine Gr.drewN ?_ _) | (with_reducible refine Gr.setCell ?_ (by simp <;> omega) _) | (with_reducible refine Gr.trans ?_ (by with_reducible assumption)) | exact Gr.refl _ | assumption | refine Gr.alloc ?_ _ | refine Gr.drew ?_ | refine Gr.drewN ?_ _ | refine Gr.setCell ?_ (by simp <;> omega) _ | refine Gr.trans ?_ (by assumption)))
  clear wac waf wah was waz wbc wbf wbh wbs wbz wcc wcf wch wcs wcz hz1 hz2 hz3 hz4 hz5 hz6 h1 h2
  go_wp2
  go_loop [11, 12] (fun v i => ∃ q : Nat, q ≤ L ∧ i = .int .i64 q ∧ v = .int .i64 (dn 0 (T.take q) : Nat)) (fun _ i => L - (intOf i).toNat)
  case atStart => exact ⟨0, by omega, rfl, rfl⟩
  case round =>
    obtain ⟨q, hq, rfl, rfl⟩ := hrel
    have hb0 : ((dn 0 (T.take q) : Nat) : Int) ≤ 1000000000000000000 := by have h1 := HLE.out q; have h2 := HDN.out; have h3 := HAB.out; omega
    by_cases hlt : q < L
    · have hqX : q < X.size := by omega
      have hbT := HAT.out q hqX
      have hst := dn_step T q (by rw [HLL.out]; exact hlt)
      have hb1 : ((dn 0 (T.take (q + 1)) : Nat) : Int) ≤ 1000000000000000000 := by have h1 := HLE.out (q + 1); have h2 := HDN.out; have h3 := HAB.out; omega
      obtain ⟨t, ht⟩ : ∃ t, dAt T q = t := ⟨_, rfl⟩
      obtain ⟨d, hd⟩ : ∃ d, isDg t = d := ⟨_, rfl⟩
      have hdl := dig_law t d hd
      have hdr : isDg t = true → 48 ≤ t.toNat ∧ t.toNat ≤ 57 := by unfold isDg; simp
      rw [ht, hd] at hst
      rw [ht] at hbT
      rw [hd] at hdr
      obtain ⟨v, hv⟩ : ∃ v, dn 0 (T.take q) = v := ⟨_, rfl⟩
      rw [hv] at hst hb0 ⊢
      rw [hst] at hb1
      have HS := Lib.hid hst
      clear hst ht hd hv
      cases d
      · clear hdr hb1
        generalize (t.toNat : Int) = y at *
        go_wp2_with ((go_at_call 10; (with_reducible refine (hdl _).mono ?_); rintro e w1 ⟨rfl, rfl⟩))
        go_round
        case rel => exact ⟨q + 1, by omega, by go_num, by rw [HS.out]; rfl⟩
        case measure => simp [intOf]; omega
      · obtain ⟨d1, d2⟩ := hdr rfl
        have HS2 := Lib.hid (show ((dn 0 (T.take (q + 1)) : Nat) : Int) = 10 * (v : Int) + ((t.toNat : Int) - 48) by rw [HS.out]; simp only [if_true]; omega)
        rw [if_pos rfl] at hb1
        have hbb : 10 * (v : Int) + ((t.toNat : Int) - 48) ≤ 1000000000000000000 := by omega
        have hy1 : (48 : Int) ≤ (t.toNat : Int) := by omega
        have hy2 : (t.toNat : Int) ≤ 57 := by omega
        clear d1 d2 hb1 hdr
        generalize (t.toNat : Int) = y at *
        have hw8 : IntKind.u8.wrap (y - 48) = y - 48 := IntWalk.u8_in _ (by omega)
        have hw9 : IntKind.i64.wrap (y - 48) = y - 48 := IntWalk.i64_in _ (by omega)
        have hw10 : IntKind.i64.wrap (10 * (v : Int)) = 10 * (v : Int) := IntWalk.i64_in _ (by omega)
        have hw11 : IntKind.i64.wrap (10 * (v : Int) + (y - 48)) = 10 * (v : Int) + (y - 48) := IntWalk.i64_in _ (by omega)
        go_wp2_with ((go_at_call 10; (with_reducible refine (hdl _).mono ?_); rintro e w1 ⟨rfl, rfl⟩))
        go_round
        case rel => exact ⟨q + 1, by omega, by go_num, by rw [HS2.out]⟩
        case measure => simp [intOf]; omega
    · obtain rfl : q = L := by omega
      have ht : T.take q = T := List.take_of_length_le (by rw [HLL.out]; exact Nat.le_refl _)
      rw [ht] at hb0 ⊢
      clear ht
      go_wp2_with (first | (go_at_call 11; (with_reducible refine (hAm _).mono ?_); rintro e w1 ⟨rfl, rfl⟩) | go_at_call 12; (with_reducible refine (h4 _).mono ?_); rintro e wd ⟨rfl, hbd⟩)
      go_ret
      exact ⟨rfl, (by repeat (first | (with_reducible exact Gr.refl _) | (with_reducible assumption) | (with_reducible refine Gr.alloc ?_ _) | (with_reducible refine Gr.drew ?_) | (with_reducible refine Gr.drewN ?_ _) | (with_reducible refine Gr.setCell ?_ (by simp <;> omega) _) | (with_reducible refine Gr.trans ?_ (by with_reducible assumption)) | exact Gr.refl _ | assumption | refine Gr.alloc ?_ _ | refine Gr.drew ?_ | refine Gr.drewN ?_ _ | refine Gr.setCell ?_ (by simp <;> omega) _ | refine Gr.trans ?_ (by assumption)))⟩

theorem edL_le (D : List UInt8) (W : Nat) (c : UInt8) (n z : Bool) (f : Int) (h : D.length ≤ 15) (h89 : c = 89 → D.length = 4 ∨ D.length = 6 ∨ D.length = 8) : (edL D W c n z f).length ≤ 100 := by
  have hb := body_len D W c n z
  have hs := spT_le D (cmB c) W D.length
  have hh := bh_len c
  have hsup := sup_len D (fz D) (fz_le D)
  unfold edL
  split
  · omega
  split
  · have h4 := h89 (by assumption)
    have hT : (dtT D).length ≤ 60 := by
      unfold dtT
      rw [List.length_append, List.length_append, List.length_append, List.length_take, List.length_take, List.length_drop]
      split
      · simp [List.length_drop]; omega
      · simp; omega
    unfold dtL
    split
    · rw [List.length_cons, List.length_drop]; omega
    · omega
  split
  · omega
  unfold frL
  split
  · split
    · rw [fl_len]; omega
    · rw [List.length_cons]; omega
  · split
    · rw [fl_len]; omega
    · split
      · rw [st_len]; omega
      · omega
theorem law (k l s n : Int) (x : ByteArray) (c8 : UInt8) (f : Int) (w : World) (hx : x.size ≤ maxLen) (hw : PW w) :
    Calls Tryd.prog 4 #[.agg #[.int .i64 k, .int .i64 l, .int .i64 s], .agg #[.int .i64 n, .string x], .agg #[.int .u8 (c8.toNat : Int), .int .i64 f]] w fun e w' => e = .returned (.bool true) ∧ Gr w w' := by
  by_cases h3 : (300 : Int) < x.size
  · exact large k l s n c8.toNat f x hx h3 w hw
  have h1 := fun w h => Edited_any k l s n f x c8 c8.toNat rfl w h
  have h2 := fun w h => WidthOf_any k l s f c8 c8.toNat rfl w h
  by_cases hE : edE k l s n x c8 f = 0
  · have hck : ckC k l s c8 f = 0 := by
      unfold edE at hE
      by_cases g : ckC k l s c8 f ≠ 0
      · rw [if_pos g] at hE; exact absurd hE g
      · omega
    have hve : valErr k l s n x = 0 := by
      unfold edE at hE
      rwa [if_neg (by omega)] at hE
    obtain ⟨t1, t2, hcd, f0, f1, hf, h89⟩ := ck_right hck
    obtain ⟨l0, l1, s0, s1, hk⟩ := num_right t1 t2
    obtain ⟨hxs, hfit⟩ := val_fits hve t1 hk
    obtain ⟨d1, d2⟩ := fits_len hfit l0 l1
    have hD := dsL_len l.toNat n.natAbs d1
    have hZ := dsL_len l.toNat 0 (by rw [dcS_zero]; omega)
    have h89' : c8 = 89 → (dsL l.toNat n.natAbs).length = 4 ∨ (dsL l.toNat n.natAbs).length = 6 ∨ (dsL l.toNat n.natAbs).length = 8 := by
      intro e
      have := (h89 e).1
      omega
    have hT : edT k l s n x c8 f = BL (edX l s n c8 f) := by
      unfold edT; rw [if_neg (by omega), if_neg (by omega)]
    have hwd : wdW k l s c8 f = ((edX l s n c8 f).length : Int) := by
      unfold wdW
      rw [if_neg (by omega), BL_size]
      congr 1
      unfold edX
      exact edL_len _ _ _ _ _ _ _ _ _ (by rw [hD]; exact hZ) (by intro e; have := (h89 e).1; have hZ2 : (dsL l.toNat (0 : Int).natAbs).length = l.toNat := hZ; omega)
    have hdn : ((dn 0 (edX l s n c8 f) : Nat) : Int) = absI n := by
      unfold edX
      rw [dn_edL _ _ _ _ _ (by intro h; rw [dn_ds]; simp at h; subst h; rfl) h89', dn_ds]
      unfold absI; split <;> omega
    rw [hT, hE] at h1
    rw [hwd, hck] at h2
    have h4 := CheckValue_any k l s n x
    rw [hve] at h4
    refine core_yes k l s n c8.toNat f x (edX l s n c8 f) _ rfl hx h3 ?_ (by omega) (by omega) hdn h1 h2 h4 w hw
    have := edL_le (dsL l.toNat n.natAbs) (l - s).toNat c8 (decide (n < 0)) (decide (n = 0)) f (by omega) h89'
    unfold edX
    omega
  · exact core_no k l s n c8.toNat f _ _ _ x _ hx h3 hE h1 h2 w hw

set_option maxRecDepth 100000 in
theorem lifted (os : Os) (started : os.Started) (H : Type) (enc : TypeId × Value → H) :
    ReturnsInHanded {} Tryd.checked os 4 .any (fun w args => (Rows.editAlikeSpec.pre enc Tryd.prog Tryd.f4 [] false w args ∧ laidMetH Tryd.prog laidL w) ∧ sizedMet enc Tryd.prog Tryd.f4 (OpenSpec.ofChange Rows.editAlikeSpec) false w args) (Rows.editAlikeSpec.post enc Tryd.prog Tryd.f4 false true false false) := by
  refine wrap_shaped (C := Tryd.checked) (X := fun w _ => laidMetH Tryd.prog laidL w) (fun _ _ _ hh h => h.of_heap hh) own_knob started (by kernel_rfl) Tryd.func4
    (ChangeSpec.witness_shaped (enc := enc) (C := Tryd.checked) (os := os) (X := fun w _ => laidMetH Tryd.prog laidL w) false (World.laidAll Tryd.prog os laidL) #[.agg #[.int .i64 0, .int .i64 0, .int .i64 0], .agg #[.int .i64 0, .string ⟨#[]⟩], .agg #[.int .u8 0, .int .i64 0]] 8 (World.laidAll_os _ _ _) (shaped_laidAll os _) (by kernel_rfl) (by kernel_rfl) (by kernel_rfl) (met_laidAll os _)) ?_
  intro W base args ds gs before hval0 hW hL hsh
  have hval : ∀ (j : Nat) t v, Tryd.f4.params[j]? = some t → args[j]? = some v → Value.okWide Tryd.prog W .any base t v := hval0
  have hW' := hW
  obtain ⟨p, q, hA0, hV, rfl, hfz, hnd⟩ := hW
  have hA : DataW.TrodAll enc Tryd.prog W 0 (fun _ => true) true Tryd.f4.params.toList args.toList ds p := hA0
  rw [Tryd.params4] at hA hval
  obtain ⟨v0, vs0, d0, ds0, p0, q0, hargs, rfl, rfl, h0, r0⟩ := trodAll_cons hA
  obtain ⟨v1, vs1, d1, ds1, p1, q1, hargs1, rfl, rfl, h1, r1⟩ := trodAll_cons r0
  obtain ⟨v2, vs2, d2, ds2, p2, q2, hargs2, rfl, rfl, h2, r2⟩ := trodAll_cons r1
  obtain ⟨hvz, rfl, rfl⟩ := trodAll_nil r2
  rw [hvz] at hargs2
  rw [hargs2] at hargs1
  rw [hargs1] at hargs
  obtain rfl : args = #[v0, v1, v2] := by cases args; simp_all
  obtain ⟨rfl, rfl⟩ := trodVars_none hV
  obtain ⟨kk, ll, ss, rfl⟩ := open_dtc (hval 0 32 v0 rfl rfl) h0
  obtain ⟨nn, xx, rfl, wx⟩ := open_vlc (hval 1 34 v1 rfl rfl) h1
  obtain ⟨cc, ff, rfl⟩ := open_ecc (hval 2 36 v2 rfl rfl) h2
  refine (law kk ll ss nn xx cc ff W wx (pw_of hL hsh)).mono fun e W' ⟨he, hg⟩ => ?_
  subst he
  have hB : Below W.heap.size W W' := hg
  have hlt := fun x hx => hW'.lt x hx
  have hst := fun (sp' : Nat → Bool) => trodAll_stay laidOut (sp' := sp') (by kernel_rfl) hA0 (fun x hx => hB.same (hlt x (List.mem_append_left _ hx)))
  refine ⟨_, rfl, _, _, _, [], _, [], hW', (trodAll_cons_mk (shut_bool Tryd.underlying4 _) trodAll_mk0), hst _ (fun x hx => by simpa using hlt x (List.mem_append_left _ hx)), rfl, ?_, fun h => by cases h⟩
  exact World.keptBut_mono (fun x hx => ⟨hx, Or.inr (by simpa using hx)⟩) (hB.frame (· ∈ _))

theorem proved : Rows.EditAlikeSaid :=
  OpenClaim.holds_of_wide 4 Tryd.f4 rfl rfl rfl rfl rfl rfl rfl ⟨rfl, rfl, rfl, rfl, rfl⟩ rfl rfl rfl rfl rfl (by kernel_rfl) Tryd.func4 (by kernel_rfl)
    (of_decide_eq_true (by kernel_rfl)) (by unfold Func.isWrapper; first | (rw [if_pos (by decide +kernel)]; kernel_rfl) | (rw [if_neg (by decide +kernel)]; exact ⟨rfl, rfl⟩))
    (fun os started H enc _ => lifted os started H enc)
#print axioms proved

theorem card : Rows.EditAlikeCardSaid :=
  Claim7.holds_tied_plain_at .later [] [.data, .data, .data, .data, .pinned] true Rows.editAlikeCard.stood.harness false
    proved (fun _ h => by cases h) (by kernel_rfl) (fun _ h => by cases h) editAlike_row_tie rfl ⟨rfl, rfl⟩ (by kernel_rfl) rfl
    (fun f fn hf hfn => by
      obtain rfl : f = 4 := Option.some.inj ((show Tryd.prog.funcNamed "midrange/midrangelaw02.EditAlike" = some 4 by kernel_rfl).symm.trans hf) |>.symm
      obtain rfl : fn = Tryd.f4 := (Option.some.inj (Tryd.func4.symm.trans hfn)).symm
      exact ⟨by kernel_rfl, fun j t ht => by
        rw [Tryd.params4] at ht
        have hm : t ∈ [32, 34, 36] := by simpa using Array.mem_of_getElem? ht
        have hall : ([32, 34, 36].all fun u => !Tryd.prog.wantsStandIn u) = true := by kernel_rfl
        exact (show Tryd.prog.wantsStandIn t = false by simpa using List.all_eq_true.1 hall t hm)⟩)
    (by kernel_rfl)
end Go.Proofs.YtmdpejllbalnnaaDoor.lawEditAlike
