/- Texts of the walks, merged. -/
import Derived.Test.YtmdpejllbalnnaaGreatDoorQ18
import Derived.Test.YtmdpejllbalnnaaGreatDoorQ21
import Derived.BigQuiet
namespace Go.Proofs.YtmdpejllbalnnaaGreatDoor
set_option linter.unusedSimpArgs false
set_option linter.unusedVariables false
open Go.RowKit

/-- The two boxes. -/
def RdW (w : World) (k l s c f : Int) (wr : World) : Prop :=
  (wr.cell? ⟨w.heap.size, 0, none⟩ = some (.int .i64 k) ∧ wr.cell? ⟨w.heap.size, 1, none⟩ = some (.int .i64 l) ∧ wr.cell? ⟨w.heap.size, 2, none⟩ = some (.int .i64 s)) ∧
  (wr.cell? ⟨w.heap.size + 1, 0, none⟩ = some (.int .u8 c) ∧ wr.cell? ⟨w.heap.size + 1, 1, none⟩ = some (.int .i64 f)) ∧ Gr w wr
theorem RdW.gr {w : World} {k l s c f : Int} {a b : World} (h : RdW w k l s c f a) (G : Gr a b) : RdW w k l s c f b := by
  obtain ⟨⟨c0, c1, c2⟩, ⟨c3, c4⟩, g⟩ := h
  exact ⟨⟨G.keep c0, G.keep c1, G.keep c2⟩, ⟨G.keep c3, G.keep c4⟩, g.trans G⟩
section
variable (k l s c f E : Int) (bl nf : Bool)
  (hErr : ∀ w, Calls Tryz.prog 13 #[.agg #[.int .i64 k, .int .i64 l, .int .i64 s], .agg #[.int .u8 c, .int .i64 f]] w fun e w' => e = .returned (.int .i64 E) ∧ Gr w w')
include hErr
set_option maxHeartbeats 1000000 in
theorem refWord_a (hE : E ≠ 0) (w : World) : Calls Tryz.prog 24 #[.agg #[.int .i64 k, .int .i64 l, .int .i64 s], .agg #[.int .u8 c, .int .i64 f]] w (EdR ⟨#[]⟩ E w) := by
  have b1 : (E != 0) = true := by simp [hE]
  clear hE
  unfold EdR
  go_enter Tryz.func24, Tryz.ntmps24
  go_wp2_with ((go_at_call 13; (with_reducible refine (hErr _).mono ?_); rintro e w1 ⟨rfl, w1h⟩; obtain ⟨w1c, w1f⟩ := w1h.cells; have w1s := w1h.size; (try simp at w1s); have w1z : w.heap.size < w1.heap.size := (by omega)); have hz1 : w.heap.size + 1 < w1.heap.size := (by omega))
  exact bodyPost_ret (v := .tuple #[.string ⟨#[]⟩, .int .i64 E]) (by simp [results, Tryz.results24, go_sem, *]) rfl ⟨rfl, (by repeat (first | (with_reducible exact Gr.refl _) | (with_reducible assumption) | (with_reducible refine Gr.alloc ?_ _) | (with_reducible refine Gr.drew ?_) | (with_reducible refine Gr.drewN ?_ _) | (with_reducible refine Gr.setCell ?_ (by simp <;> omega) _) | (with_reducible refine Gr.trans ?_ (by with_reducible assumption)) | exact Gr.refl _ | assumption | refine Gr.alloc ?_ _ | refine Gr.drew ?_ | refine Gr.drewN ?_ _ | refine Gr.setCell ?_ (by simp <;> omega) _ | refine Gr.trans ?_ (by assumption)))⟩
variable (hBl : ∀ w, Calls Tryz.prog 31 #[.int .u8 c, .string ⟨#[50, 52, 66, 68, 75, 77]⟩] w fun e w' => e = .returned (.bool bl) ∧ w = w')
  (hNf : ∀ w, Calls Tryz.prog 31 #[.int .u8 c, .string ⟨#[78, 79, 80, 81, 88, 89, 90]⟩] w fun e w' => e = .returned (.bool nf) ∧ w = w')
include hBl hNf
set_option maxHeartbeats 4000000 in
set_option maxRecDepth 100000 in
theorem refWord_b (hE : E = 0) (b2 be b1 bp bf : Bool) (g2 : (f == 2) = b2) (ge : (s == l) = be) (g1 : (l == 1) = b1) (gp : decide (0 < s) = bp) (gf : (f == 1) = bf)
    (hcond : (b2 || (nf || ((!bl && (be || b1)) || (bl && (bp || bf))))) = true) (w : World) : Calls Tryz.prog 24 #[.agg #[.int .i64 k, .int .i64 l, .int .i64 s], .agg #[.int .u8 c, .int .i64 f]] w (EdR ⟨#[]⟩ 39 w) := by
  subst hE
  unfold EdR
  have hsel : (b2 = true) ∨ (b2 = false ∧ nf = true) ∨ (b2 = false ∧ nf = false ∧ bl = false ∧ be = true) ∨ (b2 = false ∧ nf = false ∧ bl = false ∧ be = false ∧ b1 = true) ∨ (b2 = false ∧ nf = false ∧ bl = true ∧ bp = true) ∨ (b2 = false ∧ nf = false ∧ bl = true ∧ bp = false ∧ bf = true) := by
    cases b2 <;> cases nf <;> cases bl <;> cases be <;> cases b1 <;> cases bp <;> cases bf <;> simp at hcond ⊢
  clear hcond
  rcases hsel with rfl | ⟨rfl, rfl⟩ | ⟨rfl, rfl, rfl, rfl⟩ | ⟨rfl, rfl, rfl, rfl, rfl⟩ | ⟨rfl, rfl, rfl, rfl⟩ | ⟨rfl, rfl, rfl, rfl, rfl⟩
  · cases bl
    all_goals
      go_enter Tryz.func24, Tryz.ntmps24
      go_wp2_with (first | ((go_at_call 13; (with_reducible refine (hErr _).mono ?_); rintro e w1 ⟨rfl, w1h⟩; obtain ⟨w1c, w1f⟩ := w1h.cells; have w1s := w1h.size; (try simp at w1s); have w1z : w.heap.size < w1.heap.size := (by omega)); have hz1 : w.heap.size + 1 < w1.heap.size := (by omega)) | (go_at_call 31; (with_reducible refine (hBl _).mono ?_); rintro e w1 ⟨rfl, rfl⟩) | (go_at_call 31; (with_reducible refine (hNf _).mono ?_); rintro e w1 ⟨rfl, rfl⟩))
      exact bodyPost_ret (v := .tuple #[.string ⟨#[]⟩, .int .i64 39]) (by simp [results, Tryz.results24, go_sem, *]) rfl ⟨rfl, (by repeat (first | (with_reducible exact Gr.refl _) | (with_reducible assumption) | (with_reducible refine Gr.alloc ?_ _) | (with_reducible refine Gr.drew ?_) | (with_reducible refine Gr.drewN ?_ _) | (with_reducible refine Gr.setCell ?_ (by simp <;> omega) _) | (with_reducible refine Gr.trans ?_ (by with_reducible assumption)) | exact Gr.refl _ | assumption | refine Gr.alloc ?_ _ | refine Gr.drew ?_ | refine Gr.drewN ?_ _ | refine Gr.setCell ?_ (by simp <;> omega) _ | refine Gr.trans ?_ (by assumption)))⟩
  · cases bl
    all_goals
      go_enter Tryz.func24, Tryz.ntmps24
      go_wp2_with (first | ((go_at_call 13; (with_reducible refine (hErr _).mono ?_); rintro e w1 ⟨rfl, w1h⟩; obtain ⟨w1c, w1f⟩ := w1h.cells; have w1s := w1h.size; (try simp at w1s); have w1z : w.heap.size < w1.heap.size := (by omega)); have hz1 : w.heap.size + 1 < w1.heap.size := (by omega)) | (go_at_call 31; (with_reducible refine (hBl _).mono ?_); rintro e w1 ⟨rfl, rfl⟩) | (go_at_call 31; (with_reducible refine (hNf _).mono ?_); rintro e w1 ⟨rfl, rfl⟩))
      exact bodyPost_ret (v := .tuple #[.string ⟨#[]⟩, .int .i64 39]) (by simp [results, Tryz.results24, go_sem, *]) rfl ⟨rfl, (by repeat (first | (with_reducible exact Gr.refl _) | (with_reducible assumption) | (with_reducible refine Gr.alloc ?_ _) | (with_reducible refine Gr.drew ?_) | (with_reducible refine Gr.drewN ?_ _) | (with_reducible refine Gr.setCell ?_ (by simp <;> omega) _) | (with_reducible refine Gr.trans ?_ (by with_reducible assumption)) | exact Gr.refl _ | assumption | refine Gr.alloc ?_ _ | refine Gr.drew ?_ | refine Gr.drewN ?_ _ | refine Gr.setCell ?_ (by simp <;> omega) _ | refine Gr.trans ?_ (by assumption)))⟩
  all_goals
    go_enter Tryz.func24, Tryz.ntmps24
    go_wp2_with (first | ((go_at_call 13; (with_reducible refine (hErr _).mono ?_); rintro e w1 ⟨rfl, w1h⟩; obtain ⟨w1c, w1f⟩ := w1h.cells; have w1s := w1h.size; (try simp at w1s); have w1z : w.heap.size < w1.heap.size := (by omega)); have hz1 : w.heap.size + 1 < w1.heap.size := (by omega)) | (go_at_call 31; (with_reducible refine (hBl _).mono ?_); rintro e w1 ⟨rfl, rfl⟩) | (go_at_call 31; (with_reducible refine (hNf _).mono ?_); rintro e w1 ⟨rfl, rfl⟩))
    exact bodyPost_ret (v := .tuple #[.string ⟨#[]⟩, .int .i64 39]) (by simp [results, Tryz.results24, go_sem, *]) rfl ⟨rfl, (by repeat (first | (with_reducible exact Gr.refl _) | (with_reducible assumption) | (with_reducible refine Gr.alloc ?_ _) | (with_reducible refine Gr.drew ?_) | (with_reducible refine Gr.drewN ?_ _) | (with_reducible refine Gr.setCell ?_ (by simp <;> omega) _) | (with_reducible refine Gr.trans ?_ (by with_reducible assumption)) | exact Gr.refl _ | assumption | refine Gr.alloc ?_ _ | refine Gr.drew ?_ | refine Gr.drewN ?_ _ | refine Gr.setCell ?_ (by simp <;> omega) _ | refine Gr.trans ?_ (by assumption)))⟩
variable (cmm bcr bmi : Bool) (h12 : ∀ w, Calls Tryz.prog 31 #[.int .u8 c, .string ⟨#[49, 50, 65, 66, 74, 75]⟩] w fun e w' => e = .returned (.bool cmm) ∧ w = w')
  (hCr : ∀ w, Calls Tryz.prog 31 #[.int .u8 c, .string ⟨#[65, 66, 67, 68]⟩] w fun e w' => e = .returned (.bool bcr) ∧ w = w')
  (hMi : ∀ w, Calls Tryz.prog 31 #[.int .u8 c, .string ⟨#[74, 75, 76, 77]⟩] w fun e w' => e = .returned (.bool bmi) ∧ w = w')
include h12 hCr hMi
set_option maxHeartbeats 8000000 in
set_option maxRecDepth 100000 in
theorem refWord_c (hE : E = 0) (hnf : nf = false) (be b1 bp bf : Bool) (g2 : (f == 2) = false) (ge : (s == l) = be) (g1 : (l == 1) = b1) (gp : decide (0 < s) = bp) (gf : (f == 1) = bf)
    (hcond : bl = false ∧ be = false ∧ b1 = false ∨ bl = true ∧ bp = false ∧ bf = false) (W S : Nat) (hW : l - s = W) (hS : s = S) (hl : 1 ≤ l) (hl' : l ≤ 15) (D : List UInt8) (sp : Int) (hsp : sp = if bl then -1 else spI l s)
    (hD : ∀ q : Nat, q < W → dAt D q = if ((q : Int) == sp) then (if (f == 1) then 42 else 48) else 32) (hcm : bcr = true → bmi = false) (R : List UInt8)
    (hR : R = spT D cmm W W ++ (if 0 < s then [46] ++ List.replicate S 32 else []) ++ (if bcr then [67, 82] else if bmi then [45] else [])) (w : World) :
    Calls Tryz.prog 24 #[.agg #[.int .i64 k, .int .i64 l, .int .i64 s], .agg #[.int .u8 c, .int .i64 f]] w (EdR (BL R) 0 w) := by
  subst hE hnf
  unfold EdR
  have HD := Lib.hid hD
  have HR := Lib.hid hR
  have HSP := Lib.hid hsp
  have HCM := Lib.hid hcm
  have hRp := bRep_any 32 32 rfl S s hS (by omega)
  have hwp : IntKind.i64.wrap (l - s) = (W : Int) := by rw [IntWalk.i64_in _ (by omega)]; exact hW
  obtain ⟨b0, g0⟩ : ∃ b, (s == 0) = b := ⟨_, rfl⟩
  have hCo : ∀ w, Calls Tryz.prog 53 #[.bool b0] w fun e w' => e = .returned (.int .i64 (countI b0)) ∧ w = w' := fun w => (Count_any b0 w).mono fun e w' h => ⟨h.1, h.2.1⟩
  have hcb := countI_bd b0
  have hspv : bl = false → (W : Int) - 1 - countI b0 = sp := fun h => by
    rw [hsp, h, if_neg (by simp), ← hW]
    unfold spI countI
    by_cases h0 : s = 0
    · have : b0 = true := by rw [← g0]; simp [h0]
      rw [this, if_pos h0, if_pos rfl]; omega
    · have : b0 = false := by rw [← g0]; simp [h0]
      rw [this, if_neg h0, if_neg (by simp)]; omega
  have HSV := Lib.hid hspv
  have HWS := Lib.hid (And.intro hW hS)
  clear hD hR hsp hcm hW hspv hS
  rcases hcond with ⟨rfl, rfl, rfl⟩ | ⟨rfl, rfl, rfl⟩
  all_goals
    go_enter Tryz.func24, Tryz.ntmps24
    go_upto_region 7 with (first | ((go_at_call 13; (with_reducible refine (hErr _).mono ?_); rintro e w1 ⟨rfl, w1h⟩; obtain ⟨w1c, w1f⟩ := w1h.cells; have w1s := w1h.size; (try simp at w1s); have w1z : w.heap.size < w1.heap.size := (by omega)); have hz1 : w.heap.size + 1 < w1.heap.size := (by omega)) | (go_at_call 31; (with_reducible refine (hBl _).mono ?_); rintro e w1 ⟨rfl, rfl⟩) | (go_at_call 31; (with_reducible refine (hNf _).mono ?_); rintro e w1 ⟨rfl, rfl⟩))
    have c0 : w1.cell? ⟨w.heap.size, 0, none⟩ = some (.int .i64 k) := w1h.keep (by simp [go_sem])
    have c1 : w1.cell? ⟨w.heap.size, 1, none⟩ = some (.int .i64 l) := w1h.keep (by simp [go_sem])
    have c2 : w1.cell? ⟨w.heap.size, 2, none⟩ = some (.int .i64 s) := w1h.keep (by simp [go_sem])
    have c3 : w1.cell? ⟨w.heap.size + 1, 0, none⟩ = some (.int .u8 c) := w1h.keep (by simp [go_sem])
    have c4 : w1.cell? ⟨w.heap.size + 1, 1, none⟩ = some (.int .i64 f) := w1h.keep (by simp [go_sem])
    have GW : Gr w w1 := (by repeat (first | (with_reducible exact Gr.refl _) | (with_reducible assumption) | (with_reducible refine Gr.alloc ?_ _) | (with_reducible refine Gr.drew ?_) | (with_reducible refine Gr.drewN ?_ _) | (with_reducible refine Gr.setCell ?_ (by simp <;> omega) _) | (with_reducible refine Gr.trans ?_ (by with_reducible assumption)) | exact Gr.refl _ | assumption | refine Gr.alloc ?_ _ | refine Gr.drew ?_ | refine Gr.drewN ?_ _ | refine Gr.setCell ?_ (by simp <;> omega) _ | refine Gr.trans ?_ (by assumption)))
    clear w1h w1c w1f w1s w1z hz1 hErr hBl hNf
    have RD := Lib.hid (show RdW w k l s c f w1 from ⟨⟨c0, c1, c2⟩, ⟨c3, c4⟩, GW⟩)
    go_cut [8, 9] (fun o p wx => o = .int .i64 (-1) ∧ p = .int .i64 W ∧ Hid (RdW w k l s c f wx))
    case first =>
      clear ge g1 gp gf g2
      go_quiet (fail)
      go_wp2
      go_meet
      refine ⟨rfl, ?_, Lib.hid (RD.out.gr (by repeat (first | (with_reducible exact Gr.refl _) | (with_reducible assumption) | (with_reducible refine Gr.alloc ?_ _) | (with_reducible refine Gr.drew ?_) | (with_reducible refine Gr.drewN ?_ _) | (with_reducible refine Gr.setCell ?_ (by simp <;> omega) _) | (with_reducible refine Gr.trans ?_ (by with_reducible assumption)) | exact Gr.refl _ | assumption | refine Gr.alloc ?_ _ | refine Gr.drew ?_ | refine Gr.drewN ?_ _ | refine Gr.setCell ?_ (by simp <;> omega) _ | refine Gr.trans ?_ (by assumption))))⟩
      first | rfl | rw [hwp]
    case rest =>
      obtain ⟨rfl, rfl, HRd⟩ := hcut
      clear RD c0 c1 c2 c3 c4 GW hwp
      generalize wc = W1 at *
      obtain ⟨⟨c0, c1, c2⟩, ⟨c3, c4⟩, GW⟩ := HRd.out
      have hW15 : W ≤ 15 := by have := HWS.out; have h0 : (0 : Int) ≤ s := by omega
                               omega
      go_upto_if 64 with (fail)
      go_cut [8] (fun o wx => o = .int .i64 sp ∧ wx = W1)
      case first =>
        have hsv := HSV.out
        have hsp2 := HSP.out
        simp only [Bool.false_eq_true, if_false, if_true, reduceCtorEq, false_implies, true_implies, forall_const] at hsv hsp2
        clear ge g1 gp gf g2
        go_wp2_with ((go_at_call 53; (with_reducible refine (hCo _).mono ?_); rintro e w1 ⟨rfl, rfl⟩))
        go_meet
        refine ⟨?_, rfl⟩
        first | (rw [hsp2]; done) | (rw [← hsv]; go_num) | (rw [← hsv])
      case rest =>
        obtain ⟨rfl, rfl⟩ := hcut
        clear HSV HSP hCo hcb g0 b0 ge g1 g2 gf gp
        go_wp2
        go_loop [10, 11] (fun o i => ∃ q : Nat, q ≤ W ∧ i = .int .i64 q ∧ o = .string (BL (spT D cmm W q))) (fun _ i => W - (intOf i).toNat)
        case atStart => exact ⟨0, by omega, rfl, rfl⟩
        case round =>
          obtain ⟨q, hq, rfl, rfl⟩ := hrel
          have hol := spT_len_le D cmm W q
          by_cases hlt : q < W
          · have hst : spT D cmm W (q + 1) = spT D cmm W q ++ (if q = W then [46] else []) ++ (if cm cmm W q && decide (q < W) then [44] else []) ++ [dAt D q] := rfl
            rw [if_neg (by omega), decide_eq_true hlt, Bool.and_true, List.append_nil, HD.out q hlt] at hst
            generalize spT D cmm W q = O at *
            have a44 := fun w => add_bl O [44] (BL O) ⟨#[44]⟩ rfl rfl (by simp; omega) w
            have a32 := fun w => add_bl O [32] (BL O) ⟨#[32]⟩ rfl rfl (by simp; omega) w
            have a42 := fun w => add_bl O [42] (BL O) ⟨#[42]⟩ rfl rfl (by simp; omega) w
            have a48 := fun w => add_bl O [48] (BL O) ⟨#[48]⟩ rfl rfl (by simp; omega) w
            have b32 := fun w => add_bl (O ++ [44]) [32] (BL (O ++ [44])) ⟨#[32]⟩ rfl rfl (by simp; omega) w
            have b42 := fun w => add_bl (O ++ [44]) [42] (BL (O ++ [44])) ⟨#[42]⟩ rfl rfl (by simp; omega) w
            have b48 := fun w => add_bl (O ++ [44]) [48] (BL (O ++ [44])) ⟨#[48]⟩ rfl rfl (by simp; omega) w
            have hwq : IntKind.i64.wrap ((W : Int) - (q : Int)) = (W : Int) - q := IntWalk.i64_in _ (by omega)
            obtain ⟨m, hm⟩ : ∃ m : Nat, (W - q) % 3 = m := ⟨_, rfl⟩
            have ht : ((W : Int) - q).tmod 3 = (m : Int) := by rw [IntWalk.rem_in _ _ (by omega)]; omega
            obtain ⟨p0, hp0⟩ : ∃ p0, decide (0 < q) = p0 := ⟨_, rfl⟩
            have g0 : decide ((0 : Int) < (q : Int)) = p0 := by rw [← hp0]; exact decide_eq_decide.2 (by omega)
            obtain ⟨pm, hpm⟩ : ∃ pm, decide (m = 0) = pm := ⟨_, rfl⟩
            have gm : ((m : Int) == 0) = pm := by rw [← hpm]; by_cases h : m = 0 <;> simp [h]
            obtain ⟨bs, hbs⟩ : ∃ bs, ((q : Int) == sp) = bs := ⟨_, rfl⟩
            have hcm : cm cmm W q = (cmm && p0 && pm) := by unfold cm; rw [hm, hp0, hpm]
            obtain ⟨bg, hbg⟩ : ∃ bg, (f == 1) = bg := ⟨_, rfl⟩
            rw [hcm, hbs, hbg] at hst
            have HS := Lib.hid hst
            clear hst hcm hm hol hpm
            have hsel : (cmm = false ∨ (cmm = true ∧ p0 = false) ∨ (cmm = true ∧ p0 = true ∧ pm = false) ∨ (cmm = true ∧ p0 = true ∧ pm = true)) := by cases cmm <;> cases p0 <;> cases pm <;> simp
            have hsel2 : (bs = false ∨ (bs = true ∧ bg = true) ∨ (bs = true ∧ bg = false)) := by cases bs <;> cases bg <;> simp
            rcases hsel with rfl | ⟨rfl, rfl⟩ | ⟨rfl, rfl, rfl⟩ | ⟨rfl, rfl, rfl⟩ <;> rcases hsel2 with rfl | ⟨rfl, rfl⟩ | ⟨rfl, rfl⟩
            all_goals
              go_wp2_with ((go_at_call 31; (with_reducible refine (h12 _).mono ?_); rintro e w1 ⟨rfl, rfl⟩))
              go_round
              case rel => exact ⟨q + 1, by omega, by go_num, by rw [HS.out]; simp⟩
              case measure => simp [intOf]; omega
          · obtain rfl : q = W := by omega
            clear h12
            have hS15 : S ≤ 15 := by have := HWS.out; omega
            generalize spT D cmm q q = O at *
            have hsl : (List.replicate S (32 : UInt8)).length = S := List.length_replicate
            generalize List.replicate S (32 : UInt8) = Z at *
            obtain ⟨U, hU⟩ : ∃ U, O ++ [46] ++ Z = U := ⟨_, rfl⟩
            have hUl : U.length = O.length + 1 + S := by rw [← hU]; simp; omega
            have a46 := fun w => add_bl O [46] (BL O) ⟨#[46]⟩ rfl rfl (by simp; omega) w
            have aS := fun w => add_bl (O ++ [46]) Z (BL (O ++ [46])) (BL Z) rfl rfl (by simp; omega) w
            rw [hU] at aS
            have aC := fun w => add_bl O [67, 82] (BL O) ⟨#[67, 82]⟩ rfl rfl (by simp; omega) w
            have aM := fun w => add_bl O [45] (BL O) ⟨#[45]⟩ rfl rfl (by simp; omega) w
            have bC := fun w => add_bl U [67, 82] (BL U) ⟨#[67, 82]⟩ rfl rfl (by simp; omega) w
            have bM := fun w => add_bl U [45] (BL U) ⟨#[45]⟩ rfl rfl (by simp; omega) w
            have HU := Lib.hid hU
            clear hU hUl
            have hcm := HCM.out
            have hsel : (bcr = true ∧ bmi = false) ∨ (bcr = false ∧ bmi = true) ∨ (bcr = false ∧ bmi = false) := by cases bcr <;> cases bmi <;> simp at hcm ⊢
            clear hcm HCM hsl hol
            by_cases hbp : 0 < s
            · have gp2 : decide (0 < s) = true := decide_eq_true hbp
              rw [if_pos hbp] at HR
              clear hbp
              rcases hsel with ⟨rfl, rfl⟩ | ⟨rfl, rfl⟩ | ⟨rfl, rfl⟩
              · go_wp2_with (first | (go_at_call 31; (with_reducible refine (hCr _).mono ?_); rintro e w1 ⟨rfl, rfl⟩) | (go_at_call 31; (with_reducible refine (hMi _).mono ?_); rintro e w1 ⟨rfl, rfl⟩) | (go_at_call 54; (with_reducible refine (hRp _).mono ?_); rintro e w5 ⟨rfl, hb5⟩; have d2 := hb5.keep c2; have d3 := hb5.keep c3))
                exact bodyPost_ret (v := .tuple #[.string (BL (U ++ [67, 82])), .int .i64 0]) (by simp [results, Tryz.results24, go_sem, *]) rfl ⟨by rw [HR.out, ← HU.out]; simp, (by repeat (first | (with_reducible exact Gr.refl _) | (with_reducible assumption) | (with_reducible refine Gr.alloc ?_ _) | (with_reducible refine Gr.drew ?_) | (with_reducible refine Gr.drewN ?_ _) | (with_reducible refine Gr.setCell ?_ (by simp <;> omega) _) | (with_reducible refine Gr.trans ?_ (by with_reducible assumption)) | exact Gr.refl _ | assumption | refine Gr.alloc ?_ _ | refine Gr.drew ?_ | refine Gr.drewN ?_ _ | refine Gr.setCell ?_ (by simp <;> omega) _ | refine Gr.trans ?_ (by assumption)))⟩
              · go_wp2_with (first | (go_at_call 31; (with_reducible refine (hCr _).mono ?_); rintro e w1 ⟨rfl, rfl⟩) | (go_at_call 31; (with_reducible refine (hMi _).mono ?_); rintro e w1 ⟨rfl, rfl⟩) | (go_at_call 54; (with_reducible refine (hRp _).mono ?_); rintro e w5 ⟨rfl, hb5⟩; have d2 := hb5.keep c2; have d3 := hb5.keep c3))
                exact bodyPost_ret (v := .tuple #[.string (BL (U ++ [45])), .int .i64 0]) (by simp [results, Tryz.results24, go_sem, *]) rfl ⟨by rw [HR.out, ← HU.out]; simp, (by repeat (first | (with_reducible exact Gr.refl _) | (with_reducible assumption) | (with_reducible refine Gr.alloc ?_ _) | (with_reducible refine Gr.drew ?_) | (with_reducible refine Gr.drewN ?_ _) | (with_reducible refine Gr.setCell ?_ (by simp <;> omega) _) | (with_reducible refine Gr.trans ?_ (by with_reducible assumption)) | exact Gr.refl _ | assumption | refine Gr.alloc ?_ _ | refine Gr.drew ?_ | refine Gr.drewN ?_ _ | refine Gr.setCell ?_ (by simp <;> omega) _ | refine Gr.trans ?_ (by assumption)))⟩
              · go_wp2_with (first | (go_at_call 31; (with_reducible refine (hCr _).mono ?_); rintro e w1 ⟨rfl, rfl⟩) | (go_at_call 31; (with_reducible refine (hMi _).mono ?_); rintro e w1 ⟨rfl, rfl⟩) | (go_at_call 54; (with_reducible refine (hRp _).mono ?_); rintro e w5 ⟨rfl, hb5⟩; have d2 := hb5.keep c2; have d3 := hb5.keep c3))
                exact bodyPost_ret (v := .tuple #[.string (BL U), .int .i64 0]) (by simp [results, Tryz.results24, go_sem, *]) rfl ⟨by rw [HR.out, ← HU.out]; simp, (by repeat (first | (with_reducible exact Gr.refl _) | (with_reducible assumption) | (with_reducible refine Gr.alloc ?_ _) | (with_reducible refine Gr.drew ?_) | (with_reducible refine Gr.drewN ?_ _) | (with_reducible refine Gr.setCell ?_ (by simp <;> omega) _) | (with_reducible refine Gr.trans ?_ (by with_reducible assumption)) | exact Gr.refl _ | assumption | refine Gr.alloc ?_ _ | refine Gr.drew ?_ | refine Gr.drewN ?_ _ | refine Gr.setCell ?_ (by simp <;> omega) _ | refine Gr.trans ?_ (by assumption)))⟩
            · have gp2 : decide (0 < s) = false := decide_eq_false hbp
              rw [if_neg hbp] at HR
              clear hbp
              rcases hsel with ⟨rfl, rfl⟩ | ⟨rfl, rfl⟩ | ⟨rfl, rfl⟩
              · go_wp2_with (first | (go_at_call 31; (with_reducible refine (hCr _).mono ?_); rintro e w1 ⟨rfl, rfl⟩) | (go_at_call 31; (with_reducible refine (hMi _).mono ?_); rintro e w1 ⟨rfl, rfl⟩) | (go_at_call 54; (with_reducible refine (hRp _).mono ?_); rintro e w5 ⟨rfl, hb5⟩; have d2 := hb5.keep c2; have d3 := hb5.keep c3))
                exact bodyPost_ret (v := .tuple #[.string (BL (O ++ [67, 82])), .int .i64 0]) (by simp [results, Tryz.results24, go_sem, *]) rfl ⟨by rw [HR.out]; simp, (by repeat (first | (with_reducible exact Gr.refl _) | (with_reducible assumption) | (with_reducible refine Gr.alloc ?_ _) | (with_reducible refine Gr.drew ?_) | (with_reducible refine Gr.drewN ?_ _) | (with_reducible refine Gr.setCell ?_ (by simp <;> omega) _) | (with_reducible refine Gr.trans ?_ (by with_reducible assumption)) | exact Gr.refl _ | assumption | refine Gr.alloc ?_ _ | refine Gr.drew ?_ | refine Gr.drewN ?_ _ | refine Gr.setCell ?_ (by simp <;> omega) _ | refine Gr.trans ?_ (by assumption)))⟩
              · go_wp2_with (first | (go_at_call 31; (with_reducible refine (hCr _).mono ?_); rintro e w1 ⟨rfl, rfl⟩) | (go_at_call 31; (with_reducible refine (hMi _).mono ?_); rintro e w1 ⟨rfl, rfl⟩) | (go_at_call 54; (with_reducible refine (hRp _).mono ?_); rintro e w5 ⟨rfl, hb5⟩; have d2 := hb5.keep c2; have d3 := hb5.keep c3))
                exact bodyPost_ret (v := .tuple #[.string (BL (O ++ [45])), .int .i64 0]) (by simp [results, Tryz.results24, go_sem, *]) rfl ⟨by rw [HR.out]; simp, (by repeat (first | (with_reducible exact Gr.refl _) | (with_reducible assumption) | (with_reducible refine Gr.alloc ?_ _) | (with_reducible refine Gr.drew ?_) | (with_reducible refine Gr.drewN ?_ _) | (with_reducible refine Gr.setCell ?_ (by simp <;> omega) _) | (with_reducible refine Gr.trans ?_ (by with_reducible assumption)) | exact Gr.refl _ | assumption | refine Gr.alloc ?_ _ | refine Gr.drew ?_ | refine Gr.drewN ?_ _ | refine Gr.setCell ?_ (by simp <;> omega) _ | refine Gr.trans ?_ (by assumption)))⟩
              · go_wp2_with (first | (go_at_call 31; (with_reducible refine (hCr _).mono ?_); rintro e w1 ⟨rfl, rfl⟩) | (go_at_call 31; (with_reducible refine (hMi _).mono ?_); rintro e w1 ⟨rfl, rfl⟩) | (go_at_call 54; (with_reducible refine (hRp _).mono ?_); rintro e w5 ⟨rfl, hb5⟩; have d2 := hb5.keep c2; have d3 := hb5.keep c3))
                exact bodyPost_ret (v := .tuple #[.string (BL O), .int .i64 0]) (by simp [results, Tryz.results24, go_sem, *]) rfl ⟨by rw [HR.out]; simp, (by repeat (first | (with_reducible exact Gr.refl _) | (with_reducible assumption) | (with_reducible refine Gr.alloc ?_ _) | (with_reducible refine Gr.drew ?_) | (with_reducible refine Gr.drewN ?_ _) | (with_reducible refine Gr.setCell ?_ (by simp <;> omega) _) | (with_reducible refine Gr.trans ?_ (by with_reducible assumption)) | exact Gr.refl _ | assumption | refine Gr.alloc ?_ _ | refine Gr.drew ?_ | refine Gr.drewN ?_ _ | refine Gr.setCell ?_ (by simp <;> omega) _ | refine Gr.trans ?_ (by assumption)))⟩
end
end Go.Proofs.YtmdpejllbalnnaaGreatDoor
