/- Texts of the walks, merged. -/
import Derived.Test.YtmdpejllbalnnaaGreatDoorQ14
import Derived.Test.YtmdpejllbalnnaaGreatDoorQ02
namespace Go.Proofs.YtmdpejllbalnnaaGreatDoor
set_option linter.unusedSimpArgs false
set_option linter.unusedVariables false
open Go.RowKit

set_option maxHeartbeats 1000000 in
theorem refDigits_any (k l s n : Int) (u L : Nat) (hu : u = n.natAbs) (hl : l = L) (hL : L ≤ 64) (hs : (dcS u).size ≤ L) (hn : u ≤ 1000000000000000000) (w : World) :
    Calls Tryz.prog 65 #[.agg #[.int .i64 k, .int .i64 l, .int .i64 s], .int .i64 n] w fun e w' => e = .returned (.string (BL (dsL L u))) ∧ Gr w w' := by
  subst hl
  have hA : ∀ w, Calls Tryz.prog 87 #[.int .i64 n] w fun e w' => e = .returned (.int .i64 (u : Int)) ∧ w = w' := fun w => by
    have := Amount_any n (by omega) (by omega) w
    rwa [show absI n = (u : Int) by unfold absI; split <;> omega] at this
  have hI : ∀ w, Calls Tryz.prog 86 #[.int .i64 (u : Int)] w fun e w' => e = .returned (.string (dcS u)) ∧ Gr w w' := fun w => Digits_any u (u : Int) w (by omega) (by omega) (by omega)
  obtain ⟨m, hm⟩ : ∃ m : Nat, m = L - (dcS u).size := ⟨_, rfl⟩
  have hsub : IntKind.i64.wrap ((L : Int) - ((dcS u).size : Int)) = m := by rw [IntWalk.i64_in _ (by omega)]; omega
  have hZ := bRep_any 48 48 rfl m (m : Int) rfl (by omega)
  have E := Lib.hid (show BL (List.replicate m 48) ++ dcS u = BL (dsL L u) by
    unfold dsL; rw [← hm, ← BL_append, BL_of])
  have hz : (BL (List.replicate m 48)).size + (dcS u).size ≤ 9223372036854775807 := by rw [BL_size, List.length_replicate]; omega
  have hadd := add_ss (BL (List.replicate m 48)) (dcS u) hz
  rw [E.out] at hadd
  clear hu hL hs hm E hz hn
  generalize BL (dsL L u) = R at *
  generalize BL (List.replicate m 48) = Z at *
  generalize dcS u = D at *
  go_enter Tryz.func65, Tryz.ntmps65
  go_wp2_with (first | (go_at_call 87; (with_reducible refine (hA _).mono ?_); rintro e w1 ⟨rfl, rfl⟩) | (go_at_call 86; (with_reducible refine (hI _).mono ?_); rintro e w1 ⟨rfl, hb⟩; obtain ⟨hc, hf⟩ := gcells hb (w.heap.size + 1) (by first | exact hz | omega | (simp; done) | (simp; omega)); have hz : w.heap.size + 1 ≤ w1.heap.size := (by have h := hb.size; (try simp at h); omega); have hz0 : w.heap.size < w1.heap.size := (by omega)) | (go_at_call 54; (with_reducible refine (hZ _).mono ?_); rintro e w1 ⟨rfl, hb⟩; obtain ⟨hc, hf⟩ := gcells hb (w.heap.size + 1) (by first | exact hz | omega | (simp; done) | (simp; omega)); have hz : w.heap.size + 1 ≤ w1.heap.size := (by have h := hb.size; (try simp at h); omega); have hz0 : w.heap.size < w1.heap.size := (by omega)))
  go_ret
  exact ⟨rfl, (by repeat (first | (with_reducible exact Gr.refl _) | (with_reducible assumption) | (with_reducible refine Gr.alloc ?_ _) | (with_reducible refine Gr.drew ?_) | (with_reducible refine Gr.drewN ?_ _) | (with_reducible refine Gr.setCell ?_ (by simp <;> omega) _) | (with_reducible refine Gr.trans ?_ (by with_reducible assumption)) | exact Gr.refl _ | assumption | refine Gr.alloc ?_ _ | refine Gr.drew ?_ | refine Gr.drewN ?_ _ | refine Gr.setCell ?_ (by simp <;> omega) _ | refine Gr.trans ?_ (by assumption)))⟩
/-- The boxes of a type and a code. -/
def TxW (w : World) (k l s c f : Int) (wx : World) : Prop :=
  (wx.cell? ⟨w.heap.size, 0, none⟩ = some (.int .i64 k) ∧ wx.cell? ⟨w.heap.size, 1, none⟩ = some (.int .i64 l) ∧ wx.cell? ⟨w.heap.size, 2, none⟩ = some (.int .i64 s) ∧ wx.cell? ⟨w.heap.size + 1, 0, none⟩ = some (.int .u8 c) ∧ wx.cell? ⟨w.heap.size + 1, 1, none⟩ = some (.int .i64 f)) ∧ Gr w wx ∧ w.heap.size + 1 < wx.heap.size
theorem TxW.gr {w : World} {k l s c f : Int} {a b : World} (h : TxW w k l s c f a) (G : Gr a b) : TxW w k l s c f b := by
  obtain ⟨⟨c0, c1, c2, c3, c4⟩, h1, h2⟩ := h
  exact ⟨⟨G.keep c0, G.keep c1, G.keep c2, G.keep c3, G.keep c4⟩, h1.trans G, by have := Gr.size G; omega⟩
def TxC (w : World) (k l s c f : Int) (Y : ByteArray) (o : Value) (wx : World) : Prop := o = .string Y ∧ TxW w k l s c f wx
set_option maxHeartbeats 8000000 in
set_option maxRecDepth 100000 in
theorem refText_core (k l s n f c q : Int) (D A Y0 Y1 Y2 Y3 Y4 R : ByteArray) (bc bA bJ bZ bN : Bool) (w : World)
    (hDg : ∀ w, Calls Tryz.prog 65 #[.agg #[.int .i64 k, .int .i64 l, .int .i64 s], .int .i64 n] w fun e w' => e = .returned (.string D) ∧ Gr w w')
    (h88 : c ≠ 88) (h89 : c ≠ 89) (h90 : c ≠ 90) (hq : IntKind.i64.wrap (l - s) = q)
    (hA : ∀ w, (Instr.slice 9 (.string D) none (some (.int .i64 q)) none).run Tryz.prog w = .ok (.string A) w)
    (hI1 : ∀ w, Calls Tryz.prog 31 #[.int .u8 c, .string ⟨#[49, 50, 65, 66, 74, 75, 78, 79]⟩] w fun e w' => e = .returned (.bool bc) ∧ w = w')
    (hI2 : ∀ w, Calls Tryz.prog 31 #[.int .u8 c, .string ⟨#[65, 66, 67, 68]⟩] w fun e w' => e = .returned (.bool bA) ∧ w = w')
    (hI3 : ∀ w, Calls Tryz.prog 31 #[.int .u8 c, .string ⟨#[74, 75, 76, 77]⟩] w fun e w' => e = .returned (.bool bJ) ∧ w = w')
    (hI4 : ∀ w, Calls Tryz.prog 31 #[.int .u8 c, .string ⟨#[50, 52, 66, 68, 75, 77, 79, 81]⟩] w fun e w' => e = .returned (.bool bZ) ∧ w = w')
    (hI5 : ∀ w, Calls Tryz.prog 31 #[.int .u8 c, .string ⟨#[78, 79, 80, 81]⟩] w fun e w' => e = .returned (.bool bN) ∧ w = w')
    (hWh : ∀ w, Calls Tryz.prog 67 #[.string A, .bool bc, .bool (s == 0)] w fun e w' => e = .returned (.string Y0) ∧ w = w')
    (h1t : 0 < s → ∃ P U, (∀ w, (Op.stringOp .add Y0 ⟨#[46]⟩).run Tryz.prog w = .ok (.string P) w) ∧ (∀ w, (Instr.slice 9 (.string D) (some (.int .i64 q)) none none).run Tryz.prog w = .ok (.string U) w) ∧ (∀ w, (Op.stringOp .add P U).run Tryz.prog w = .ok (.string Y1) w))
    (h1f : ¬ 0 < s → Y1 = Y0)
    (h2a : bA = true → n < 0 → ∀ w, (Op.stringOp .add Y1 ⟨#[67, 82]⟩).run Tryz.prog w = .ok (.string Y2) w)
    (h2b : bA = true → ¬ n < 0 → ∀ w, (Op.stringOp .add Y1 ⟨#[32, 32]⟩).run Tryz.prog w = .ok (.string Y2) w)
    (h2c : bA = false → Y2 = Y1)
    (h3a : bJ = true → n < 0 → ∀ w, (Op.stringOp .add Y2 ⟨#[45]⟩).run Tryz.prog w = .ok (.string Y3) w)
    (h3b : bJ = true → ¬ n < 0 → ∀ w, (Op.stringOp .add Y2 ⟨#[32]⟩).run Tryz.prog w = .ok (.string Y3) w)
    (h3c : bJ = false → Y3 = Y2)
    (h4a : n = 0 → bZ = true → ∀ w, Calls Tryz.prog 54 #[.int .u8 32, .int .i64 (Y3.size : Int)] w fun e w' => e = .returned (.string Y4) ∧ Gr w w')
    (h4b : ¬ (n = 0 ∧ bZ = true) → Y4 = Y3)
    (h5a : f = 2 → ∀ w, Calls Tryz.prog 68 #[.string Y4, .int .u8 36] w fun e w' => e = .returned (.string R) ∧ Gr w w')
    (h5b : f = 1 → ∀ w, Calls Tryz.prog 69 #[.string Y4] w fun e w' => e = .returned (.string R) ∧ Gr w w')
    (h5c : f ≠ 2 → f ≠ 1 → bN = true → n < 0 → ∀ w, Calls Tryz.prog 68 #[.string Y4, .int .u8 45] w fun e w' => e = .returned (.string R) ∧ Gr w w')
    (h5d : f ≠ 2 → f ≠ 1 → bN = true → ¬ n < 0 → ∀ w, (Op.stringOp .add ⟨#[32]⟩ Y4).run Tryz.prog w = .ok (.string R) w)
    (h5e : f ≠ 2 → f ≠ 1 → bN = false → R = Y4) :
    Calls Tryz.prog 32 #[.agg #[.int .i64 k, .int .i64 l, .int .i64 s], .int .i64 n, .agg #[.int .u8 c, .int .i64 f]] w fun e w' => e = .returned (.string R) ∧ Gr w w' := by
  have H1 := Lib.hid (And.intro h1t h1f)
  have H2 := Lib.hid (And.intro h2a (And.intro h2b h2c))
  have H3 := Lib.hid (And.intro h3a (And.intro h3b h3c))
  have H4 := Lib.hid (And.intro h4a h4b)
  have H5 := Lib.hid (And.intro h5a (And.intro h5b (And.intro h5c (And.intro h5d h5e))))
  have b1 : (c == 88) = false := by simp [h88]
  have b2 : (c == 89) = false := by simp [h89]
  have b3 : (c == 90) = false := by simp [h90]
  clear h88 h89 h90 h1t h1f h2a h2b h2c h3a h3b h3c h4a h4b h5a h5b h5c h5d h5e
  go_enter Tryz.func32, Tryz.ntmps32
  go_upto_region 10 with ((go_at_call 65; (with_reducible refine (hDg _).mono ?_); rintro e w1 ⟨rfl, hb⟩; obtain ⟨hc, hf⟩ := gcells hb (w.heap.size + 2) (by first | exact hz | omega | (simp; done) | (simp; omega)); have hz : w.heap.size + 2 ≤ w1.heap.size := (by have h := hb.size; (try simp at h); omega); have hz0 : w.heap.size < w1.heap.size := (by omega)))
  have T0 : TxW w k l s c f w1 := TxW.gr (a := (w.alloc (.cells #[.int .i64 k, .int .i64 l, .int .i64 s] 23)).alloc (.cells #[.int .u8 c, .int .i64 f] 25)) ⟨⟨by simp [go_sem], by simp [go_sem], by simp [go_sem], by simp [go_sem], by simp [go_sem]⟩, (by repeat (first | (with_reducible exact Gr.refl _) | (with_reducible assumption) | (with_reducible refine Gr.alloc ?_ _) | (with_reducible refine Gr.drew ?_) | (with_reducible refine Gr.drewN ?_ _) | (with_reducible refine Gr.setCell ?_ (by simp <;> omega) _) | (with_reducible refine Gr.trans ?_ (by with_reducible assumption)) | exact Gr.refl _ | assumption | refine Gr.alloc ?_ _ | refine Gr.drew ?_ | refine Gr.drewN ?_ _ | refine Gr.setCell ?_ (by simp <;> omega) _ | refine Gr.trans ?_ (by assumption))), by simp⟩ hb
  have TT := Lib.hid T0
  obtain ⟨⟨c0, c1, c2, c3, c4⟩, G0, hz2⟩ := T0
  clear hc hf hb hz hz0 G0 hDg
  generalize w1 = W1 at *
  go_cut [9] (fun o wx => TxC w k l s c f Y0 o wx)
  case first =>
    go_region_held3 (fun w' => w'.cell? ⟨w.heap.size, 0, none⟩ = some (.int .i64 k) ∧ w'.cell? ⟨w.heap.size, 1, none⟩ = some (.int .i64 l) ∧ w'.cell? ⟨w.heap.size, 2, none⟩ = some (.int .i64 s) ∧ w'.cell? ⟨w.heap.size + 1, 0, none⟩ = some (.int .u8 c) ∧ w'.cell? ⟨w.heap.size + 1, 1, none⟩ = some (.int .i64 f)) (((try go_split_ands); (repeat' apply And.intro) <;> ((try simp only [World.cell?_drew]); first | (with_reducible assumption) | (simp [go_sem]; done) | ((repeat (first | (refine keepFar ?_ (by first | (dsimp only; omega) | (simp; done) | (simp; omega))) | (refine (Gr.alloc (Gr.refl _) _).keep ?_))); (try simp only [World.cell?_drew]); first | (with_reducible assumption) | (refine hb.keep ?_; (try simp only [World.cell?_drew]); first | (with_reducible assumption) | (simp [go_sem]; done) | ((repeat (refine (Gr.alloc (Gr.refl _) _).keep ?_)); (try simp only [World.cell?_drew]); (with_reducible assumption))) | (simp [*, go_sem]; done))))) (first | (go_at_call 31; (with_reducible refine (hI1 _).mono ?_); rintro e w1 ⟨rfl, rfl⟩) | (go_at_call 67; (with_reducible refine (hWh _).mono ?_); rintro e w1 ⟨rfl, rfl⟩))
    all_goals
      go_wp2_with fail
      go_meet
      exact ⟨rfl, TT.out.gr (by repeat (first | (with_reducible exact Gr.refl _) | (with_reducible assumption) | (with_reducible refine Gr.alloc ?_ _) | (with_reducible refine Gr.drew ?_) | (with_reducible refine Gr.drewN ?_ _) | (with_reducible refine Gr.setCell ?_ (by simp <;> omega) _) | (with_reducible refine Gr.trans ?_ (by with_reducible assumption)) | exact Gr.refl _ | assumption | refine Gr.alloc ?_ _ | refine Gr.drew ?_ | refine Gr.drewN ?_ _ | refine Gr.setCell ?_ (by simp <;> omega) _ | refine Gr.trans ?_ (by assumption)))⟩
  case rest =>
    obtain ⟨rfl, hT⟩ := hcut
    clear TT c0 c1 c2 c3 c4 hz2
    have TT := Lib.hid hT
    obtain ⟨⟨c0, c1, c2, c3, c4⟩, G0, hz2⟩ := hT
    clear G0
    generalize wc = W2 at *
    go_upto_if 43 with (fail)
    go_cut [9] (fun o wx => TxC w k l s c f Y1 o wx)
    case first =>
      by_cases hs : 0 < s
      · obtain ⟨P, U, hP, hU, hY⟩ := H1.out.1 hs
        go_wp2
        go_meet
        exact ⟨rfl, TT.out.gr (by repeat (first | (with_reducible exact Gr.refl _) | (with_reducible assumption) | (with_reducible refine Gr.alloc ?_ _) | (with_reducible refine Gr.drew ?_) | (with_reducible refine Gr.drewN ?_ _) | (with_reducible refine Gr.setCell ?_ (by simp <;> omega) _) | (with_reducible refine Gr.trans ?_ (by with_reducible assumption)) | exact Gr.refl _ | assumption | refine Gr.alloc ?_ _ | refine Gr.drew ?_ | refine Gr.drewN ?_ _ | refine Gr.setCell ?_ (by simp <;> omega) _ | refine Gr.trans ?_ (by assumption)))⟩
      · have e := Lib.hid (H1.out.2 (by omega))
        go_wp2
        go_meet
        exact ⟨by rw [e.out]; first | done | rfl, TT.out.gr (by repeat (first | (with_reducible exact Gr.refl _) | (with_reducible assumption) | (with_reducible refine Gr.alloc ?_ _) | (with_reducible refine Gr.drew ?_) | (with_reducible refine Gr.drewN ?_ _) | (with_reducible refine Gr.setCell ?_ (by simp <;> omega) _) | (with_reducible refine Gr.trans ?_ (by with_reducible assumption)) | exact Gr.refl _ | assumption | refine Gr.alloc ?_ _ | refine Gr.drew ?_ | refine Gr.drewN ?_ _ | refine Gr.setCell ?_ (by simp <;> omega) _ | refine Gr.trans ?_ (by assumption)))⟩
    case rest =>
      obtain ⟨rfl, hT⟩ := hcut
      clear TT c0 c1 c2 c3 c4 hz2
      have TT := Lib.hid hT
      obtain ⟨⟨c0, c1, c2, c3, c4⟩, G0, hz2⟩ := hT
      clear G0
      generalize wc = W3 at *
      go_upto_if 52 with ((go_at_call 31; (with_reducible refine (hI2 _).mono ?_); rintro e w1 ⟨rfl, rfl⟩))
      go_cut [9] (fun o wx => TxC w k l s c f Y2 o wx)
      case first =>
        cases bA
        · have e := Lib.hid (H2.out.2.2 rfl)
          go_wp2
          go_meet
          exact ⟨by rw [e.out]; first | done | rfl, TT.out.gr (by repeat (first | (with_reducible exact Gr.refl _) | (with_reducible assumption) | (with_reducible refine Gr.alloc ?_ _) | (with_reducible refine Gr.drew ?_) | (with_reducible refine Gr.drewN ?_ _) | (with_reducible refine Gr.setCell ?_ (by simp <;> omega) _) | (with_reducible refine Gr.trans ?_ (by with_reducible assumption)) | exact Gr.refl _ | assumption | refine Gr.alloc ?_ _ | refine Gr.drew ?_ | refine Gr.drewN ?_ _ | refine Gr.setCell ?_ (by simp <;> omega) _ | refine Gr.trans ?_ (by assumption)))⟩
        · by_cases hn : n < 0
          · have e := H2.out.1 rfl hn
            go_wp2
            go_meet
            exact ⟨rfl, TT.out.gr (by repeat (first | (with_reducible exact Gr.refl _) | (with_reducible assumption) | (with_reducible refine Gr.alloc ?_ _) | (with_reducible refine Gr.drew ?_) | (with_reducible refine Gr.drewN ?_ _) | (with_reducible refine Gr.setCell ?_ (by simp <;> omega) _) | (with_reducible refine Gr.trans ?_ (by with_reducible assumption)) | exact Gr.refl _ | assumption | refine Gr.alloc ?_ _ | refine Gr.drew ?_ | refine Gr.drewN ?_ _ | refine Gr.setCell ?_ (by simp <;> omega) _ | refine Gr.trans ?_ (by assumption)))⟩
          · have e := H2.out.2.1 rfl (by omega)
            go_wp2
            go_meet
            exact ⟨rfl, TT.out.gr (by repeat (first | (with_reducible exact Gr.refl _) | (with_reducible assumption) | (with_reducible refine Gr.alloc ?_ _) | (with_reducible refine Gr.drew ?_) | (with_reducible refine Gr.drewN ?_ _) | (with_reducible refine Gr.setCell ?_ (by simp <;> omega) _) | (with_reducible refine Gr.trans ?_ (by with_reducible assumption)) | exact Gr.refl _ | assumption | refine Gr.alloc ?_ _ | refine Gr.drew ?_ | refine Gr.drewN ?_ _ | refine Gr.setCell ?_ (by simp <;> omega) _ | refine Gr.trans ?_ (by assumption)))⟩
      case rest =>
        obtain ⟨rfl, hT⟩ := hcut
        clear TT c0 c1 c2 c3 c4 hz2
        have TT := Lib.hid hT
        obtain ⟨⟨c0, c1, c2, c3, c4⟩, G0, hz2⟩ := hT
        clear G0
        generalize wc = W4 at *
        go_upto_if 61 with ((go_at_call 31; (with_reducible refine (hI3 _).mono ?_); rintro e w1 ⟨rfl, rfl⟩))
        go_cut [9] (fun o wx => TxC w k l s c f Y3 o wx)
        case first =>
          cases bJ
          · have e := Lib.hid (H3.out.2.2 rfl)
            go_wp2
            go_meet
            exact ⟨by rw [e.out]; first | done | rfl, TT.out.gr (by repeat (first | (with_reducible exact Gr.refl _) | (with_reducible assumption) | (with_reducible refine Gr.alloc ?_ _) | (with_reducible refine Gr.drew ?_) | (with_reducible refine Gr.drewN ?_ _) | (with_reducible refine Gr.setCell ?_ (by simp <;> omega) _) | (with_reducible refine Gr.trans ?_ (by with_reducible assumption)) | exact Gr.refl _ | assumption | refine Gr.alloc ?_ _ | refine Gr.drew ?_ | refine Gr.drewN ?_ _ | refine Gr.setCell ?_ (by simp <;> omega) _ | refine Gr.trans ?_ (by assumption)))⟩
          · by_cases hn : n < 0
            · have e := H3.out.1 rfl hn
              go_wp2
              go_meet
              exact ⟨rfl, TT.out.gr (by repeat (first | (with_reducible exact Gr.refl _) | (with_reducible assumption) | (with_reducible refine Gr.alloc ?_ _) | (with_reducible refine Gr.drew ?_) | (with_reducible refine Gr.drewN ?_ _) | (with_reducible refine Gr.setCell ?_ (by simp <;> omega) _) | (with_reducible refine Gr.trans ?_ (by with_reducible assumption)) | exact Gr.refl _ | assumption | refine Gr.alloc ?_ _ | refine Gr.drew ?_ | refine Gr.drewN ?_ _ | refine Gr.setCell ?_ (by simp <;> omega) _ | refine Gr.trans ?_ (by assumption)))⟩
            · have e := H3.out.2.1 rfl (by omega)
              go_wp2
              go_meet
              exact ⟨rfl, TT.out.gr (by repeat (first | (with_reducible exact Gr.refl _) | (with_reducible assumption) | (with_reducible refine Gr.alloc ?_ _) | (with_reducible refine Gr.drew ?_) | (with_reducible refine Gr.drewN ?_ _) | (with_reducible refine Gr.setCell ?_ (by simp <;> omega) _) | (with_reducible refine Gr.trans ?_ (by with_reducible assumption)) | exact Gr.refl _ | assumption | refine Gr.alloc ?_ _ | refine Gr.drew ?_ | refine Gr.drewN ?_ _ | refine Gr.setCell ?_ (by simp <;> omega) _ | refine Gr.trans ?_ (by assumption)))⟩
        case rest =>
          obtain ⟨rfl, hT⟩ := hcut
          clear TT c0 c1 c2 c3 c4 hz2
          have TT := Lib.hid hT
          obtain ⟨⟨c0, c1, c2, c3, c4⟩, G0, hz2⟩ := hT
          clear G0
          generalize wc = W5 at *
          obtain ⟨bz, hbz⟩ : ∃ bz, (decide (n = 0) && bZ) = bz := ⟨_, rfl⟩
          have HB := Lib.hid hbz
          clear hbz
          go_upto_region 21 with (fail)
          go_cut [74] (fun o wx => o = .bool bz ∧ TxW w k l s c f wx)
          case first =>
            by_cases hn : n = 0
            · have bn : (n == 0) = true := by simp [hn]
              have HN := Lib.hid hn
              clear hn
              go_wp2_with ((go_at_call 31; (with_reducible refine (hI4 _).mono ?_); rintro e w1 ⟨rfl, rfl⟩))
              go_meet
              exact ⟨by rw [← HB.out]; simp [HN.out], TT.out.gr (by repeat (first | (with_reducible exact Gr.refl _) | (with_reducible assumption) | (with_reducible refine Gr.alloc ?_ _) | (with_reducible refine Gr.drew ?_) | (with_reducible refine Gr.drewN ?_ _) | (with_reducible refine Gr.setCell ?_ (by simp <;> omega) _) | (with_reducible refine Gr.trans ?_ (by with_reducible assumption)) | exact Gr.refl _ | assumption | refine Gr.alloc ?_ _ | refine Gr.drew ?_ | refine Gr.drewN ?_ _ | refine Gr.setCell ?_ (by simp <;> omega) _ | refine Gr.trans ?_ (by assumption)))⟩
            · have bn : (n == 0) = false := by simp [hn]
              have HN := Lib.hid hn
              clear hn
              go_wp2_with ((go_at_call 31; (with_reducible refine (hI4 _).mono ?_); rintro e w1 ⟨rfl, rfl⟩))
              go_meet
              exact ⟨by rw [← HB.out]; simp [HN.out], TT.out.gr (by repeat (first | (with_reducible exact Gr.refl _) | (with_reducible assumption) | (with_reducible refine Gr.alloc ?_ _) | (with_reducible refine Gr.drew ?_) | (with_reducible refine Gr.drewN ?_ _) | (with_reducible refine Gr.setCell ?_ (by simp <;> omega) _) | (with_reducible refine Gr.trans ?_ (by with_reducible assumption)) | exact Gr.refl _ | assumption | refine Gr.alloc ?_ _ | refine Gr.drew ?_ | refine Gr.drewN ?_ _ | refine Gr.setCell ?_ (by simp <;> omega) _ | refine Gr.trans ?_ (by assumption)))⟩
          case rest =>
            obtain ⟨rfl, hT⟩ := hcut
            clear TT c0 c1 c2 c3 c4 hz2
            have TT := Lib.hid hT
            obtain ⟨⟨c0, c1, c2, c3, c4⟩, G0, hz2⟩ := hT
            clear G0
            generalize wc = W6 at *
            go_upto_if 74 with (fail)
            go_cut [9] (fun o wx => TxC w k l s c f Y4 o wx)
            case first =>
              cases bz
              · have e := Lib.hid (H4.out.2 (by have := HB.out; simpa using this))
                go_wp2
                go_meet
                exact ⟨by rw [e.out]; first | done | rfl, TT.out.gr (by repeat (first | (with_reducible exact Gr.refl _) | (with_reducible assumption) | (with_reducible refine Gr.alloc ?_ _) | (with_reducible refine Gr.drew ?_) | (with_reducible refine Gr.drewN ?_ _) | (with_reducible refine Gr.setCell ?_ (by simp <;> omega) _) | (with_reducible refine Gr.trans ?_ (by with_reducible assumption)) | exact Gr.refl _ | assumption | refine Gr.alloc ?_ _ | refine Gr.drew ?_ | refine Gr.drewN ?_ _ | refine Gr.setCell ?_ (by simp <;> omega) _ | refine Gr.trans ?_ (by assumption)))⟩
              · have hh : n = 0 ∧ bZ = true := by have := HB.out; simpa using this
                have e := H4.out.1 hh.1 hh.2
                clear hh
                go_wp2_with (go_at_call 54; (with_reducible refine (e _).mono ?_); rintro e w7 ⟨rfl, hb7⟩)
                go_meet
                exact ⟨rfl, TT.out.gr (by repeat (first | (with_reducible exact Gr.refl _) | (with_reducible assumption) | (with_reducible refine Gr.alloc ?_ _) | (with_reducible refine Gr.drew ?_) | (with_reducible refine Gr.drewN ?_ _) | (with_reducible refine Gr.setCell ?_ (by simp <;> omega) _) | (with_reducible refine Gr.trans ?_ (by with_reducible assumption)) | exact Gr.refl _ | assumption | refine Gr.alloc ?_ _ | refine Gr.drew ?_ | refine Gr.drewN ?_ _ | refine Gr.setCell ?_ (by simp <;> omega) _ | refine Gr.trans ?_ (by assumption)))⟩
            case rest =>
              obtain ⟨rfl, hT⟩ := hcut
              clear TT c0 c1 c2 c3 c4 hz2
              have TT := Lib.hid hT
              obtain ⟨⟨c0, c1, c2, c3, c4⟩, G0, hz2⟩ := hT
              generalize wc = W7 at *
              by_cases f2 : f = 2
              · have e := H5.out.1 f2
                subst f2
                go_wp2_with (go_at_call 68; (with_reducible refine (e _).mono ?_); rintro e w7 ⟨rfl, hb7⟩)
                go_ret
                exact ⟨rfl, (by repeat (first | (with_reducible exact Gr.refl _) | (with_reducible assumption) | (with_reducible refine Gr.alloc ?_ _) | (with_reducible refine Gr.drew ?_) | (with_reducible refine Gr.drewN ?_ _) | (with_reducible refine Gr.setCell ?_ (by simp <;> omega) _) | (with_reducible refine Gr.trans ?_ (by with_reducible assumption)) | exact Gr.refl _ | assumption | refine Gr.alloc ?_ _ | refine Gr.drew ?_ | refine Gr.drewN ?_ _ | refine Gr.setCell ?_ (by simp <;> omega) _ | refine Gr.trans ?_ (by assumption)))⟩
              · have b2 : (f == 2) = false := by simp [f2]
                by_cases f1 : f = 1
                · have e := H5.out.2.1 f1
                  subst f1
                  go_wp2_with (go_at_call 69; (with_reducible refine (e _).mono ?_); rintro e w7 ⟨rfl, hb7⟩)
                  go_ret
                  exact ⟨rfl, (by repeat (first | (with_reducible exact Gr.refl _) | (with_reducible assumption) | (with_reducible refine Gr.alloc ?_ _) | (with_reducible refine Gr.drew ?_) | (with_reducible refine Gr.drewN ?_ _) | (with_reducible refine Gr.setCell ?_ (by simp <;> omega) _) | (with_reducible refine Gr.trans ?_ (by with_reducible assumption)) | exact Gr.refl _ | assumption | refine Gr.alloc ?_ _ | refine Gr.drew ?_ | refine Gr.drewN ?_ _ | refine Gr.setCell ?_ (by simp <;> omega) _ | refine Gr.trans ?_ (by assumption)))⟩
                · have b1 : (f == 1) = false := by simp [f1]
                  cases bN
                  · have e := Lib.hid (H5.out.2.2.2.2 f2 f1 rfl)
                    clear f1 f2
                    go_wp2_with ((go_at_call 31; (with_reducible refine (hI5 _).mono ?_); rintro e w1 ⟨rfl, rfl⟩))
                    go_ret
                    exact ⟨ret_str e.out.symm, (by repeat (first | (with_reducible exact Gr.refl _) | (with_reducible assumption) | (with_reducible refine Gr.alloc ?_ _) | (with_reducible refine Gr.drew ?_) | (with_reducible refine Gr.drewN ?_ _) | (with_reducible refine Gr.setCell ?_ (by simp <;> omega) _) | (with_reducible refine Gr.trans ?_ (by with_reducible assumption)) | exact Gr.refl _ | assumption | refine Gr.alloc ?_ _ | refine Gr.drew ?_ | refine Gr.drewN ?_ _ | refine Gr.setCell ?_ (by simp <;> omega) _ | refine Gr.trans ?_ (by assumption)))⟩
                  · by_cases hn : n < 0
                    · have e := H5.out.2.2.1 f2 f1 rfl hn
                      clear f1 f2
                      go_wp2_with (first | (go_at_call 31; (with_reducible refine (hI5 _).mono ?_); rintro e w1 ⟨rfl, rfl⟩) | go_at_call 68; (with_reducible refine (e _).mono ?_); rintro e w7 ⟨rfl, hb7⟩)
                      go_ret
                      exact ⟨rfl, (by repeat (first | (with_reducible exact Gr.refl _) | (with_reducible assumption) | (with_reducible refine Gr.alloc ?_ _) | (with_reducible refine Gr.drew ?_) | (with_reducible refine Gr.drewN ?_ _) | (with_reducible refine Gr.setCell ?_ (by simp <;> omega) _) | (with_reducible refine Gr.trans ?_ (by with_reducible assumption)) | exact Gr.refl _ | assumption | refine Gr.alloc ?_ _ | refine Gr.drew ?_ | refine Gr.drewN ?_ _ | refine Gr.setCell ?_ (by simp <;> omega) _ | refine Gr.trans ?_ (by assumption)))⟩
                    · have e := H5.out.2.2.2.1 f2 f1 rfl (by omega)
                      clear f1 f2
                      go_wp2_with ((go_at_call 31; (with_reducible refine (hI5 _).mono ?_); rintro e w1 ⟨rfl, rfl⟩))
                      go_ret
                      exact ⟨rfl, (by repeat (first | (with_reducible exact Gr.refl _) | (with_reducible assumption) | (with_reducible refine Gr.alloc ?_ _) | (with_reducible refine Gr.drew ?_) | (with_reducible refine Gr.drewN ?_ _) | (with_reducible refine Gr.setCell ?_ (by simp <;> omega) _) | (with_reducible refine Gr.trans ?_ (by with_reducible assumption)) | exact Gr.refl _ | assumption | refine Gr.alloc ?_ _ | refine Gr.drew ?_ | refine Gr.drewN ?_ _ | refine Gr.setCell ?_ (by simp <;> omega) _ | refine Gr.trans ?_ (by assumption)))⟩
end Go.Proofs.YtmdpejllbalnnaaGreatDoor
