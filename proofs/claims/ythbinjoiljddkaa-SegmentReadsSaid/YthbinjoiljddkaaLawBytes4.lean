/- SegmentBytes: for every store and every span the law returns true (what is read, the store behind writing, and the errors are the reference's); no condition. -/
import Derived.Test.YthbinjoiljddkaaHs
import Derived.Test.YthbinjoiljddkaaOpen4
namespace Go.Proofs.Ythbinjoiljddkaa.lawBytes
set_option linter.unusedSimpArgs false
set_option linter.unusedVariables false
open Go.Proofs.Ythbinjoiljddkaa
open Go.ChangeShapes Go.WideShapes Go.ChangeAt Go.RowKit Go.Joins Go.Deep

/-- What Written returns. -/
def Wr2 (g : List (Int × ByteArray)) (m : Nat) (x F : Int) (W : World) (e : Ending) (w' : World) : Prop := ∃ A c, e = .returned (.tuple #[.agg #[.slice A m c, .int .i64 x], .int .i64 F]) ∧ Wv w' W.heap.size A m c 2 (sg g) ∧ Gr W w'
set_option maxHeartbeats 2000000 in
set_option maxRecDepth 100000 in
theorem sb_large (A : Option Addr) (n c : Nat) (gs : List (Int × ByteArray)) (nx k a l : Int) (d : ByteArray) (w : World) (hs : Sv w A n c 2 (sg gs)) (hb : Sh gs) (hf : fewB gs = false ∨ (fewB gs = true ∧ (400 : Int) < d.size)) :
    Calls Try.prog 6 #[.agg #[.slice A n c, .int .i64 nx], .agg #[.int .i64 k, .int .i64 a, .int .i64 l, .string d]] w fun e w' => e = .returned (.bool true) ∧ Gr w w' := by
  rcases hf with hf | ⟨hf, hd⟩
  all_goals
    have HF := Lib.hid (fun W hg => few_is A n c gs nx _ hf W (hs.gr hg) hb)
    clear hs hb hf
    go_enter Try.func6, Try.ntmps6
    go_wp2_with (first | (go_at_call 12; (with_reducible refine (awake_any _).mono ?_); rintro e w1 ⟨rfl, hb⟩; obtain ⟨hc, hf⟩ := gcells hb (w.heap.size + 2) (by first | exact hz | omega | (simp; done) | (simp; omega)); have hz : w.heap.size + 2 ≤ w1.heap.size := (by have h := hb.size; (try simp at h); omega); have hz0 : w.heap.size < w1.heap.size := (by omega)) | (go_at_call 13; (with_reducible refine (HF.out _ (by repeat (first | (with_reducible exact Gr.refl _) | (with_reducible assumption) | (with_reducible refine Gr.alloc ?_ _) | (with_reducible refine Gr.drew ?_) | (with_reducible refine Gr.drewN ?_ _) | (with_reducible refine Gr.setCell ?_ (by simp <;> omega) _) | (with_reducible refine Gr.trans ?_ (by with_reducible assumption)) | exact Gr.refl _ | assumption | refine Gr.alloc ?_ _ | refine Gr.drew ?_ | refine Gr.drewN ?_ _ | refine Gr.setCell ?_ (by simp <;> omega) _ | refine Gr.trans ?_ (by assumption)))).mono ?_); rintro e w1 ⟨rfl, hb⟩; obtain ⟨hc, hf⟩ := gcells hb (w.heap.size + 2) (by first | exact hz | omega | (simp; done) | (simp; omega)); have hz : w.heap.size + 2 ≤ w1.heap.size := (by have h := hb.size; (try simp at h); omega); have hz0 : w.heap.size < w1.heap.size := (by omega)))
    go_ret
    exact ⟨rfl, (by repeat (first | (with_reducible exact Gr.refl _) | (with_reducible assumption) | (with_reducible refine Gr.alloc ?_ _) | (with_reducible refine Gr.drew ?_) | (with_reducible refine Gr.drewN ?_ _) | (with_reducible refine Gr.setCell ?_ (by simp <;> omega) _) | (with_reducible refine Gr.trans ?_ (by with_reducible assumption)) | exact Gr.refl _ | assumption | refine Gr.alloc ?_ _ | refine Gr.drew ?_ | refine Gr.drewN ?_ _ | refine Gr.setCell ?_ (by simp <;> omega) _ | refine Gr.trans ?_ (by assumption)))⟩

/-- The written store in a variable of the law's own. -/
def SbC (a : World) (g : List (Int × ByteArray)) (m : Nat) (x F : Int) (s7 s8 : Value) (wx : World) : Prop :=
  ∃ b, s7 = .pointer (some ⟨b, 0, none⟩) ∧ s8 = .int .i64 F ∧ a.heap.size ≤ b ∧ (∃ A c, b < wx.heap.size ∧ wx.cell? ⟨b, 0, none⟩ = some (.slice A m c) ∧ wx.cell? ⟨b, 1, none⟩ = some (.int .i64 x) ∧ Sv wx A m c 2 (sg g)) ∧ Gr a wx

set_option maxHeartbeats 4000000 in
set_option maxRecDepth 100000 in
theorem sb_walk (A : Option Addr) (n c : Nat) (gs gb : List (Int × ByteArray)) (nx k a l E nxb F : Int) (nb : Nat) (d t : ByteArray) (w : World) (hs : Sv w A n c 2 (sg gs)) (hb : Sh gs) (hf : fewB gs = true) (hd : (d.size : Int) ≤ 400) (hn : n ≤ 1000000)
    (HR : (∀ W A c, Sv W A n c 2 (sg gs) → Calls Try.prog 28 #[.agg #[.slice A n c, .int .i64 nx], .agg #[.int .i64 k, .int .i64 a], .int .i64 l] W fun e w' => e = .returned (.tuple #[.string t, .int .i64 E]) ∧ Gr W w'))
    (HX : (∀ W, Gr w W → Calls Try.prog 30 #[.agg #[.slice A n c, .int .i64 nx], .agg #[.int .i64 k, .int .i64 a], .int .i64 l] W (AnR [] 0 0 0 t E W)))
    (HW : (∀ W A c, Sv W A n c 2 (sg gs) → Calls Try.prog 29 #[.agg #[.slice A n c, .int .i64 nx], .agg #[.int .i64 k, .int .i64 a], .string d] W (Wr2 gb nb nxb F W)))
    (HY : (∀ W, Gr w W → Calls Try.prog 31 #[.agg #[.slice A n c, .int .i64 nx], .agg #[.int .i64 k, .int .i64 a], .string d] W (AnR gb nb nxb 0 ⟨#[]⟩ F W))) :
    Calls Try.prog 6 #[.agg #[.slice A n c, .int .i64 nx], .agg #[.int .i64 k, .int .i64 a, .int .i64 l, .string d]] w fun e w' => e = .returned (.bool true) ∧ Gr w w' := by
  have HF := Lib.hid (fun W hg => few_is A n c gs nx true hf W (hs.gr hg) hb)
  have HO := Lib.hid (fun W hg => Own_n A n c gs nx W (hs.gr hg) hn)
  have HR' := Lib.hid HR
  have HX' := Lib.hid HX
  have HW' := Lib.hid HW
  have HY' := Lib.hid HY
  clear hs hb hf HR HX HW HY
  go_enter Try.func6, Try.ntmps6
  go_upto_region 5 with (first | (go_at_call 12; (with_reducible refine (awake_any _).mono ?_); rintro e w1 ⟨rfl, hb⟩; obtain ⟨hc, hf⟩ := gcells hb (w.heap.size + 2) (by first | exact hz | omega | (simp; done) | (simp; omega)); have hz : w.heap.size + 2 ≤ w1.heap.size := (by have h := hb.size; (try simp at h); omega); have hz0 : w.heap.size < w1.heap.size := (by omega)) | (go_at_call 13; (with_reducible refine (HF.out _ (by repeat (first | (with_reducible exact Gr.refl _) | (with_reducible assumption) | (with_reducible refine Gr.alloc ?_ _) | (with_reducible refine Gr.drew ?_) | (with_reducible refine Gr.drewN ?_ _) | (with_reducible refine Gr.setCell ?_ (by simp <;> omega) _) | (with_reducible refine Gr.trans ?_ (by with_reducible assumption)) | exact Gr.refl _ | assumption | refine Gr.alloc ?_ _ | refine Gr.drew ?_ | refine Gr.drewN ?_ _ | refine Gr.setCell ?_ (by simp <;> omega) _ | refine Gr.trans ?_ (by assumption)))).mono ?_); rintro e w1 ⟨rfl, hb⟩; obtain ⟨hc, hf⟩ := gcells hb (w.heap.size + 2) (by first | exact hz | omega | (simp; done) | (simp; omega)); have hz : w.heap.size + 2 ≤ w1.heap.size := (by have h := hb.size; (try simp at h); omega); have hz0 : w.heap.size < w1.heap.size := (by omega)))
  have q0 : w1.cell? ⟨w.heap.size, 0, none⟩ = some (.slice A n c) ∧ w1.cell? ⟨w.heap.size, 1, none⟩ = some (.int .i64 nx) ∧ w1.cell? ⟨w.heap.size + 1, 0, none⟩ = some (.int .i64 k) ∧ w1.cell? ⟨w.heap.size + 1, 1, none⟩ = some (.int .i64 a) ∧ w1.cell? ⟨w.heap.size + 1, 2, none⟩ = some (.int .i64 l) ∧ w1.cell? ⟨w.heap.size + 1, 3, none⟩ = some (.string d) := by refine ⟨?_, ?_, ?_, ?_, ?_, ?_⟩ <;> simp [go_sem, *]
  have G1 := Lib.hid (show Gr w w1 from (by repeat (first | (with_reducible exact Gr.refl _) | (with_reducible assumption) | (with_reducible refine Gr.alloc ?_ _) | (with_reducible refine Gr.drew ?_) | (with_reducible refine Gr.drewN ?_ _) | (with_reducible refine Gr.setCell ?_ (by simp <;> omega) _) | (with_reducible refine Gr.trans ?_ (by with_reducible assumption)) | exact Gr.refl _ | assumption | refine Gr.alloc ?_ _ | refine Gr.drew ?_ | refine Gr.drewN ?_ _ | refine Gr.setCell ?_ (by simp <;> omega) _ | refine Gr.trans ?_ (by assumption))))
  obtain ⟨b0, b1, b2, b3, b4, b5⟩ := q0
  clear hc hf hb hz0
  generalize w1 = W1 at *
  go_region_held3 (fun w' => w'.cell? ⟨w.heap.size, 0, none⟩ = some (.slice A n c) ∧ w'.cell? ⟨w.heap.size, 1, none⟩ = some (.int .i64 nx) ∧ w'.cell? ⟨w.heap.size + 1, 0, none⟩ = some (.int .i64 k) ∧ w'.cell? ⟨w.heap.size + 1, 1, none⟩ = some (.int .i64 a) ∧ w'.cell? ⟨w.heap.size + 1, 2, none⟩ = some (.int .i64 l) ∧ w'.cell? ⟨w.heap.size + 1, 3, none⟩ = some (.string d)) (((try go_split_ands); (repeat' apply And.intro) <;> ((try simp only [World.cell?_drew]); first | (with_reducible assumption) | (simp [go_sem]; done) | ((repeat (first | (refine keepFar ?_ (by first | (dsimp only; omega) | (simp; done) | (simp; omega))) | (refine (Gr.alloc (Gr.refl _) _).keep ?_))); (try simp only [World.cell?_drew]); first | (with_reducible assumption) | (refine hb.keep ?_; (try simp only [World.cell?_drew]); first | (with_reducible assumption) | (simp [go_sem]; done) | ((repeat (refine (Gr.alloc (Gr.refl _) _).keep ?_)); (try simp only [World.cell?_drew]); (with_reducible assumption))) | (simp [*, go_sem]; done)))))
    (first
      | (go_at_call 15; (with_reducible refine (HO.out _ (G1.out.trans (by repeat (first | (with_reducible exact Gr.refl _) | (with_reducible assumption) | (with_reducible refine Gr.alloc ?_ _) | (with_reducible refine Gr.drew ?_) | (with_reducible refine Gr.drewN ?_ _) | (with_reducible refine Gr.setCell ?_ (by simp <;> omega) _) | (with_reducible refine Gr.trans ?_ (by with_reducible assumption)) | exact Gr.refl _ | assumption | refine Gr.alloc ?_ _ | refine Gr.drew ?_ | refine Gr.drewN ?_ _ | refine Gr.setCell ?_ (by simp <;> omega) _ | refine Gr.trans ?_ (by assumption))))).mono ?_); rintro e w2 ⟨A2, c2, rfl, hV, hb, hzz⟩; have HV := Lib.hid hV; clear hV hzz)
      | (go_at_call 28; (with_reducible refine (HR'.out _ _ _ (HV.out.sv.gr (by repeat (first | (with_reducible exact Gr.refl _) | (with_reducible assumption) | (with_reducible refine Gr.alloc ?_ _) | (with_reducible refine Gr.drew ?_) | (with_reducible refine Gr.drewN ?_ _) | (with_reducible refine Gr.setCell ?_ (by simp <;> omega) _) | (with_reducible refine Gr.trans ?_ (by with_reducible assumption)) | exact Gr.refl _ | assumption | refine Gr.alloc ?_ _ | refine Gr.drew ?_ | refine Gr.drewN ?_ _ | refine Gr.setCell ?_ (by simp <;> omega) _ | refine Gr.trans ?_ (by assumption))))).mono ?_); rintro e w3 ⟨rfl, hb3⟩; have hb := hb.trans (Gr.trans (by repeat (first | (with_reducible exact Gr.refl _) | (with_reducible assumption) | (with_reducible refine Gr.alloc ?_ _) | (with_reducible refine Gr.drew ?_) | (with_reducible refine Gr.drewN ?_ _) | (with_reducible refine Gr.setCell ?_ (by simp <;> omega) _) | (with_reducible refine Gr.trans ?_ (by with_reducible assumption)) | exact Gr.refl _ | assumption | refine Gr.alloc ?_ _ | refine Gr.drew ?_ | refine Gr.drewN ?_ _ | refine Gr.setCell ?_ (by simp <;> omega) _ | refine Gr.trans ?_ (by assumption))) hb3)))
  have e0 := hb.keep (p := ⟨w.heap.size, 0, none⟩) (v := .slice A n c) b0
  have e1 := hb.keep (p := ⟨w.heap.size, 1, none⟩) (v := .int .i64 nx) b1
  have e2 := hb.keep (p := ⟨w.heap.size + 1, 0, none⟩) (v := .int .i64 k) b2
  have e3 := hb.keep (p := ⟨w.heap.size + 1, 1, none⟩) (v := .int .i64 a) b3
  have e4 := hb.keep (p := ⟨w.heap.size + 1, 2, none⟩) (v := .int .i64 l) b4
  have e5 := hb.keep (p := ⟨w.heap.size + 1, 3, none⟩) (v := .string d) b5
  have G3 := Lib.hid (show Gr w w3 from G1.out.trans ((Gr.refl _).drew.trans hb))
  have hz3 : w.heap.size + 2 ≤ w3.heap.size := by have := Gr.size hb; simp at this; omega
  clear hb hb3 b0 b1 b2 b3 b4 b5 G1 HV hz
  generalize w3 = W3 at *
  go_upto_region 6 with (fail)
  go_cut [7, 8] (fun s7 s8 wx => SbC W3 gb nb nxb F s7 s8 wx)
  case first =>
    go_region_held3 (fun w' => w'.cell? ⟨w.heap.size, 0, none⟩ = some (.slice A n c) ∧ w'.cell? ⟨w.heap.size, 1, none⟩ = some (.int .i64 nx) ∧ w'.cell? ⟨w.heap.size + 1, 0, none⟩ = some (.int .i64 k) ∧ w'.cell? ⟨w.heap.size + 1, 1, none⟩ = some (.int .i64 a) ∧ w'.cell? ⟨w.heap.size + 1, 2, none⟩ = some (.int .i64 l) ∧ w'.cell? ⟨w.heap.size + 1, 3, none⟩ = some (.string d)) (((try go_split_ands); (repeat' apply And.intro) <;> ((try simp only [World.cell?_drew]); first | (with_reducible assumption) | (simp [go_sem]; done) | ((repeat (first | (refine keepFar ?_ (by first | (dsimp only; omega) | (simp; done) | (simp; omega))) | (refine (Gr.alloc (Gr.refl _) _).keep ?_))); (try simp only [World.cell?_drew]); first | (with_reducible assumption) | (refine hb.keep ?_; (try simp only [World.cell?_drew]); first | (with_reducible assumption) | (simp [go_sem]; done) | ((repeat (refine (Gr.alloc (Gr.refl _) _).keep ?_)); (try simp only [World.cell?_drew]); (with_reducible assumption))) | (simp [*, go_sem]; done)))))
      (first
        | (go_at_call 15; (with_reducible refine (HO.out _ (G3.out.trans (by repeat (first | (with_reducible exact Gr.refl _) | (with_reducible assumption) | (with_reducible refine Gr.alloc ?_ _) | (with_reducible refine Gr.drew ?_) | (with_reducible refine Gr.drewN ?_ _) | (with_reducible refine Gr.setCell ?_ (by simp <;> omega) _) | (with_reducible refine Gr.trans ?_ (by with_reducible assumption)) | exact Gr.refl _ | assumption | refine Gr.alloc ?_ _ | refine Gr.drew ?_ | refine Gr.drewN ?_ _ | refine Gr.setCell ?_ (by simp <;> omega) _ | refine Gr.trans ?_ (by assumption))))).mono ?_); rintro e w4 ⟨A2, c2, rfl, hV, hb, hz4⟩; have HV := Lib.hid hV; clear hV; obtain ⟨hc4, hf4⟩ := hb.cells; (try simp at hz4); have hz40 : W3.heap.size < w4.heap.size := (by omega))
        | (go_at_call 29; (with_reducible refine (HW'.out _ _ _ (HV.out.sv.gr (by repeat (first | (with_reducible exact Gr.refl _) | (with_reducible assumption) | (with_reducible refine Gr.alloc ?_ _) | (with_reducible refine Gr.drew ?_) | (with_reducible refine Gr.drewN ?_ _) | (with_reducible refine Gr.setCell ?_ (by simp <;> omega) _) | (with_reducible refine Gr.trans ?_ (by with_reducible assumption)) | exact Gr.refl _ | assumption | refine Gr.alloc ?_ _ | refine Gr.drew ?_ | refine Gr.drewN ?_ _ | refine Gr.setCell ?_ (by simp <;> omega) _ | refine Gr.trans ?_ (by assumption))))).mono ?_); rintro e w5 ⟨A3, c3, rfl, hV3, hb3⟩; have HV3 := Lib.hid hV3; clear hV3; obtain ⟨hc5, hf5⟩ := hb3.cells; have hz5 := Gr.size hb3; (try simp at hz5); have hb := hb.trans (Gr.trans (by repeat (first | (with_reducible exact Gr.refl _) | (with_reducible assumption) | (with_reducible refine Gr.alloc ?_ _) | (with_reducible refine Gr.drew ?_) | (with_reducible refine Gr.drewN ?_ _) | (with_reducible refine Gr.setCell ?_ (by simp <;> omega) _) | (with_reducible refine Gr.trans ?_ (by with_reducible assumption)) | exact Gr.refl _ | assumption | refine Gr.alloc ?_ _ | refine Gr.drew ?_ | refine Gr.drewN ?_ _ | refine Gr.setCell ?_ (by simp <;> omega) _ | refine Gr.trans ?_ (by assumption))) hb3)))
    all_goals
      go_wp2_with fail
      go_meet
      clear HR' HX' HW' HY' HO HF
      refine ⟨_, rfl, rfl, ?_, ⟨A3, c3, ?_, ?_, ?_, ?_⟩, ?_⟩
      · first | omega | (simp; omega)
      · first | (simp; done) | (simp; omega) | omega
      · simp [go_sem, *]
      · simp [go_sem, *]
      · first | (refine ((HV3.out.setLow ?_ _).setLow ?_ _).sv <;> first | (simp; done) | (simp; omega)) | (refine HV3.out.sv.gr ?_; exact (by repeat (first | (with_reducible exact Gr.refl _) | (with_reducible assumption) | (with_reducible refine Gr.alloc ?_ _) | (with_reducible refine Gr.drew ?_) | (with_reducible refine Gr.drewN ?_ _) | (with_reducible refine Gr.setCell ?_ (by simp <;> omega) _) | (with_reducible refine Gr.trans ?_ (by with_reducible assumption)) | exact Gr.refl _ | assumption | refine Gr.alloc ?_ _ | refine Gr.drew ?_ | refine Gr.drewN ?_ _ | refine Gr.setCell ?_ (by simp <;> omega) _ | refine Gr.trans ?_ (by assumption))))
      · exact (by repeat (first | (with_reducible exact Gr.refl _) | (with_reducible assumption) | (with_reducible refine Gr.alloc ?_ _) | (with_reducible refine Gr.drew ?_) | (with_reducible refine Gr.drewN ?_ _) | (with_reducible refine Gr.setCell ?_ (by simp <;> omega) _) | (with_reducible refine Gr.trans ?_ (by with_reducible assumption)) | exact Gr.refl _ | assumption | refine Gr.alloc ?_ _ | refine Gr.drew ?_ | refine Gr.drewN ?_ _ | refine Gr.setCell ?_ (by simp <;> omega) _ | refine Gr.trans ?_ (by assumption)))
  case rest =>
    obtain ⟨g, rfl, rfl, hg, ⟨A4, c4, hgl, v0, v1, hv⟩, hG⟩ := hcut
    have b0 := hG.keep (p := ⟨w.heap.size, 0, none⟩) (v := .slice A n c) e0
    have b1 := hG.keep (p := ⟨w.heap.size, 1, none⟩) (v := .int .i64 nx) e1
    have b2 := hG.keep (p := ⟨w.heap.size + 1, 0, none⟩) (v := .int .i64 k) e2
    have b3 := hG.keep (p := ⟨w.heap.size + 1, 1, none⟩) (v := .int .i64 a) e3
    have b4 := hG.keep (p := ⟨w.heap.size + 1, 2, none⟩) (v := .int .i64 l) e4
    have b5 := hG.keep (p := ⟨w.heap.size + 1, 3, none⟩) (v := .string d) e5
    have G4 := Lib.hid (G3.out.trans hG)
    have HV := Lib.hid hv
    have hz4 : w.heap.size + 2 ≤ wc.heap.size := by have := Gr.size hG; omega
    have hz5 : w.heap.size + 1 < wc.heap.size := by omega
    have hz6 : w.heap.size < wc.heap.size := by omega
    clear hv hG e0 e1 e2 e3 e4 e5 G3 HR' HW' hg hz3
    generalize wc = W4 at *
    go_upto_region 8 with (go_at_call 30; (with_reducible refine (HX'.out _ (G4.out.trans (by repeat (first | (with_reducible exact Gr.refl _) | (with_reducible assumption) | (with_reducible refine Gr.alloc ?_ _) | (with_reducible refine Gr.drew ?_) | (with_reducible refine Gr.drewN ?_ _) | (with_reducible refine Gr.setCell ?_ (by simp <;> omega) _) | (with_reducible refine Gr.trans ?_ (by with_reducible assumption)) | exact Gr.refl _ | assumption | refine Gr.alloc ?_ _ | refine Gr.drew ?_ | refine Gr.drewN ?_ _ | refine Gr.setCell ?_ (by simp <;> omega) _ | refine Gr.trans ?_ (by assumption))))).mono ?_); rintro e w6 ⟨A9, c9, rfl, -, hb⟩)
    have e0 := (hb.alloc (.cells #[.slice A9 0 c9, .int .i64 0, .int .i64 0, .string t, .int .i64 E] 39)).keep (p := ⟨w.heap.size, 0, none⟩) (v := .slice A n c) b0
    have e1 := (hb.alloc (.cells #[.slice A9 0 c9, .int .i64 0, .int .i64 0, .string t, .int .i64 E] 39)).keep (p := ⟨w.heap.size, 1, none⟩) (v := .int .i64 nx) b1
    have e2 := (hb.alloc (.cells #[.slice A9 0 c9, .int .i64 0, .int .i64 0, .string t, .int .i64 E] 39)).keep (p := ⟨w.heap.size + 1, 0, none⟩) (v := .int .i64 k) b2
    have e3 := (hb.alloc (.cells #[.slice A9 0 c9, .int .i64 0, .int .i64 0, .string t, .int .i64 E] 39)).keep (p := ⟨w.heap.size + 1, 1, none⟩) (v := .int .i64 a) b3
    have e4 := (hb.alloc (.cells #[.slice A9 0 c9, .int .i64 0, .int .i64 0, .string t, .int .i64 E] 39)).keep (p := ⟨w.heap.size + 1, 2, none⟩) (v := .int .i64 l) b4
    have e5 := (hb.alloc (.cells #[.slice A9 0 c9, .int .i64 0, .int .i64 0, .string t, .int .i64 E] 39)).keep (p := ⟨w.heap.size + 1, 3, none⟩) (v := .string d) b5
    have y0 := (hb.alloc (.cells #[.slice A9 0 c9, .int .i64 0, .int .i64 0, .string t, .int .i64 E] 39)).keep v0
    have y1 := (hb.alloc (.cells #[.slice A9 0 c9, .int .i64 0, .int .i64 0, .string t, .int .i64 E] 39)).keep v1
    have HV9 := Lib.hid (HV.out.gr (hb.alloc (.cells #[.slice A9 0 c9, .int .i64 0, .int .i64 0, .string t, .int .i64 E] 39)))
    have x0 : (w6.alloc (.cells #[.slice A9 0 c9, .int .i64 0, .int .i64 0, .string t, .int .i64 E] 39)).cell? ⟨w6.heap.size, 0, none⟩ = some (.slice A9 0 c9) := by simp [go_sem]
    have x1 : (w6.alloc (.cells #[.slice A9 0 c9, .int .i64 0, .int .i64 0, .string t, .int .i64 E] 39)).cell? ⟨w6.heap.size, 1, none⟩ = some (.int .i64 0) := by simp [go_sem]
    have x2 : (w6.alloc (.cells #[.slice A9 0 c9, .int .i64 0, .int .i64 0, .string t, .int .i64 E] 39)).cell? ⟨w6.heap.size, 2, none⟩ = some (.int .i64 0) := by simp [go_sem]
    have x3 : (w6.alloc (.cells #[.slice A9 0 c9, .int .i64 0, .int .i64 0, .string t, .int .i64 E] 39)).cell? ⟨w6.heap.size, 3, none⟩ = some (.string t) := by simp [go_sem]
    have x4 : (w6.alloc (.cells #[.slice A9 0 c9, .int .i64 0, .int .i64 0, .string t, .int .i64 E] 39)).cell? ⟨w6.heap.size, 4, none⟩ = some (.int .i64 E) := by simp [go_sem]
    have GW := Lib.hid (G4.out.trans (hb.alloc (.cells #[.slice A9 0 c9, .int .i64 0, .int .i64 0, .string t, .int .i64 E] 39)))
    clear hb b0 b1 b2 b3 b4 b5 v0 v1 HV G4
    generalize w6.alloc (.cells #[.slice A9 0 c9, .int .i64 0, .int .i64 0, .string t, .int .i64 E] 39) = W at *
    generalize w6.heap.size = g6 at *
    go_region_held3 (fun w' => (w'.cell? ⟨w.heap.size, 0, none⟩ = some (.slice A n c) ∧ w'.cell? ⟨w.heap.size, 1, none⟩ = some (.int .i64 nx) ∧ w'.cell? ⟨w.heap.size + 1, 0, none⟩ = some (.int .i64 k) ∧ w'.cell? ⟨w.heap.size + 1, 1, none⟩ = some (.int .i64 a) ∧ w'.cell? ⟨w.heap.size + 1, 2, none⟩ = some (.int .i64 l) ∧ w'.cell? ⟨w.heap.size + 1, 3, none⟩ = some (.string d)) ∧ w'.cell? ⟨g, 0, none⟩ = some (.slice A4 nb c4) ∧ w'.cell? ⟨g, 1, none⟩ = some (.int .i64 nxb) ∧ w'.cell? ⟨g6, 3, none⟩ = some (.string t) ∧ w'.cell? ⟨g6, 4, none⟩ = some (.int .i64 E)) (((try go_split_ands); (repeat' apply And.intro) <;> ((try simp only [World.cell?_drew]); first | (with_reducible assumption) | (simp [go_sem]; done) | ((repeat (first | (refine keepFar ?_ (by first | (dsimp only; omega) | (simp; done) | (simp; omega))) | (refine (Gr.alloc (Gr.refl _) _).keep ?_))); (try simp only [World.cell?_drew]); first | (with_reducible assumption) | (refine hb.keep ?_; (try simp only [World.cell?_drew]); first | (with_reducible assumption) | (simp [go_sem]; done) | ((repeat (refine (Gr.alloc (Gr.refl _) _).keep ?_)); (try simp only [World.cell?_drew]); (with_reducible assumption))) | (simp [*, go_sem]; done)))))
      (first
        | (go_at_call 31; (with_reducible refine (HY'.out _ (GW.out.trans (by repeat (first | (with_reducible exact Gr.refl _) | (with_reducible assumption) | (with_reducible refine Gr.alloc ?_ _) | (with_reducible refine Gr.drew ?_) | (with_reducible refine Gr.drewN ?_ _) | (with_reducible refine Gr.setCell ?_ (by simp <;> omega) _) | (with_reducible refine Gr.trans ?_ (by with_reducible assumption)) | exact Gr.refl _ | assumption | refine Gr.alloc ?_ _ | refine Gr.drew ?_ | refine Gr.drewN ?_ _ | refine Gr.setCell ?_ (by simp <;> omega) _ | refine Gr.trans ?_ (by assumption))))).mono ?_); rintro e w8 ⟨A8, c8, rfl, hV8, hb⟩; have HV8 := Lib.hid hV8; clear hV8)
        | (go_at_call 22; (with_reducible refine (is_any A4 A8 nb c4 c8 gb nxb F 0 ⟨#[]⟩ _ (HV9.out.gr (by repeat (first | (with_reducible exact Gr.refl _) | (with_reducible assumption) | (with_reducible refine Gr.alloc ?_ _) | (with_reducible refine Gr.drew ?_) | (with_reducible refine Gr.drewN ?_ _) | (with_reducible refine Gr.setCell ?_ (by simp <;> omega) _) | (with_reducible refine Gr.trans ?_ (by with_reducible assumption)) | exact Gr.refl _ | assumption | refine Gr.alloc ?_ _ | refine Gr.drew ?_ | refine Gr.drewN ?_ _ | refine Gr.setCell ?_ (by simp <;> omega) _ | refine Gr.trans ?_ (by assumption)))) (HV8.out.gr (by repeat (first | (with_reducible exact Gr.refl _) | (with_reducible assumption) | (with_reducible refine Gr.alloc ?_ _) | (with_reducible refine Gr.drew ?_) | (with_reducible refine Gr.drewN ?_ _) | (with_reducible refine Gr.setCell ?_ (by simp <;> omega) _) | (with_reducible refine Gr.trans ?_ (by with_reducible assumption)) | exact Gr.refl _ | assumption | refine Gr.alloc ?_ _ | refine Gr.drew ?_ | refine Gr.drewN ?_ _ | refine Gr.setCell ?_ (by simp <;> omega) _ | refine Gr.trans ?_ (by assumption))))).mono ?_); rintro e w9 ⟨rfl, hb9⟩; have hb := hb.trans (Gr.trans (by repeat (first | (with_reducible exact Gr.refl _) | (with_reducible assumption) | (with_reducible refine Gr.alloc ?_ _) | (with_reducible refine Gr.drew ?_) | (with_reducible refine Gr.drewN ?_ _) | (with_reducible refine Gr.setCell ?_ (by simp <;> omega) _) | (with_reducible refine Gr.trans ?_ (by with_reducible assumption)) | exact Gr.refl _ | assumption | refine Gr.alloc ?_ _ | refine Gr.drew ?_ | refine Gr.drewN ?_ _ | refine Gr.setCell ?_ (by simp <;> omega) _ | refine Gr.trans ?_ (by assumption))) hb9)))
    all_goals
      go_wp2
      go_ret
      exact ⟨ret_bool (by simp), GW.out.trans (by repeat (first | (with_reducible exact Gr.refl _) | (with_reducible assumption) | (with_reducible refine Gr.alloc ?_ _) | (with_reducible refine Gr.drew ?_) | (with_reducible refine Gr.drewN ?_ _) | (with_reducible refine Gr.setCell ?_ (by simp <;> omega) _) | (with_reducible refine Gr.trans ?_ (by with_reducible assumption)) | exact Gr.refl _ | assumption | refine Gr.alloc ?_ _ | refine Gr.drew ?_ | refine Gr.drewN ?_ _ | refine Gr.setCell ?_ (by simp <;> omega) _ | refine Gr.trans ?_ (by assumption)))⟩

/-- Both sides' ReadAt, in all cases. -/
theorem readAt_all (A : Option Addr) (n c : Nat) (gs : List (Int × ByteArray)) (nx k a l : Int) (hl : l ≤ 9223372036854775807) (w : World) (hs : Sv w A n c 2 (sg gs)) (hb : Sh gs) :
    ∃ (t : ByteArray) (E : Int), (∀ W A c, Sv W A n c 2 (sg gs) → Calls Try.prog 28 #[.agg #[.slice A n c, .int .i64 nx], .agg #[.int .i64 k, .int .i64 a], .int .i64 l] W fun e w' => e = .returned (.tuple #[.string t, .int .i64 E]) ∧ Gr W w') ∧ (∀ W, Gr w W → Calls Try.prog 30 #[.agg #[.slice A n c, .int .i64 nx], .agg #[.int .i64 k, .int .i64 a], .int .i64 l] W (AnR [] 0 0 0 t E W)) := by
  by_cases hE : iwE nx gs k a l = 0
  · obtain ⟨h1, h2⟩ := iwE_zero hE
    have hr := rgB_iff.1 h2
    obtain ⟨i, rfl⟩ := Int.eq_ofNat_of_zero_le hr.1
    obtain ⟨j, rfl⟩ := Int.eq_ofNat_of_zero_le hr.2.1
    exact ⟨_, 0, fun W A c hv => ReadAt_yes A n c gs nx k i j hE hl W hv hb, fun W hg => refReadAt_yes A n c gs nx k i j hE W (hs.gr hg) hb⟩
  · exact ⟨⟨#[]⟩, _, fun W A c hv => ReadAt_no A n c gs nx k a l _ rfl hE hl W hv hb, fun W hg => refReadAt_no A n c gs nx k a l _ rfl hE W (hs.gr hg) hb⟩
/-- Both sides' Written, in all cases. -/
theorem written_all (A : Option Addr) (n c : Nat) (gs : List (Int × ByteArray)) (nx k a : Int) (d : ByteArray) (hd : d.size ≤ maxLen) (w : World) (hs : Sv w A n c 2 (sg gs)) (hb : Sh gs) :
    ∃ (gb : List (Int × ByteArray)) (nb : Nat) (nxb F : Int), (∀ W A c, Sv W A n c 2 (sg gs) → Calls Try.prog 29 #[.agg #[.slice A n c, .int .i64 nx], .agg #[.int .i64 k, .int .i64 a], .string d] W (Wr2 gb nb nxb F W)) ∧ (∀ W, Gr w W → Calls Try.prog 31 #[.agg #[.slice A n c, .int .i64 nx], .agg #[.int .i64 k, .int .i64 a], .string d] W (AnR gb nb nxb 0 ⟨#[]⟩ F W)) := by
  by_cases hE : iwE nx gs k a d.size = 0
  · obtain ⟨h1, h2⟩ := iwE_zero hE
    have hr := rgB_iff.1 h2
    obtain ⟨i, rfl⟩ := Int.eq_ofNat_of_zero_le hr.1
    exact ⟨_, n, nx, 0, fun W A c hv => Written_yes A n c gs nx k i d hd hE W hv hb, fun W hg => refWritten_yes A n c gs nx k i d hE W (hs.gr hg) hb⟩
  · exact ⟨[], 0, 0, _, fun W A c hv => Written_no A n c gs nx k a _ d hd rfl hE W hv hb, fun W hg => refWritten_no A n c gs nx k a _ d hd rfl hE W (hs.gr hg) hb⟩

theorem law (A : Option Addr) (n c : Nat) (gs : List (Int × ByteArray)) (nx k a l : Int) (d : ByteArray) (w : World) (hs : Sv w A n c 2 (sg gs)) (hb : Sh gs) (_hx : (Lit.int .i64 nx).wf = true) (wl : (Lit.int .i64 l).wf = true) (hd : d.size ≤ maxLen) :
    Calls Try.prog 6 #[.agg #[.slice A n c, .int .i64 nx], .agg #[.int .i64 k, .int .i64 a, .int .i64 l, .string d]] w fun e w' => e = .returned (.bool true) ∧ Gr w w' := by
  rcases Bool.eq_false_or_eq_true (fewB gs) with hf | hf
  rotate_left
  · exact sb_large A n c gs nx k a l d w hs hb (.inl hf)
  by_cases hd4 : (d.size : Int) ≤ 400
  rotate_left
  · exact sb_large A n c gs nx k a l d w hs hb (.inr ⟨hf, by omega⟩)
  have hn : n ≤ 1000000 := by have := (few_yes hf).1; have := hs.segs; omega
  obtain ⟨t, E, h1, h2⟩ := readAt_all A n c gs nx k a l (wf64 wl).2 w hs hb
  obtain ⟨gb, nb, nxb, F, h3, h4⟩ := written_all A n c gs nx k a d hd w hs hb
  exact sb_walk A n c gs gb nx k a l E nxb F nb d t w hs hb hf hd4 hn h1 h2 h3 h4

theorem cells_span : Try.prog.cellsOf 48 = 4 := by kernel_rfl
theorem cells_addr : Try.prog.cellsOf 46 = 2 := by kernel_rfl
theorem cells_int : Try.prog.cellsOf 3 = 1 := by kernel_rfl
theorem cells_str : Try.prog.cellsOf 9 = 1 := by kernel_rfl
section
variable {H : Type} {enc : TypeId × Value → H} {w : World} {base : Nat} {held : Bool}
set_option maxRecDepth 100000 in
theorem open_span {r : Reach} {b0 : Nat} {v : Value} {d : DataW H} {p : List MemPlace} (hv : Value.okWide Try.prog w r b0 48 v) (h : DataW.Trod enc Try.prog w base (fun _ => true) held 48 v d p) :
    ∃ (k a l : Int) (s : ByteArray), v = .agg #[.int .i64 k, .int .i64 a, .int .i64 l, .string s] ∧ (Lit.int .i64 l).wf = true ∧ s.size ≤ maxLen := by
  obtain ⟨cs, rfl, hsz⟩ := okWide_struct Try.underlying48 hv
  obtain ⟨c0, c1, c2, c3, rfl⟩ := array4 (hsz.trans cells_span)
  obtain ⟨fuel, hf⟩ := h
  obtain ⟨xs, m, hm, hxy, _, hxl, hq⟩ := DataW.trod_struct Try.underlying48 hf
  match xs, hxl with
  | [y0, y1, y2], _ =>
    have g0 := hq 0 _ rfl
    have g1 := hq 1 _ rfl
    have g2 := hq 2 _ rfl
    simp [cells_addr, cells_int, cells_str, Value.cells] at g0 g1 g2
    obtain ⟨z0, z1, m', hx', _, i0, i1⟩ := trod_struct2 Try.underlying46 g0
    simp [cells_int] at i0 i1
    obtain ⟨k, e0, -, -⟩ := DataW.trod_int Try.underlying3 i0
    obtain ⟨a, e1, -, -⟩ := DataW.trod_int Try.underlying3 i1
    obtain ⟨l, e2, -, wl⟩ := DataW.trod_int Try.underlying3 g1
    obtain ⟨s, e3, -, ws⟩ := DataW.trod_string Try.underlying9 g2
    simp at e0 e1 e2 e3
    subst e0 e1 e2 e3
    exact ⟨k, a, l, s, rfl, wl, ws⟩
end
set_option maxRecDepth 100000 in
theorem lifted (os : Os) (started : os.Started) (H : Type) (enc : TypeId × Value → H) :
    ReturnsInHanded {} Try.checked os 6 .any (Rows.segmentBytesSpec.pre6 enc Try.prog Try.f6 Rows.segmentBytesRow.domain false) (Rows.segmentBytesSpec.post enc Try.prog Try.f6 false true false false) := by
  refine returnsInHanded_of_change (C := Try.checked) own_knob started (by kernel_rfl) Try.func6
    (ChangeSpec.witness6 (enc := enc) (C := Try.checked) false ⟨#[], #[.agg #[.slice none 0 0, .int .i64 0], .agg #[.int .i64 0, .int .i64 0, .int .i64 0, .string ⟨#[]⟩]], []⟩ 8 (by kernel_rfl) (by kernel_rfl) (by kernel_rfl) (by kernel_rfl)) ?_
  intro W base args ds gs before hval0 hW hcnd _
  have hval : ∀ (j : Nat) t v, Try.f6.params[j]? = some t → args[j]? = some v → Value.okWide Try.prog W .any base t v := hval0
  have hW' := hW
  obtain ⟨p, q, hA0, hV, rfl, hfz, hnd⟩ := hW
  have hA : DataW.TrodAll enc Try.prog W 0 (fun _ => true) true Try.f6.params.toList args.toList ds p := hA0
  rw [Try.params6] at hA hval
  obtain ⟨v0, vs0, d0, ds0, p0, q0, hargs, rfl, rfl, h0, r0⟩ := trodAll_cons hA
  obtain ⟨v1, vs1, d1, ds1, p1, q1, hargs1, rfl, rfl, h1, r1⟩ := trodAll_cons r0
  obtain ⟨hvz, rfl, rfl⟩ := trodAll_nil r1
  rw [hvz] at hargs1
  rw [hargs1] at hargs
  obtain rfl : args = #[v0, v1] := by cases args; simp_all
  obtain ⟨rfl, rfl⟩ := trodVars_none hV
  obtain ⟨A, n, c, gs, nx, rfl, hs, hb, hx⟩ := open_sto (hval 0 24 v0 rfl rfl) h0
  obtain ⟨k, a, l, s, rfl, wl, ws⟩ := open_span (hval 1 48 v1 rfl rfl) h1
  refine (law A n c gs nx k a l s W hs hb hx wl ws).mono fun e W' ⟨he, hg⟩ => ?_
  subst he
  have hB : Below W.heap.size W W' := hg
  have hlt := fun x hx => hW'.lt x hx
  have hst := fun (sp' : Nat → Bool) => trodAll_stay laidOut (sp' := sp') (by kernel_rfl) hA0 (fun x hx => hB.same (hlt x (List.mem_append_left _ hx)))
  refine ⟨_, rfl, _, _, _, [], _, [], hW', (trodAll_cons_mk (shut_bool Try.underlying4 _) trodAll_mk0), hst _ (fun x hx => by simpa using hlt x (List.mem_append_left _ hx)), rfl, ?_, fun h => by cases h⟩
  exact World.keptBut_mono (fun x hx => ⟨hx, Or.inr (by simpa using hx)⟩) (hB.frame (· ∈ _))

theorem proved : Rows.SegmentBytesSaid :=
  OpenClaim.holds_of_wide 6 Try.f6 rfl rfl rfl rfl rfl rfl rfl ⟨rfl, rfl, rfl, rfl, rfl⟩ rfl rfl rfl rfl rfl (by kernel_rfl) Try.func6 (by kernel_rfl)
    (of_decide_eq_true (by kernel_rfl)) (by unfold Func.isWrapper; first | (rw [if_pos (by decide +kernel)]; kernel_rfl) | (rw [if_neg (by decide +kernel)]; exact ⟨rfl, rfl⟩))
    (fun os started H enc _ => lifted os started H enc)
#print axioms proved
end Go.Proofs.Ythbinjoiljddkaa.lawBytes
