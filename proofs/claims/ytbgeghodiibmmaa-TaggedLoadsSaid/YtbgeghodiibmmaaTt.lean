/- TaggedLoads' walk. -/
import Derived.Test.YtbgeghodiibmmaaTs
namespace Go.Proofs.Ytbgeghodiibmmaa
set_option linter.unusedSimpArgs false
set_option linter.unusedVariables false
open Go.RowKit

theorem PtErr_is (k g o u C : Int) (hC : ptErr k g o u = C) (w : World) :
    Calls Try.prog 11 #[.agg #[.int .i64 k, .int .i64 g, .int .i64 o, .int .i64 u]] w fun e w' => e = .returned (.int .i64 C) ∧ Gr w w' := by
  subst hC
  exact PointerErr_any k g o u w
/-- What the two calls return: all cases. -/
def TlH (x y : ByteArray) (n m : Nat) (bs ys : List Bool) (a k1 g1 o1 u1 f1 wf pk pg po pu : Int) : Prop :=
  (∃ C, ckErr x bs = C ∧ C ≠ 0 ∧ f1 = C ∧ k1 = 0 ∧ g1 = 0 ∧ o1 = 0 ∧ u1 = 0 ∧ wf = C ∧ y.size = 0 ∧ m = 0) ∨
  (ckErr x bs = 0 ∧ isQ x a = false ∧ f1 = 3 ∧ k1 = 0 ∧ g1 = 0 ∧ o1 = 0 ∧ u1 = 0 ∧ wf = 3 ∧ y.size = 0 ∧ m = 0) ∨
  (ckErr x bs = 0 ∧ isQ x a = true ∧
    (∀ W A c, Sv W A n c 1 (bv bs) → Calls Try.prog 34 #[.agg #[.string x, .slice A n c], .int .i64 a] W (PtR k1 g1 o1 u1 f1 W)) ∧
    ((∃ D, ptErr pk pg po pu = D ∧ D ≠ 0 ∧ wf = D ∧ y.size = 0 ∧ m = 0) ∨
     (ptErr pk pg po pu = 0 ∧ wf = 0 ∧ (∀ W A c, Sv W A n c 1 (bv bs) → Calls Try.prog 35 #[.agg #[.string x, .slice A n c], .int .i64 a, .agg #[.int .i64 pk, .int .i64 pg, .int .i64 po, .int .i64 pu]] W (StR y m ys W)))))

set_option maxHeartbeats 4000000 in
set_option maxRecDepth 100000 in
theorem tl_walk (x y : ByteArray) (A : Option Addr) (n c m : Nat) (bs ys : List Bool) (a k1 g1 o1 u1 f1 wf pk pg po pu : Int) (w : World) (hs : Sv w A n c 1 (bv bs)) (hx : x.size ≤ maxLen) (hn : n ≤ 1000000)
    (hfew : fewB x n = true)
    (HR : ∀ W A c, Sv W A n c 1 (bv bs) → Calls Try.prog 31 #[.agg #[.string x, .slice A n c], .int .i64 a] W (PtR k1 g1 o1 u1 f1 W))
    (HW : ∀ W A c, Sv W A n c 1 (bv bs) → Calls Try.prog 32 #[.agg #[.string x, .slice A n c], .int .i64 a, .agg #[.int .i64 pk, .int .i64 pg, .int .i64 po, .int .i64 pu]] W (StE y m ys wf W))
    (HH : TlH x y n m bs ys a k1 g1 o1 u1 f1 wf pk pg po pu) :
    Calls Try.prog 6 #[.agg #[.string x, .slice A n c], .int .i64 a, .agg #[.int .i64 pk, .int .i64 pg, .int .i64 po, .int .i64 pu]] w fun e w' => e = .returned (.bool true) ∧ Gr w w' := by
  have HS := Lib.hid hs
  have HR' := Lib.hid HR
  have HW' := Lib.hid HW
  have H := Lib.hid HH
  clear hs HR HW HH
  go_enter Try.func6, Try.ntmps6
  go_upto_region 5 with (first | (go_at_call 10; (with_reducible refine (awake_any _).mono ?_); rintro e w1 ⟨rfl, hb⟩; obtain ⟨hc, hf⟩ := gcells hb (w.heap.size + 2) (by first | exact hz | omega | (simp; done) | (simp; omega)); have hz : w.heap.size + 2 ≤ w1.heap.size := (by have h := hb.size; (try simp at h); omega); have hz0 : w.heap.size < w1.heap.size := (by omega)) | (go_at_call 17; (with_reducible refine (few_any x A n c _).mono ?_); rintro e w1 ⟨rfl, hb⟩; obtain ⟨hc, hf⟩ := gcells hb (w.heap.size + 2) (by first | exact hz | omega | (simp; done) | (simp; omega)); have hz : w.heap.size + 2 ≤ w1.heap.size := (by have h := hb.size; (try simp at h); omega); have hz0 : w.heap.size < w1.heap.size := (by omega)))
  have q0 : w1.cell? ⟨w.heap.size, 0, none⟩ = some (.string x) ∧ w1.cell? ⟨w.heap.size, 1, none⟩ = some (.slice A n c) ∧ w1.cell? ⟨w.heap.size + 1, 0, none⟩ = some (.int .i64 pk) ∧ w1.cell? ⟨w.heap.size + 1, 1, none⟩ = some (.int .i64 pg) ∧ w1.cell? ⟨w.heap.size + 1, 2, none⟩ = some (.int .i64 po) ∧ w1.cell? ⟨w.heap.size + 1, 3, none⟩ = some (.int .i64 pu) := by refine ⟨?_, ?_, ?_, ?_, ?_, ?_⟩ <;> simp [go_sem, *]
  have G1 := Lib.hid (show Gr w w1 from (by repeat (first | (with_reducible exact Gr.refl _) | (with_reducible assumption) | (with_reducible refine Gr.alloc ?_ _) | (with_reducible refine Gr.drew ?_) | (with_reducible refine Gr.drewN ?_ _) | (with_reducible refine Gr.setCell ?_ (by simp <;> omega) _) | (with_reducible refine Gr.trans ?_ (by with_reducible assumption)) | exact Gr.refl _ | assumption | refine Gr.alloc ?_ _ | refine Gr.drew ?_ | refine Gr.drewN ?_ _ | refine Gr.setCell ?_ (by simp <;> omega) _ | refine Gr.trans ?_ (by assumption))))
  obtain ⟨b0, b1, b2, b3, b4, b5⟩ := q0
  clear hc hf hb hz0
  generalize w1 = W1 at *
  have hzz : w.heap.size + 1 < W1.heap.size := by omega
  have hzy : w.heap.size < W1.heap.size := by omega
  go_upto_region 6 with (first
      | (go_at_call 19; (with_reducible refine (OwnStorage_any x A n c bs _ (HS.out.gr (G1.out.trans (by repeat (first | (with_reducible exact Gr.refl _) | (with_reducible assumption) | (with_reducible refine Gr.alloc ?_ _) | (with_reducible refine Gr.drew ?_) | (with_reducible refine Gr.drewN ?_ _) | (with_reducible refine Gr.setCell ?_ (by simp <;> omega) _) | (with_reducible refine Gr.trans ?_ (by with_reducible assumption)) | exact Gr.refl _ | assumption | refine Gr.alloc ?_ _ | refine Gr.drew ?_ | refine Gr.drewN ?_ _ | refine Gr.setCell ?_ (by simp <;> omega) _ | refine Gr.trans ?_ (by assumption))))) hn).mono ?_); rintro e w2 ⟨A2, c2, rfl, hV, hb⟩; have HV := Lib.hid hV; clear hV)
      | (go_at_call 31; (with_reducible refine (HR'.out _ _ _ (HV.out.sv.gr (by repeat (first | (with_reducible exact Gr.refl _) | (with_reducible assumption) | (with_reducible refine Gr.alloc ?_ _) | (with_reducible refine Gr.drew ?_) | (with_reducible refine Gr.drewN ?_ _) | (with_reducible refine Gr.setCell ?_ (by simp <;> omega) _) | (with_reducible refine Gr.trans ?_ (by with_reducible assumption)) | exact Gr.refl _ | assumption | refine Gr.alloc ?_ _ | refine Gr.drew ?_ | refine Gr.drewN ?_ _ | refine Gr.setCell ?_ (by simp <;> omega) _ | refine Gr.trans ?_ (by assumption))))).mono ?_); rintro e w3 ⟨rfl, hb3⟩; have hb := hb.trans (Gr.trans (by repeat (first | (with_reducible exact Gr.refl _) | (with_reducible assumption) | (with_reducible refine Gr.alloc ?_ _) | (with_reducible refine Gr.drew ?_) | (with_reducible refine Gr.drewN ?_ _) | (with_reducible refine Gr.setCell ?_ (by simp <;> omega) _) | (with_reducible refine Gr.trans ?_ (by with_reducible assumption)) | exact Gr.refl _ | assumption | refine Gr.alloc ?_ _ | refine Gr.drew ?_ | refine Gr.drewN ?_ _ | refine Gr.setCell ?_ (by simp <;> omega) _ | refine Gr.trans ?_ (by assumption))) hb3)))
  have b0' := (hb.alloc (.cells #[.int .i64 k1, .int .i64 g1, .int .i64 o1, .int .i64 u1] 25)).keep b0
  have b1' := (hb.alloc (.cells #[.int .i64 k1, .int .i64 g1, .int .i64 o1, .int .i64 u1] 25)).keep b1
  have b2' := (hb.alloc (.cells #[.int .i64 k1, .int .i64 g1, .int .i64 o1, .int .i64 u1] 25)).keep b2
  have b3' := (hb.alloc (.cells #[.int .i64 k1, .int .i64 g1, .int .i64 o1, .int .i64 u1] 25)).keep b3
  have b4' := (hb.alloc (.cells #[.int .i64 k1, .int .i64 g1, .int .i64 o1, .int .i64 u1] 25)).keep b4
  have b5' := (hb.alloc (.cells #[.int .i64 k1, .int .i64 g1, .int .i64 o1, .int .i64 u1] 25)).keep b5
  have q0 : (w3.alloc (.cells #[.int .i64 k1, .int .i64 g1, .int .i64 o1, .int .i64 u1] 25)).cell? ⟨w3.heap.size, 0, none⟩ = some (.int .i64 k1) := by simp
  have q1 : (w3.alloc (.cells #[.int .i64 k1, .int .i64 g1, .int .i64 o1, .int .i64 u1] 25)).cell? ⟨w3.heap.size, 1, none⟩ = some (.int .i64 g1) := by simp
  have q2 : (w3.alloc (.cells #[.int .i64 k1, .int .i64 g1, .int .i64 o1, .int .i64 u1] 25)).cell? ⟨w3.heap.size, 2, none⟩ = some (.int .i64 o1) := by simp
  have q3 : (w3.alloc (.cells #[.int .i64 k1, .int .i64 g1, .int .i64 o1, .int .i64 u1] 25)).cell? ⟨w3.heap.size, 3, none⟩ = some (.int .i64 u1) := by simp
  have G3 := Lib.hid (show Gr w (w3.alloc (.cells #[.int .i64 k1, .int .i64 g1, .int .i64 o1, .int .i64 u1] 25)) from (G1.out.trans hb).alloc _)
  have hz3 : w.heap.size + 2 ≤ w3.heap.size := by have := Gr.size hb; omega
  have hz7 : w3.heap.size < (w3.alloc (.cells #[.int .i64 k1, .int .i64 g1, .int .i64 o1, .int .i64 u1] 25)).heap.size := by simp
  clear hb hb3 b0 b1 b2 b3 b4 b5 G1 HV hz hzz hzy
  generalize w3.alloc (.cells #[.int .i64 k1, .int .i64 g1, .int .i64 o1, .int .i64 u1] 25) = W3 at *
  generalize w3.heap.size = g7 at *
  go_cut [9, 10] (fun s9 s10 wx => TbC W3 y m ys wf s9 s10 wx)
  case first =>
    go_region_held3 (fun w' => w'.cell? ⟨w.heap.size, 0, none⟩ = some (.string x) ∧ w'.cell? ⟨w.heap.size, 1, none⟩ = some (.slice A n c) ∧ w'.cell? ⟨w.heap.size + 1, 0, none⟩ = some (.int .i64 pk) ∧ w'.cell? ⟨w.heap.size + 1, 1, none⟩ = some (.int .i64 pg) ∧ w'.cell? ⟨w.heap.size + 1, 2, none⟩ = some (.int .i64 po) ∧ w'.cell? ⟨w.heap.size + 1, 3, none⟩ = some (.int .i64 pu)) (((try go_split_ands); (repeat' apply And.intro) <;> ((try simp only [World.cell?_drew]); first | (with_reducible assumption) | (simp [go_sem]; done) | ((repeat (first | (refine keepFar ?_ (by first | (dsimp only; omega) | (simp; done) | (simp; omega))) | (refine (Gr.alloc (Gr.refl _) _).keep ?_))); (try simp only [World.cell?_drew]); first | (with_reducible assumption) | (refine hb.keep ?_; (try simp only [World.cell?_drew]); first | (with_reducible assumption) | (simp [go_sem]; done) | ((repeat (refine (Gr.alloc (Gr.refl _) _).keep ?_)); (try simp only [World.cell?_drew]); (with_reducible assumption))) | (simp [*, go_sem]; done)))))
      (first
        | (go_at_call 19; (with_reducible refine (OwnStorage_more x A n c bs _ (HS.out.gr (G3.out.trans (by repeat (first | (with_reducible exact Gr.refl _) | (with_reducible assumption) | (with_reducible refine Gr.alloc ?_ _) | (with_reducible refine Gr.drew ?_) | (with_reducible refine Gr.drewN ?_ _) | (with_reducible refine Gr.setCell ?_ (by simp <;> omega) _) | (with_reducible refine Gr.trans ?_ (by with_reducible assumption)) | exact Gr.refl _ | assumption | refine Gr.alloc ?_ _ | refine Gr.drew ?_ | refine Gr.drewN ?_ _ | refine Gr.setCell ?_ (by simp <;> omega) _ | refine Gr.trans ?_ (by assumption))))) hn).mono ?_); rintro e w4 ⟨⟨A2, c2, rfl, hV, hb⟩, hz4⟩; have HV := Lib.hid hV; clear hV; obtain ⟨hc4, hf4⟩ := hb.cells; (try simp at hz4); have hz40 : W3.heap.size < w4.heap.size := (by omega))
        | (go_at_call 32; (with_reducible refine (HW'.out _ _ _ (HV.out.sv.gr (by repeat (first | (with_reducible exact Gr.refl _) | (with_reducible assumption) | (with_reducible refine Gr.alloc ?_ _) | (with_reducible refine Gr.drew ?_) | (with_reducible refine Gr.drewN ?_ _) | (with_reducible refine Gr.setCell ?_ (by simp <;> omega) _) | (with_reducible refine Gr.trans ?_ (by with_reducible assumption)) | exact Gr.refl _ | assumption | refine Gr.alloc ?_ _ | refine Gr.drew ?_ | refine Gr.drewN ?_ _ | refine Gr.setCell ?_ (by simp <;> omega) _ | refine Gr.trans ?_ (by assumption))))).mono ?_); rintro e w5 ⟨A3, c3, rfl, hV3, hb3⟩; have HV3 := Lib.hid hV3; clear hV3; obtain ⟨hc5, hf5⟩ := hb3.cells; have hz5 := Gr.size hb3; (try simp at hz5); have hb := hb.trans (Gr.trans (by repeat (first | (with_reducible exact Gr.refl _) | (with_reducible assumption) | (with_reducible refine Gr.alloc ?_ _) | (with_reducible refine Gr.drew ?_) | (with_reducible refine Gr.drewN ?_ _) | (with_reducible refine Gr.setCell ?_ (by simp <;> omega) _) | (with_reducible refine Gr.trans ?_ (by with_reducible assumption)) | exact Gr.refl _ | assumption | refine Gr.alloc ?_ _ | refine Gr.drew ?_ | refine Gr.drewN ?_ _ | refine Gr.setCell ?_ (by simp <;> omega) _ | refine Gr.trans ?_ (by assumption))) hb3)))
    all_goals
      go_wp2_with fail
      go_meet
      clear HR' HW' HS
      refine ⟨_, rfl, rfl, ?_, ⟨A3, c3, ?_, ?_, ?_, ?_⟩, ?_⟩
      · first | omega | (simp; omega)
      · first | (simp; done) | (simp; omega) | omega
      · simp [go_sem, *]
      · simp [go_sem, *]
      · first | (refine ((HV3.out.setLow ?_ _).setLow ?_ _).sv <;> first | (simp; done) | (simp; omega)) | (refine HV3.out.sv.gr ?_; exact (by repeat (first | (with_reducible exact Gr.refl _) | (with_reducible assumption) | (with_reducible refine Gr.alloc ?_ _) | (with_reducible refine Gr.drew ?_) | (with_reducible refine Gr.drewN ?_ _) | (with_reducible refine Gr.setCell ?_ (by simp <;> omega) _) | (with_reducible refine Gr.trans ?_ (by with_reducible assumption)) | exact Gr.refl _ | assumption | refine Gr.alloc ?_ _ | refine Gr.drew ?_ | refine Gr.drewN ?_ _ | refine Gr.setCell ?_ (by simp <;> omega) _ | refine Gr.trans ?_ (by assumption))))
      · exact (by repeat (first | (with_reducible exact Gr.refl _) | (with_reducible assumption) | (with_reducible refine Gr.alloc ?_ _) | (with_reducible refine Gr.drew ?_) | (with_reducible refine Gr.drewN ?_ _) | (with_reducible refine Gr.setCell ?_ (by simp <;> omega) _) | (with_reducible refine Gr.trans ?_ (by with_reducible assumption)) | exact Gr.refl _ | assumption | refine Gr.alloc ?_ _ | refine Gr.drew ?_ | refine Gr.drewN ?_ _ | refine Gr.setCell ?_ (by simp <;> omega) _ | refine Gr.trans ?_ (by assumption)))
  case rest =>
    obtain ⟨g, rfl, rfl, hg, ⟨A4, c4, hgl, v0, v1, hv⟩, hG⟩ := hcut
    have b0 := hG.keep b0'
    have b1 := hG.keep b1'
    have b2 := hG.keep b2'
    have b3 := hG.keep b3'
    have b4 := hG.keep b4'
    have b5 := hG.keep b5'
    have p0 := hG.keep q0
    have p1 := hG.keep q1
    have p2 := hG.keep q2
    have p3 := hG.keep q3
    have G4 := Lib.hid (G3.out.trans hG)
    have hz0 := Gr.size hG
    have hz4 : w.heap.size + 1 < wc.heap.size := by omega
    have hz5 : w.heap.size < wc.heap.size := by omega
    have hz11 : g7 < wc.heap.size := by omega
    have HV := Lib.hid hv
    clear hv hG b0' b1' b2' b3' b4' b5' q0 q1 q2 q3 G3 HR' HW' hg hz3 hz7 hz0
    generalize wc = W4 at *
    rcases H.out with ⟨C, hC, hC0, rfl, rfl, rfl, rfl, rfl, rfl, hy, rfl⟩ | ⟨hC, hq, rfl, rfl, rfl, rfl, rfl, rfl, hy, rfl⟩ | ⟨hC, hq, hld, hst⟩
    · have e0 : (wf == 0) = false := by simp [hC0]
      have e1 : (wf != 0) = true := by simp [hC0]
      have HY := Lib.hid hy
      have HE' := Lib.hid (show ∀ (W : World) (hg : Gr W4 W), Calls Try.prog 28 #[.agg #[.string x, .slice A n c]] W fun e w' => e = .returned (.int .i64 wf) ∧ Gr W w' from fun W hg => Err_is x A n c bs wf hC _ (HS.out.gr (G4.out.trans hg)) hx)
      clear hC0 hC hy H
      go_wp2_with (first | (go_at_call 28; (with_reducible refine (HE'.out _ (by repeat (first | (with_reducible exact Gr.refl _) | (with_reducible assumption) | (with_reducible refine Gr.alloc ?_ _) | (with_reducible refine Gr.drew ?_) | (with_reducible refine Gr.drewN ?_ _) | (with_reducible refine Gr.setCell ?_ (by simp <;> omega) _) | (with_reducible refine Gr.trans ?_ (by with_reducible assumption)) | exact Gr.refl _ | assumption | refine Gr.alloc ?_ _ | refine Gr.drew ?_ | refine Gr.drewN ?_ _ | refine Gr.setCell ?_ (by simp <;> omega) _ | refine Gr.trans ?_ (by assumption)))).mono ?_); rintro e w6 ⟨rfl, hb⟩; obtain ⟨hc, hf⟩ := hb.cells; have hz6 := Gr.size hb; (try simp at hz6); have hz7 : w.heap.size + 1 < w6.heap.size := (by omega); have hz8 : w.heap.size < w6.heap.size := (by omega); have hz9 : g < w6.heap.size := (by omega); have hz10 : g7 < w6.heap.size := (by omega)) | (go_at_call 23; (with_reducible refine (none_any _ HY.out _ _ _).mono ?_); rintro e w7 ⟨rfl, hb⟩))
      go_ret
      exact ⟨ret_bool (by simp), G4.out.trans (by repeat (first | (with_reducible exact Gr.refl _) | (with_reducible assumption) | (with_reducible refine Gr.alloc ?_ _) | (with_reducible refine Gr.drew ?_) | (with_reducible refine Gr.drewN ?_ _) | (with_reducible refine Gr.setCell ?_ (by simp <;> omega) _) | (with_reducible refine Gr.trans ?_ (by with_reducible assumption)) | exact Gr.refl _ | assumption | refine Gr.alloc ?_ _ | refine Gr.drew ?_ | refine Gr.drewN ?_ _ | refine Gr.setCell ?_ (by simp <;> omega) _ | refine Gr.trans ?_ (by assumption)))⟩
    · have HQ := Lib.hid hq
      have HY := Lib.hid hy
      have HE' := Lib.hid (show ∀ (W : World) (hg : Gr W4 W), Calls Try.prog 28 #[.agg #[.string x, .slice A n c]] W fun e w' => e = .returned (.int .i64 0) ∧ Gr W w' from fun W hg => Err_is x A n c bs 0 hC _ (HS.out.gr (G4.out.trans hg)) hx)
      clear hC hq hy H
      go_wp2_with (first | (go_at_call 28; (with_reducible refine (HE'.out _ (by repeat (first | (with_reducible exact Gr.refl _) | (with_reducible assumption) | (with_reducible refine Gr.alloc ?_ _) | (with_reducible refine Gr.drew ?_) | (with_reducible refine Gr.drewN ?_ _) | (with_reducible refine Gr.setCell ?_ (by simp <;> omega) _) | (with_reducible refine Gr.trans ?_ (by with_reducible assumption)) | exact Gr.refl _ | assumption | refine Gr.alloc ?_ _ | refine Gr.drew ?_ | refine Gr.drewN ?_ _ | refine Gr.setCell ?_ (by simp <;> omega) _ | refine Gr.trans ?_ (by assumption)))).mono ?_); rintro e w6 ⟨rfl, hb⟩; obtain ⟨hc, hf⟩ := hb.cells; have hz6 := Gr.size hb; (try simp at hz6); have hz7 : w.heap.size + 1 < w6.heap.size := (by omega); have hz8 : w.heap.size < w6.heap.size := (by omega); have hz9 : g < w6.heap.size := (by omega); have hz10 : g7 < w6.heap.size := (by omega)) | (go_at_call 23; (with_reducible refine (none_any _ HY.out _ _ _).mono ?_); rintro e w7 ⟨rfl, hb⟩) | (go_at_call 33; (with_reducible refine (IsQuad_is x A _ c _ false HQ.out hx _).mono ?_); rintro e w6 ⟨rfl, hb⟩; obtain ⟨hc, hf⟩ := hb.cells; have hz6 := Gr.size hb; (try simp at hz6); have hz7 : w.heap.size + 1 < w6.heap.size := (by omega); have hz8 : w.heap.size < w6.heap.size := (by omega); have hz9 : g < w6.heap.size := (by omega); have hz10 : g7 < w6.heap.size := (by omega)))
      go_ret
      exact ⟨ret_bool (by simp), G4.out.trans (by repeat (first | (with_reducible exact Gr.refl _) | (with_reducible assumption) | (with_reducible refine Gr.alloc ?_ _) | (with_reducible refine Gr.drew ?_) | (with_reducible refine Gr.drewN ?_ _) | (with_reducible refine Gr.setCell ?_ (by simp <;> omega) _) | (with_reducible refine Gr.trans ?_ (by with_reducible assumption)) | exact Gr.refl _ | assumption | refine Gr.alloc ?_ _ | refine Gr.drew ?_ | refine Gr.drewN ?_ _ | refine Gr.setCell ?_ (by simp <;> omega) _ | refine Gr.trans ?_ (by assumption)))⟩
    · have HQ := Lib.hid hq
      have HE' := Lib.hid (show ∀ (W : World) (hg : Gr W4 W), Calls Try.prog 28 #[.agg #[.string x, .slice A n c]] W fun e w' => e = .returned (.int .i64 0) ∧ Gr W w' from fun W hg => Err_is x A n c bs 0 hC _ (HS.out.gr (G4.out.trans hg)) hx)
      have HL := Lib.hid (show ∀ (W : World) (hg : Gr W4 W), Calls Try.prog 34 #[.agg #[.string x, .slice A n c], .int .i64 a] W (PtR k1 g1 o1 u1 f1 W) from fun W hg => hld W A c (HS.out.gr (G4.out.trans hg)))
      clear hC hq hld H
      rcases hst with ⟨D, hD, hD0, rfl, hy, rfl⟩ | ⟨hD, rfl, hst⟩
      · have e0 : (wf == 0) = false := by simp [hD0]
        have e1 : (wf != 0) = true := by simp [hD0]
        have HY := Lib.hid hy
        have HD := Lib.hid hD
        clear hD hD0 hy
        go_wp2_with (first | (go_at_call 28; (with_reducible refine (HE'.out _ (by repeat (first | (with_reducible exact Gr.refl _) | (with_reducible assumption) | (with_reducible refine Gr.alloc ?_ _) | (with_reducible refine Gr.drew ?_) | (with_reducible refine Gr.drewN ?_ _) | (with_reducible refine Gr.setCell ?_ (by simp <;> omega) _) | (with_reducible refine Gr.trans ?_ (by with_reducible assumption)) | exact Gr.refl _ | assumption | refine Gr.alloc ?_ _ | refine Gr.drew ?_ | refine Gr.drewN ?_ _ | refine Gr.setCell ?_ (by simp <;> omega) _ | refine Gr.trans ?_ (by assumption)))).mono ?_); rintro e w6 ⟨rfl, hb⟩; obtain ⟨hc, hf⟩ := hb.cells; have hz6 := Gr.size hb; (try simp at hz6); have hz7 : w.heap.size + 1 < w6.heap.size := (by omega); have hz8 : w.heap.size < w6.heap.size := (by omega); have hz9 : g < w6.heap.size := (by omega); have hz10 : g7 < w6.heap.size := (by omega)) | (go_at_call 23; (with_reducible refine (none_any _ HY.out _ _ _).mono ?_); rintro e w7 ⟨rfl, hb⟩) | (go_at_call 33; (with_reducible refine (IsQuad_is x A _ c _ true HQ.out hx _).mono ?_); rintro e w6 ⟨rfl, hb⟩; obtain ⟨hc, hf⟩ := hb.cells; have hz6 := Gr.size hb; (try simp at hz6); have hz7 : w.heap.size + 1 < w6.heap.size := (by omega); have hz8 : w.heap.size < w6.heap.size := (by omega); have hz9 : g < w6.heap.size := (by omega); have hz10 : g7 < w6.heap.size := (by omega)) | (go_at_call 34; (with_reducible refine (HL.out _ (by repeat (first | (with_reducible exact Gr.refl _) | (with_reducible assumption) | (with_reducible refine Gr.alloc ?_ _) | (with_reducible refine Gr.drew ?_) | (with_reducible refine Gr.drewN ?_ _) | (with_reducible refine Gr.setCell ?_ (by simp <;> omega) _) | (with_reducible refine Gr.trans ?_ (by with_reducible assumption)) | exact Gr.refl _ | assumption | refine Gr.alloc ?_ _ | refine Gr.drew ?_ | refine Gr.drewN ?_ _ | refine Gr.setCell ?_ (by simp <;> omega) _ | refine Gr.trans ?_ (by assumption)))).mono ?_); rintro e w6 ⟨rfl, hb⟩; obtain ⟨hc, hf⟩ := hb.cells; have hz6 := Gr.size hb; (try simp at hz6); have hz7 : w.heap.size + 1 < w6.heap.size := (by omega); have hz8 : w.heap.size < w6.heap.size := (by omega); have hz9 : g < w6.heap.size := (by omega); have hz10 : g7 < w6.heap.size := (by omega)) | (go_at_call 11; (with_reducible refine (PtErr_is _ _ _ _ _ HD.out _).mono ?_); rintro e w6 ⟨rfl, hb⟩; obtain ⟨hc, hf⟩ := hb.cells; have hz6 := Gr.size hb; (try simp at hz6); have hz7 : w.heap.size + 1 < w6.heap.size := (by omega); have hz8 : w.heap.size < w6.heap.size := (by omega); have hz9 : g < w6.heap.size := (by omega); have hz10 : g7 < w6.heap.size := (by omega)))
        go_ret
        exact ⟨ret_bool (by simp), G4.out.trans (by repeat (first | (with_reducible exact Gr.refl _) | (with_reducible assumption) | (with_reducible refine Gr.alloc ?_ _) | (with_reducible refine Gr.drew ?_) | (with_reducible refine Gr.drewN ?_ _) | (with_reducible refine Gr.setCell ?_ (by simp <;> omega) _) | (with_reducible refine Gr.trans ?_ (by with_reducible assumption)) | exact Gr.refl _ | assumption | refine Gr.alloc ?_ _ | refine Gr.drew ?_ | refine Gr.drewN ?_ _ | refine Gr.setCell ?_ (by simp <;> omega) _ | refine Gr.trans ?_ (by assumption)))⟩
      · have HY := Lib.hid (show (⟨#[]⟩ : ByteArray).size = 0 from rfl)
        have HD := Lib.hid hD
        have HST := Lib.hid (show ∀ (W : World) (hg : Gr W4 W), Calls Try.prog 35 #[.agg #[.string x, .slice A n c], .int .i64 a, .agg #[.int .i64 pk, .int .i64 pg, .int .i64 po, .int .i64 pu]] W (StR y m ys W) from fun W hg => hst W A c (HS.out.gr (G4.out.trans hg)))
        clear hD hst
        go_wp2_with (first | (go_at_call 28; (with_reducible refine (HE'.out _ (by repeat (first | (with_reducible exact Gr.refl _) | (with_reducible assumption) | (with_reducible refine Gr.alloc ?_ _) | (with_reducible refine Gr.drew ?_) | (with_reducible refine Gr.drewN ?_ _) | (with_reducible refine Gr.setCell ?_ (by simp <;> omega) _) | (with_reducible refine Gr.trans ?_ (by with_reducible assumption)) | exact Gr.refl _ | assumption | refine Gr.alloc ?_ _ | refine Gr.drew ?_ | refine Gr.drewN ?_ _ | refine Gr.setCell ?_ (by simp <;> omega) _ | refine Gr.trans ?_ (by assumption)))).mono ?_); rintro e w6 ⟨rfl, hb⟩; obtain ⟨hc, hf⟩ := hb.cells; have hz6 := Gr.size hb; (try simp at hz6); have hz7 : w.heap.size + 1 < w6.heap.size := (by omega); have hz8 : w.heap.size < w6.heap.size := (by omega); have hz9 : g < w6.heap.size := (by omega); have hz10 : g7 < w6.heap.size := (by omega)) | (go_at_call 23; (with_reducible refine (none_any _ HY.out _ _ _).mono ?_); rintro e w7 ⟨rfl, hb⟩) | (go_at_call 33; (with_reducible refine (IsQuad_is x A _ c _ true HQ.out hx _).mono ?_); rintro e w6 ⟨rfl, hb⟩; obtain ⟨hc, hf⟩ := hb.cells; have hz6 := Gr.size hb; (try simp at hz6); have hz7 : w.heap.size + 1 < w6.heap.size := (by omega); have hz8 : w.heap.size < w6.heap.size := (by omega); have hz9 : g < w6.heap.size := (by omega); have hz10 : g7 < w6.heap.size := (by omega)) | (go_at_call 34; (with_reducible refine (HL.out _ (by repeat (first | (with_reducible exact Gr.refl _) | (with_reducible assumption) | (with_reducible refine Gr.alloc ?_ _) | (with_reducible refine Gr.drew ?_) | (with_reducible refine Gr.drewN ?_ _) | (with_reducible refine Gr.setCell ?_ (by simp <;> omega) _) | (with_reducible refine Gr.trans ?_ (by with_reducible assumption)) | exact Gr.refl _ | assumption | refine Gr.alloc ?_ _ | refine Gr.drew ?_ | refine Gr.drewN ?_ _ | refine Gr.setCell ?_ (by simp <;> omega) _ | refine Gr.trans ?_ (by assumption)))).mono ?_); rintro e w6 ⟨rfl, hb⟩; obtain ⟨hc, hf⟩ := hb.cells; have hz6 := Gr.size hb; (try simp at hz6); have hz7 : w.heap.size + 1 < w6.heap.size := (by omega); have hz8 : w.heap.size < w6.heap.size := (by omega); have hz9 : g < w6.heap.size := (by omega); have hz10 : g7 < w6.heap.size := (by omega)) | (go_at_call 11; (with_reducible refine (PtErr_is _ _ _ _ _ HD.out _).mono ?_); rintro e w6 ⟨rfl, hb⟩; obtain ⟨hc, hf⟩ := hb.cells; have hz6 := Gr.size hb; (try simp at hz6); have hz7 : w.heap.size + 1 < w6.heap.size := (by omega); have hz8 : w.heap.size < w6.heap.size := (by omega); have hz9 : g < w6.heap.size := (by omega); have hz10 : g7 < w6.heap.size := (by omega)))
        have GX := Lib.hid (show Gr W4 w6 from (by repeat (first | (with_reducible exact Gr.refl _) | (with_reducible assumption) | (with_reducible refine Gr.alloc ?_ _) | (with_reducible refine Gr.drew ?_) | (with_reducible refine Gr.drewN ?_ _) | (with_reducible refine Gr.setCell ?_ (by simp <;> omega) _) | (with_reducible refine Gr.trans ?_ (by with_reducible assumption)) | exact Gr.refl _ | assumption | refine Gr.alloc ?_ _ | refine Gr.drew ?_ | refine Gr.drewN ?_ _ | refine Gr.setCell ?_ (by simp <;> omega) _ | refine Gr.trans ?_ (by assumption))))
        have b0' := GX.out.keep b0
        have b1' := GX.out.keep b1
        have b2' := GX.out.keep b2
        have b3' := GX.out.keep b3
        have b4' := GX.out.keep b4
        have b5' := GX.out.keep b5
        have v0' := GX.out.keep v0
        have v1' := GX.out.keep v1
        clear hc hf hb b0 b1 b2 b3 b4 b5 v0 v1 p0 p1 p2 p3 HE' HL
        generalize w6 = W6 at *
        go_region_held3 (fun w' => w'.cell? ⟨w.heap.size, 0, none⟩ = some (.string x) ∧ w'.cell? ⟨w.heap.size, 1, none⟩ = some (.slice A n c) ∧ w'.cell? ⟨w.heap.size + 1, 0, none⟩ = some (.int .i64 pk) ∧ w'.cell? ⟨w.heap.size + 1, 1, none⟩ = some (.int .i64 pg) ∧ w'.cell? ⟨w.heap.size + 1, 2, none⟩ = some (.int .i64 po) ∧ w'.cell? ⟨w.heap.size + 1, 3, none⟩ = some (.int .i64 pu) ∧ w'.cell? ⟨g, 0, none⟩ = some (.string y) ∧ w'.cell? ⟨g, 1, none⟩ = some (.slice A4 m c4)) (((try go_split_ands); (repeat' apply And.intro) <;> ((try simp only [World.cell?_drew]); first | (with_reducible assumption) | (simp [go_sem]; done) | ((repeat (first | (refine keepFar ?_ (by first | (dsimp only; omega) | (simp; done) | (simp; omega))) | (refine (Gr.alloc (Gr.refl _) _).keep ?_))); (try simp only [World.cell?_drew]); first | (with_reducible assumption) | (refine hb.keep ?_; (try simp only [World.cell?_drew]); first | (with_reducible assumption) | (simp [go_sem]; done) | ((repeat (refine (Gr.alloc (Gr.refl _) _).keep ?_)); (try simp only [World.cell?_drew]); (with_reducible assumption))) | (simp [*, go_sem]; done)))))
          (first
            | (go_at_call 35; (with_reducible refine (HST.out _ (GX.out.trans (by repeat (first | (with_reducible exact Gr.refl _) | (with_reducible assumption) | (with_reducible refine Gr.alloc ?_ _) | (with_reducible refine Gr.drew ?_) | (with_reducible refine Gr.drewN ?_ _) | (with_reducible refine Gr.setCell ?_ (by simp <;> omega) _) | (with_reducible refine Gr.trans ?_ (by with_reducible assumption)) | exact Gr.refl _ | assumption | refine Gr.alloc ?_ _ | refine Gr.drew ?_ | refine Gr.drewN ?_ _ | refine Gr.setCell ?_ (by simp <;> omega) _ | refine Gr.trans ?_ (by assumption))))).mono ?_); rintro e w7 ⟨A7, c7, rfl, hV7, hb⟩; have HV7 := Lib.hid hV7; clear hV7)
            | (go_at_call 24; (with_reducible refine (Same_any y A4 _ m c4 _ _ _ (HV.out.gr (GX.out.trans (by repeat (first | (with_reducible exact Gr.refl _) | (with_reducible assumption) | (with_reducible refine Gr.alloc ?_ _) | (with_reducible refine Gr.drew ?_) | (with_reducible refine Gr.drewN ?_ _) | (with_reducible refine Gr.setCell ?_ (by simp <;> omega) _) | (with_reducible refine Gr.trans ?_ (by with_reducible assumption)) | exact Gr.refl _ | assumption | refine Gr.alloc ?_ _ | refine Gr.drew ?_ | refine Gr.drewN ?_ _ | refine Gr.setCell ?_ (by simp <;> omega) _ | refine Gr.trans ?_ (by assumption))))) (HV7.out.sv.gr (by repeat (first | (with_reducible exact Gr.refl _) | (with_reducible assumption) | (with_reducible refine Gr.alloc ?_ _) | (with_reducible refine Gr.drew ?_) | (with_reducible refine Gr.drewN ?_ _) | (with_reducible refine Gr.setCell ?_ (by simp <;> omega) _) | (with_reducible refine Gr.trans ?_ (by with_reducible assumption)) | exact Gr.refl _ | assumption | refine Gr.alloc ?_ _ | refine Gr.drew ?_ | refine Gr.drewN ?_ _ | refine Gr.setCell ?_ (by simp <;> omega) _ | refine Gr.trans ?_ (by assumption))))).mono ?_); rintro e w8 ⟨rfl, hb8⟩; have hb := hb.trans (Gr.trans (by repeat (first | (with_reducible exact Gr.refl _) | (with_reducible assumption) | (with_reducible refine Gr.alloc ?_ _) | (with_reducible refine Gr.drew ?_) | (with_reducible refine Gr.drewN ?_ _) | (with_reducible refine Gr.setCell ?_ (by simp <;> omega) _) | (with_reducible refine Gr.trans ?_ (by with_reducible assumption)) | exact Gr.refl _ | assumption | refine Gr.alloc ?_ _ | refine Gr.drew ?_ | refine Gr.drewN ?_ _ | refine Gr.setCell ?_ (by simp <;> omega) _ | refine Gr.trans ?_ (by assumption))) hb8)))
        go_wp2
        go_ret
        exact ⟨rfl, G4.out.trans (GX.out.trans (by repeat (first | (with_reducible exact Gr.refl _) | (with_reducible assumption) | (with_reducible refine Gr.alloc ?_ _) | (with_reducible refine Gr.drew ?_) | (with_reducible refine Gr.drewN ?_ _) | (with_reducible refine Gr.setCell ?_ (by simp <;> omega) _) | (with_reducible refine Gr.trans ?_ (by with_reducible assumption)) | exact Gr.refl _ | assumption | refine Gr.alloc ?_ _ | refine Gr.drew ?_ | refine Gr.drewN ?_ _ | refine Gr.setCell ?_ (by simp <;> omega) _ | refine Gr.trans ?_ (by assumption))))⟩
end Go.Proofs.Ytbgeghodiibmmaa
