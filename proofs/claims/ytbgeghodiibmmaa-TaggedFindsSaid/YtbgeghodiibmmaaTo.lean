/- TaggedBytes' walk. -/
import Derived.Test.YtbgeghodiibmmaaTn
import Derived.Test.YtbgeghodiibmmaaAwk3
namespace Go.Proofs.Ytbgeghodiibmmaa
set_option linter.unusedSimpArgs false
set_option linter.unusedVariables false
open Go.RowKit

theorem none_any (x : ByteArray) (hx : x.size = 0) (A : Option Addr) (c : Nat) (w : World) : Calls Try.prog 23 #[.agg #[.string x, .slice A 0 c]] w fun e w' => e = .returned (.bool true) ∧ Gr w w' := by
  have hx' : (x.size : Int) = 0 := by omega
  clear hx
  go_enter Try.func23, Try.ntmps23
  go_wp2
  go_ret
  exact ⟨rfl, (by repeat (first | (with_reducible exact Gr.refl _) | (with_reducible assumption) | (with_reducible refine Gr.alloc ?_ _) | (with_reducible refine Gr.drew ?_) | (with_reducible refine Gr.drewN ?_ _) | (with_reducible refine Gr.setCell ?_ (by simp <;> omega) _) | (with_reducible refine Gr.trans ?_ (by with_reducible assumption)) | exact Gr.refl _ | assumption | refine Gr.alloc ?_ _ | refine Gr.drew ?_ | refine Gr.drewN ?_ _ | refine Gr.setCell ?_ (by simp <;> omega) _ | refine Gr.trans ?_ (by assumption)))⟩

set_option maxRecDepth 100000 in
theorem OwnStorage_more (x : ByteArray) (A : Option Addr) (n c : Nat) (bs : List Bool) (w : World) (hs : Sv w A n c 1 (bv bs)) (hn : n ≤ 1000000) :
    Calls Try.prog 19 #[.agg #[.string x, .slice A n c]] w (fun e w' => StR x n bs w e w' ∧ w.heap.size < w'.heap.size) := by
  have HS := Lib.hid hs
  clear hs
  go_enter Try.func19, Try.ntmps19
  go_wp2
  go_region_held3 (fun w' => w'.cell? ⟨w.heap.size, 0, none⟩ = some (.string x) ∧ w'.cell? ⟨w.heap.size, 1, none⟩ = some (.slice A n c)) (first | (go_keep; done) | ((try go_split_ands); (repeat' apply And.intro) <;> ((try simp only [World.cell?_drew]); first | (with_reducible assumption) | (refine hb.keep ?_; (try simp only [World.cell?_drew]); first | (with_reducible assumption) | (simp [*, go_sem]; done)) | (simp [*, go_sem]; done))))
    ((go_at_call 53; (with_reducible refine (CopyBools_any A n c bs _ (HS.out.gr (by repeat (first | (with_reducible exact Gr.refl _) | (with_reducible assumption) | (with_reducible refine Gr.alloc ?_ _) | (with_reducible refine Gr.drew ?_) | (with_reducible refine Gr.drewN ?_ _) | (with_reducible refine Gr.setCell ?_ (by simp <;> omega) _) | (with_reducible refine Gr.trans ?_ (by with_reducible assumption)) | exact Gr.refl _ | assumption | refine Gr.alloc ?_ _ | refine Gr.drew ?_ | refine Gr.drewN ?_ _ | refine Gr.setCell ?_ (by simp <;> omega) _ | refine Gr.trans ?_ (by assumption)))) hn).mono ?_); rintro e w1 ⟨A1, c1, rfl, hW, hb⟩; have HW := Lib.hid hW; clear hW; obtain ⟨hc, hf⟩ := gcells hb (w.heap.size + 2) (by first | (simp; done) | (simp; omega)); have hz : w.heap.size + 2 ≤ w1.heap.size := (by have h := hb.size; (try simp at h); omega); have hz0 : w.heap.size < w1.heap.size := (by omega)))
  go_wp2
  refine bodyPost_ret (v := .agg #[.string x, .slice A1 n c1]) (by simp [results, Try.results19, go_sem, *]) rfl ⟨⟨A1, c1, rfl, ((HW.out.setLow (by simp) _).setLow (by simp) _).mono (by simp; omega), (by repeat (first | (with_reducible exact Gr.refl _) | (with_reducible assumption) | (with_reducible refine Gr.alloc ?_ _) | (with_reducible refine Gr.drew ?_) | (with_reducible refine Gr.drewN ?_ _) | (with_reducible refine Gr.setCell ?_ (by simp <;> omega) _) | (with_reducible refine Gr.trans ?_ (by with_reducible assumption)) | exact Gr.refl _ | assumption | refine Gr.alloc ?_ _ | refine Gr.drew ?_ | refine Gr.drewN ?_ _ | refine Gr.setCell ?_ (by simp <;> omega) _ | refine Gr.trans ?_ (by assumption)))⟩, by simp; omega⟩
/-- A variable of the law's own holds a storage. -/
def Vs (w : World) (g : Nat) (y : ByteArray) (m : Nat) (ys : List Bool) : Prop :=
  ∃ A c, g < w.heap.size ∧ w.cell? ⟨g, 0, none⟩ = some (.string y) ∧ w.cell? ⟨g, 1, none⟩ = some (.slice A m c) ∧ Sv w A m c 1 (bv ys)
def TbC (a : World) (y : ByteArray) (m : Nat) (ys : List Bool) (f : Int) (s7 s8 : Value) (wx : World) : Prop :=
  ∃ g, s7 = .pointer (some ⟨g, 0, none⟩) ∧ s8 = .int .i64 f ∧ a.heap.size ≤ g ∧ Vs wx g y m ys ∧ Gr a wx

/-- What the two calls return: all cases. -/
def TbH (x d rb y : ByteArray) (n m : Nat) (bs ys : List Bool) (a l re wf : Int) : Prop :=
  (∃ C, ckErr x bs = C ∧ C ≠ 0 ∧ re = C ∧ rb = ⟨#[]⟩ ∧ wf = C ∧ y.size = 0 ∧ m = 0) ∨
  (ckErr x bs = 0 ∧ x.size ≤ 1024 ∧ 16 * n = x.size ∧
    ((hB x a l = false ∧ re = 3 ∧ rb = ⟨#[]⟩) ∨ (∃ i k : Nat, a = i ∧ l = k ∧ i + k ≤ x.size ∧ hB x a l = true ∧ re = 0 ∧ rb = x.extract i (i + k))) ∧
    ((hB x a d.size = false ∧ wf = 3 ∧ y.size = 0 ∧ m = 0) ∨ (∃ i : Nat, a = i ∧ i + d.size ≤ x.size ∧ hB x a d.size = true ∧ wf = 0 ∧ y = pS x i d ∧ m = n ∧ ys = wT bs i d.size)))
theorem Err_is (x : ByteArray) (A : Option Addr) (n c : Nat) (bs : List Bool) (C : Int) (hC : ckErr x bs = C) (w : World) (hs : Sv w A n c 1 (bv bs)) (hx : x.size ≤ maxLen) :
    Calls Try.prog 28 #[.agg #[.string x, .slice A n c]] w fun e w' => e = .returned (.int .i64 C) ∧ Gr w w' := by
  subst hC
  exact Err_any x A n c bs w hs hx
theorem IsRange_is (x : ByteArray) (A : Option Addr) (l c : Nat) (a n : Int) (r : Bool) (hr : hB x a n = r) (hx : x.size ≤ maxLen) (w : World) :
    Calls Try.prog 29 #[.agg #[.string x, .slice A l c], .int .i64 a, .int .i64 n] w fun e w' => e = .returned (.bool r) ∧ Gr w w' := by
  subst hr
  exact IsRange_any x A l c a n hx w

set_option maxHeartbeats 4000000 in
set_option maxRecDepth 100000 in
theorem tb_walk (x d rb y : ByteArray) (A : Option Addr) (n c m : Nat) (bs ys : List Bool) (a l re wf : Int) (w : World) (hs : Sv w A n c 1 (bv bs)) (hx : x.size ≤ maxLen) (hn : n ≤ 1000000)
    (hfew : fewB x n = true) (hd : (d.size : Int) ≤ 1200)
    (HR : ∀ W A c, Sv W A n c 1 (bv bs) → Calls Try.prog 26 #[.agg #[.string x, .slice A n c], .int .i64 a, .int .i64 l] W fun e w' => e = .returned (.tuple #[.string rb, .int .i64 re]) ∧ Gr W w')
    (HH : TbH x d rb y n m bs ys a l re wf)
    (HW : ∀ W A c, Sv W A n c 1 (bv bs) → Calls Try.prog 27 #[.agg #[.string x, .slice A n c], .int .i64 a, .string d] W (StE y m ys wf W)) :
    Calls Try.prog 5 #[.agg #[.string x, .slice A n c], .agg #[.int .i64 a, .int .i64 l, .string d]] w fun e w' => e = .returned (.bool true) ∧ Gr w w' := by
  have HS := Lib.hid hs
  have HR' := Lib.hid HR
  have HW' := Lib.hid HW
  have H := Lib.hid HH
  clear hs HR HW HH
  go_enter Try.func5, Try.ntmps5
  go_upto_region 5 with (first | (go_at_call 10; (with_reducible refine (awake_any _).mono ?_); rintro e w1 ⟨rfl, hb⟩; obtain ⟨hc, hf⟩ := gcells hb (w.heap.size + 2) (by first | exact hz | omega | (simp; done) | (simp; omega)); have hz : w.heap.size + 2 ≤ w1.heap.size := (by have h := hb.size; (try simp at h); omega); have hz0 : w.heap.size < w1.heap.size := (by omega)) | (go_at_call 17; (with_reducible refine (few_any x A n c _).mono ?_); rintro e w1 ⟨rfl, hb⟩; obtain ⟨hc, hf⟩ := gcells hb (w.heap.size + 2) (by first | exact hz | omega | (simp; done) | (simp; omega)); have hz : w.heap.size + 2 ≤ w1.heap.size := (by have h := hb.size; (try simp at h); omega); have hz0 : w.heap.size < w1.heap.size := (by omega)))
  have q0 : w1.cell? ⟨w.heap.size, 0, none⟩ = some (.string x) ∧ w1.cell? ⟨w.heap.size, 1, none⟩ = some (.slice A n c) ∧ w1.cell? ⟨w.heap.size + 1, 0, none⟩ = some (.int .i64 a) ∧ w1.cell? ⟨w.heap.size + 1, 1, none⟩ = some (.int .i64 l) ∧ w1.cell? ⟨w.heap.size + 1, 2, none⟩ = some (.string d) := by refine ⟨?_, ?_, ?_, ?_, ?_⟩ <;> simp [go_sem, *]
  have G1 := Lib.hid (show Gr w w1 from (by repeat (first | (with_reducible exact Gr.refl _) | (with_reducible assumption) | (with_reducible refine Gr.alloc ?_ _) | (with_reducible refine Gr.drew ?_) | (with_reducible refine Gr.drewN ?_ _) | (with_reducible refine Gr.setCell ?_ (by simp <;> omega) _) | (with_reducible refine Gr.trans ?_ (by with_reducible assumption)) | exact Gr.refl _ | assumption | refine Gr.alloc ?_ _ | refine Gr.drew ?_ | refine Gr.drewN ?_ _ | refine Gr.setCell ?_ (by simp <;> omega) _ | refine Gr.trans ?_ (by assumption))))
  obtain ⟨b0, b1, b2, b3, b4⟩ := q0
  clear hc hf hb hz0
  generalize w1 = W1 at *
  go_region_held3 (fun w' => w'.cell? ⟨w.heap.size, 0, none⟩ = some (.string x) ∧ w'.cell? ⟨w.heap.size, 1, none⟩ = some (.slice A n c) ∧ w'.cell? ⟨w.heap.size + 1, 0, none⟩ = some (.int .i64 a) ∧ w'.cell? ⟨w.heap.size + 1, 1, none⟩ = some (.int .i64 l) ∧ w'.cell? ⟨w.heap.size + 1, 2, none⟩ = some (.string d)) (first | (go_keep; done) | ((try go_split_ands); (repeat' apply And.intro) <;> ((try simp only [World.cell?_drew]); first | (with_reducible assumption) | (refine hb.keep ?_; (try simp only [World.cell?_drew]); first | (with_reducible assumption) | (simp [*, go_sem]; done)) | (simp [*, go_sem]; done))))
    (first
      | (go_at_call 19; (with_reducible refine (OwnStorage_any x A n c bs _ (HS.out.gr (G1.out.trans (by repeat (first | (with_reducible exact Gr.refl _) | (with_reducible assumption) | (with_reducible refine Gr.alloc ?_ _) | (with_reducible refine Gr.drew ?_) | (with_reducible refine Gr.drewN ?_ _) | (with_reducible refine Gr.setCell ?_ (by simp <;> omega) _) | (with_reducible refine Gr.trans ?_ (by with_reducible assumption)) | exact Gr.refl _ | assumption | refine Gr.alloc ?_ _ | refine Gr.drew ?_ | refine Gr.drewN ?_ _ | refine Gr.setCell ?_ (by simp <;> omega) _ | refine Gr.trans ?_ (by assumption))))) hn).mono ?_); rintro e w2 ⟨A2, c2, rfl, hV, hb⟩; have HV := Lib.hid hV; clear hV)
      | (go_at_call 26; (with_reducible refine (HR'.out _ _ _ (HV.out.sv.gr (by repeat (first | (with_reducible exact Gr.refl _) | (with_reducible assumption) | (with_reducible refine Gr.alloc ?_ _) | (with_reducible refine Gr.drew ?_) | (with_reducible refine Gr.drewN ?_ _) | (with_reducible refine Gr.setCell ?_ (by simp <;> omega) _) | (with_reducible refine Gr.trans ?_ (by with_reducible assumption)) | exact Gr.refl _ | assumption | refine Gr.alloc ?_ _ | refine Gr.drew ?_ | refine Gr.drewN ?_ _ | refine Gr.setCell ?_ (by simp <;> omega) _ | refine Gr.trans ?_ (by assumption))))).mono ?_); rintro e w3 ⟨rfl, hb3⟩; have hb := hb.trans (Gr.trans (by repeat (first | (with_reducible exact Gr.refl _) | (with_reducible assumption) | (with_reducible refine Gr.alloc ?_ _) | (with_reducible refine Gr.drew ?_) | (with_reducible refine Gr.drewN ?_ _) | (with_reducible refine Gr.setCell ?_ (by simp <;> omega) _) | (with_reducible refine Gr.trans ?_ (by with_reducible assumption)) | exact Gr.refl _ | assumption | refine Gr.alloc ?_ _ | refine Gr.drew ?_ | refine Gr.drewN ?_ _ | refine Gr.setCell ?_ (by simp <;> omega) _ | refine Gr.trans ?_ (by assumption))) hb3)))
  have b0' := hb.keep (p := ⟨w.heap.size, 0, none⟩) (v := .string x) b0
  have b1' := hb.keep (p := ⟨w.heap.size, 1, none⟩) (v := .slice A n c) b1
  have b2' := hb.keep (p := ⟨w.heap.size + 1, 0, none⟩) (v := .int .i64 a) b2
  have b3' := hb.keep (p := ⟨w.heap.size + 1, 1, none⟩) (v := .int .i64 l) b3
  have b4' := hb.keep (p := ⟨w.heap.size + 1, 2, none⟩) (v := .string d) b4
  have G3 := Lib.hid (show Gr w w3 from G1.out.trans ((Gr.refl _).drew.trans hb))
  have hz3 : w.heap.size + 2 ≤ w3.heap.size := by have := Gr.size hb; simp at this; omega
  clear hb hb3 b0 b1 b2 b3 b4 G1 HV hz
  generalize w3 = W3 at *
  go_upto_region 6 with (fail)
  go_cut [7, 8] (fun s7 s8 wx => TbC W3 y m ys wf s7 s8 wx)
  case first =>
    go_region_held3 (fun w' => w'.cell? ⟨w.heap.size, 0, none⟩ = some (.string x) ∧ w'.cell? ⟨w.heap.size, 1, none⟩ = some (.slice A n c) ∧ w'.cell? ⟨w.heap.size + 1, 0, none⟩ = some (.int .i64 a) ∧ w'.cell? ⟨w.heap.size + 1, 1, none⟩ = some (.int .i64 l) ∧ w'.cell? ⟨w.heap.size + 1, 2, none⟩ = some (.string d)) (((try go_split_ands); (repeat' apply And.intro) <;> ((try simp only [World.cell?_drew]); first | (with_reducible assumption) | (simp [go_sem]; done) | ((repeat (first | (refine keepFar ?_ (by first | (dsimp only; omega) | (simp; done) | (simp; omega))) | (refine (Gr.alloc (Gr.refl _) _).keep ?_))); (try simp only [World.cell?_drew]); first | (with_reducible assumption) | (refine hb.keep ?_; (try simp only [World.cell?_drew]); first | (with_reducible assumption) | (simp [go_sem]; done) | ((repeat (refine (Gr.alloc (Gr.refl _) _).keep ?_)); (try simp only [World.cell?_drew]); (with_reducible assumption))) | (simp [*, go_sem]; done)))))
      (first
        | (go_at_call 19; (with_reducible refine (OwnStorage_more x A n c bs _ (HS.out.gr (G3.out.trans (by repeat (first | (with_reducible exact Gr.refl _) | (with_reducible assumption) | (with_reducible refine Gr.alloc ?_ _) | (with_reducible refine Gr.drew ?_) | (with_reducible refine Gr.drewN ?_ _) | (with_reducible refine Gr.setCell ?_ (by simp <;> omega) _) | (with_reducible refine Gr.trans ?_ (by with_reducible assumption)) | exact Gr.refl _ | assumption | refine Gr.alloc ?_ _ | refine Gr.drew ?_ | refine Gr.drewN ?_ _ | refine Gr.setCell ?_ (by simp <;> omega) _ | refine Gr.trans ?_ (by assumption))))) hn).mono ?_); rintro e w4 ⟨⟨A2, c2, rfl, hV, hb⟩, hz4⟩; have HV := Lib.hid hV; clear hV; obtain ⟨hc4, hf4⟩ := hb.cells; (try simp at hz4); have hz40 : W3.heap.size < w4.heap.size := (by omega))
        | (go_at_call 27; (with_reducible refine (HW'.out _ _ _ (HV.out.sv.gr (by repeat (first | (with_reducible exact Gr.refl _) | (with_reducible assumption) | (with_reducible refine Gr.alloc ?_ _) | (with_reducible refine Gr.drew ?_) | (with_reducible refine Gr.drewN ?_ _) | (with_reducible refine Gr.setCell ?_ (by simp <;> omega) _) | (with_reducible refine Gr.trans ?_ (by with_reducible assumption)) | exact Gr.refl _ | assumption | refine Gr.alloc ?_ _ | refine Gr.drew ?_ | refine Gr.drewN ?_ _ | refine Gr.setCell ?_ (by simp <;> omega) _ | refine Gr.trans ?_ (by assumption))))).mono ?_); rintro e w5 ⟨A3, c3, rfl, hV3, hb3⟩; have HV3 := Lib.hid hV3; clear hV3; obtain ⟨hc5, hf5⟩ := hb3.cells; have hz5 := Gr.size hb3; (try simp at hz5); have hb := hb.trans (Gr.trans (by repeat (first | (with_reducible exact Gr.refl _) | (with_reducible assumption) | (with_reducible refine Gr.alloc ?_ _) | (with_reducible refine Gr.drew ?_) | (with_reducible refine Gr.drewN ?_ _) | (with_reducible refine Gr.setCell ?_ (by simp <;> omega) _) | (with_reducible refine Gr.trans ?_ (by with_reducible assumption)) | exact Gr.refl _ | assumption | refine Gr.alloc ?_ _ | refine Gr.drew ?_ | refine Gr.drewN ?_ _ | refine Gr.setCell ?_ (by simp <;> omega) _ | refine Gr.trans ?_ (by assumption))) hb3)))
    all_goals
      go_wp2_with fail
      go_meet
      clear HR' HW' HS
      refine ⟨_, rfl, rfl, ?_, ⟨A3, c3, ?_, ?_, ?_, ?_⟩, ?_⟩
      · first | omega | (simp; omega)
      · first | (simp; done) | (simp; omega) | omega
      · simp [go_sem, *]
      · simp [go_sem, *]
      · first | (refine ((HV3.out.setLow ?_ _).setLow ?_ _).sv <;> first | (simp; done) | (simp; omega)) | (refine HV3.out.sv.gr ?_; exact (by repeat (first | (with_reducible exact Gr.refl _) | (with_reducible assumption) | (with_reducible refine Gr.alloc ?_ _) | (with_reducible refine Gr.drew ?_) | (with_reducible refine Gr.drewN ?_ _) | (with_reducible refine Gr.setCell ?_ (by simp <;> omega) _) | (with_reducible refine Gr.trans ?_ (by with_reducible assumption)) | exact Gr.refl _ | assumption | refine Gr.alloc ?_ _ | refine Gr.drew ?_ | refine Gr.drewN ?_ _ | refine Gr.setCell ?_ (by simp <;> omega) _ | refine Gr.trans ?_ (by assumption))))
      · exact (by repeat (first | (with_reducible exact Gr.refl _) | (with_reducible assumption) | (with_reducible refine Gr.alloc ?_ _) | (with_reducible refine Gr.drew ?_) | (with_reducible refine Gr.drewN ?_ _) | (with_reducible refine Gr.setCell ?_ (by simp <;> omega) _) | (with_reducible refine Gr.trans ?_ (by with_reducible assumption)) | exact Gr.refl _ | assumption | refine Gr.alloc ?_ _ | refine Gr.drew ?_ | refine Gr.drewN ?_ _ | refine Gr.setCell ?_ (by simp <;> omega) _ | refine Gr.trans ?_ (by assumption)))
  case rest =>
    obtain ⟨g, rfl, rfl, hg, ⟨A4, c4, hgl, v0, v1, hv⟩, hG⟩ := hcut
    have b0 := hG.keep b0'
    have b1 := hG.keep b1'
    have b2 := hG.keep b2'
    have b3 := hG.keep b3'
    have b4 := hG.keep b4'
    have G4 := Lib.hid (G3.out.trans hG)
    have hz4 : w.heap.size + 1 < wc.heap.size := by have := Gr.size hG; omega
    have hz5 : w.heap.size < wc.heap.size := by omega
    have HV := Lib.hid hv
    clear hv hG b0' b1' b2' b3' b4' G3 HR' HW' hg hz3
    generalize wc = W4 at *
    rcases H.out with ⟨C, hC, hC0, rfl, rfl, rfl, hy, rfl⟩ | ⟨hC, hx1, hn1, hr, hw⟩
    · have e0 : (wf == 0) = false := by simp [hC0]
      have e1 : (wf != 0) = true := by simp [hC0]
      have HC := Lib.hid hC
      have HY := Lib.hid hy
      clear hC0 hC hy H
      go_wp2_with (first | (go_at_call 28; (with_reducible refine (Err_is x A n c bs wf HC.out _ (HS.out.gr (G4.out.trans (by repeat (first | (with_reducible exact Gr.refl _) | (with_reducible assumption) | (with_reducible refine Gr.alloc ?_ _) | (with_reducible refine Gr.drew ?_) | (with_reducible refine Gr.drewN ?_ _) | (with_reducible refine Gr.setCell ?_ (by simp <;> omega) _) | (with_reducible refine Gr.trans ?_ (by with_reducible assumption)) | exact Gr.refl _ | assumption | refine Gr.alloc ?_ _ | refine Gr.drew ?_ | refine Gr.drewN ?_ _ | refine Gr.setCell ?_ (by simp <;> omega) _ | refine Gr.trans ?_ (by assumption))))) hx).mono ?_); rintro e w6 ⟨rfl, hb⟩; obtain ⟨hc, hf⟩ := hb.cells) | (go_at_call 23; (with_reducible refine (none_any _ HY.out _ _ _).mono ?_); rintro e w7 ⟨rfl, hb⟩))
      go_ret
      exact ⟨ret_bool (by simp), G4.out.trans (by repeat (first | (with_reducible exact Gr.refl _) | (with_reducible assumption) | (with_reducible refine Gr.alloc ?_ _) | (with_reducible refine Gr.drew ?_) | (with_reducible refine Gr.drewN ?_ _) | (with_reducible refine Gr.setCell ?_ (by simp <;> omega) _) | (with_reducible refine Gr.trans ?_ (by with_reducible assumption)) | exact Gr.refl _ | assumption | refine Gr.alloc ?_ _ | refine Gr.drew ?_ | refine Gr.drewN ?_ _ | refine Gr.setCell ?_ (by simp <;> omega) _ | refine Gr.trans ?_ (by assumption)))⟩
    · have HC := Lib.hid hC
      have HN := Lib.hid hn1
      have HE : ∀ (W : World) (hg : Gr W4 W), Calls Try.prog 28 #[.agg #[.string x, .slice A n c]] W fun e w' => e = .returned (.int .i64 0) ∧ Gr W w' := fun W hg => Err_is x A n c bs 0 HC.out _ (HS.out.gr (G4.out.trans hg)) hx
      have HE' := Lib.hid HE
      clear hC hn1 H HE
      rcases hr with ⟨hr1, rfl, rfl⟩ | ⟨i, k, rfl, rfl, hik, hr1, rfl, rfl⟩
      · have HR1 := Lib.hid hr1
        clear hr1
        rcases hw with ⟨hw1, rfl, hy, rfl⟩ | ⟨j, rfl, hj, hw1, rfl, rfl, rfl, rfl⟩
        · have HW1 := Lib.hid hw1
          have HY := Lib.hid hy
          clear hw1 hy
          go_wp2_with (first | (go_at_call 28; (with_reducible refine (HE'.out _ (by repeat (first | (with_reducible exact Gr.refl _) | (with_reducible assumption) | (with_reducible refine Gr.alloc ?_ _) | (with_reducible refine Gr.drew ?_) | (with_reducible refine Gr.drewN ?_ _) | (with_reducible refine Gr.setCell ?_ (by simp <;> omega) _) | (with_reducible refine Gr.trans ?_ (by with_reducible assumption)) | exact Gr.refl _ | assumption | refine Gr.alloc ?_ _ | refine Gr.drew ?_ | refine Gr.drewN ?_ _ | refine Gr.setCell ?_ (by simp <;> omega) _ | refine Gr.trans ?_ (by assumption)))).mono ?_); rintro e w6 ⟨rfl, hb⟩; obtain ⟨hc, hf⟩ := hb.cells; have hz6 := Gr.size hb; (try simp at hz6); have hz7 : w.heap.size + 1 < w6.heap.size := (by omega); have hz8 : w.heap.size < w6.heap.size := (by omega); have hz9 : g < w6.heap.size := (by omega)) | (go_at_call 23; (with_reducible refine (none_any _ HY.out _ _ _).mono ?_); rintro e w7 ⟨rfl, hb⟩) | (go_at_call 29; (with_reducible refine (IsRange_is x A _ c _ _ false HR1.out hx _).mono ?_); rintro e w6 ⟨rfl, hb⟩; obtain ⟨hc, hf⟩ := hb.cells; have hz6 := Gr.size hb; (try simp at hz6); have hz7 : w.heap.size + 1 < w6.heap.size := (by omega); have hz8 : w.heap.size < w6.heap.size := (by omega); have hz9 : g < w6.heap.size := (by omega)) | (go_at_call 29; (with_reducible refine (IsRange_is x A _ c _ _ false HW1.out hx _).mono ?_); rintro e w6 ⟨rfl, hb⟩; obtain ⟨hc, hf⟩ := hb.cells; have hz6 := Gr.size hb; (try simp at hz6); have hz7 : w.heap.size + 1 < w6.heap.size := (by omega); have hz8 : w.heap.size < w6.heap.size := (by omega); have hz9 : g < w6.heap.size := (by omega)))
          go_ret
          exact ⟨ret_bool (by simp), G4.out.trans (by repeat (first | (with_reducible exact Gr.refl _) | (with_reducible assumption) | (with_reducible refine Gr.alloc ?_ _) | (with_reducible refine Gr.drew ?_) | (with_reducible refine Gr.drewN ?_ _) | (with_reducible refine Gr.setCell ?_ (by simp <;> omega) _) | (with_reducible refine Gr.trans ?_ (by with_reducible assumption)) | exact Gr.refl _ | assumption | refine Gr.alloc ?_ _ | refine Gr.drew ?_ | refine Gr.drewN ?_ _ | refine Gr.setCell ?_ (by simp <;> omega) _ | refine Gr.trans ?_ (by assumption)))⟩
        · have HW1 := Lib.hid hw1
          have HY := Lib.hid (show (⟨#[]⟩ : ByteArray).size = 0 from rfl)
          have hj1 : (j : Int) + d.size ≤ 9223372036854775807 := by omega
          clear hw1 hj1
          go_wp2_with (first | (go_at_call 28; (with_reducible refine (HE'.out _ (by repeat (first | (with_reducible exact Gr.refl _) | (with_reducible assumption) | (with_reducible refine Gr.alloc ?_ _) | (with_reducible refine Gr.drew ?_) | (with_reducible refine Gr.drewN ?_ _) | (with_reducible refine Gr.setCell ?_ (by simp <;> omega) _) | (with_reducible refine Gr.trans ?_ (by with_reducible assumption)) | exact Gr.refl _ | assumption | refine Gr.alloc ?_ _ | refine Gr.drew ?_ | refine Gr.drewN ?_ _ | refine Gr.setCell ?_ (by simp <;> omega) _ | refine Gr.trans ?_ (by assumption)))).mono ?_); rintro e w6 ⟨rfl, hb⟩; obtain ⟨hc, hf⟩ := hb.cells; have hz6 := Gr.size hb; (try simp at hz6); have hz7 : w.heap.size + 1 < w6.heap.size := (by omega); have hz8 : w.heap.size < w6.heap.size := (by omega); have hz9 : g < w6.heap.size := (by omega)) | (go_at_call 23; (with_reducible refine (none_any _ HY.out _ _ _).mono ?_); rintro e w7 ⟨rfl, hb⟩) | (go_at_call 29; (with_reducible refine (IsRange_is x A _ c _ _ false HR1.out hx _).mono ?_); rintro e w6 ⟨rfl, hb⟩; obtain ⟨hc, hf⟩ := hb.cells; have hz6 := Gr.size hb; (try simp at hz6); have hz7 : w.heap.size + 1 < w6.heap.size := (by omega); have hz8 : w.heap.size < w6.heap.size := (by omega); have hz9 : g < w6.heap.size := (by omega)) | (go_at_call 29; (with_reducible refine (IsRange_is x A _ c _ _ true HW1.out hx _).mono ?_); rintro e w6 ⟨rfl, hb⟩; obtain ⟨hc, hf⟩ := hb.cells; have hz6 := Gr.size hb; (try simp at hz6); have hz7 : w.heap.size + 1 < w6.heap.size := (by omega); have hz8 : w.heap.size < w6.heap.size := (by omega); have hz9 : g < w6.heap.size := (by omega)))
          have GX := Lib.hid (show Gr W4 w6 from (by repeat (first | (with_reducible exact Gr.refl _) | (with_reducible assumption) | (with_reducible refine Gr.alloc ?_ _) | (with_reducible refine Gr.drew ?_) | (with_reducible refine Gr.drewN ?_ _) | (with_reducible refine Gr.setCell ?_ (by simp <;> omega) _) | (with_reducible refine Gr.trans ?_ (by with_reducible assumption)) | exact Gr.refl _ | assumption | refine Gr.alloc ?_ _ | refine Gr.drew ?_ | refine Gr.drewN ?_ _ | refine Gr.setCell ?_ (by simp <;> omega) _ | refine Gr.trans ?_ (by assumption))))
          have b0' := GX.out.keep b0
          have b1' := GX.out.keep b1
          have b2' := GX.out.keep b2
          have b3' := GX.out.keep b3
          have b4' := GX.out.keep b4
          have v0' := GX.out.keep v0
          have v1' := GX.out.keep v1
          have hx2 : x.size ≤ 1024 := hx1
          clear hc hf hb b0 b1 b2 b3 b4 v0 v1
          generalize w6 = W6 at *
          go_region_held3 (fun w' => w'.cell? ⟨w.heap.size, 0, none⟩ = some (.string x) ∧ w'.cell? ⟨w.heap.size, 1, none⟩ = some (.slice A m c) ∧ w'.cell? ⟨w.heap.size + 1, 0, none⟩ = some (.int .i64 j) ∧ w'.cell? ⟨w.heap.size + 1, 2, none⟩ = some (.string d) ∧ w'.cell? ⟨g, 0, none⟩ = some (.string (pS x j d)) ∧ w'.cell? ⟨g, 1, none⟩ = some (.slice A4 m c4)) (((try go_split_ands); (repeat' apply And.intro) <;> ((try simp only [World.cell?_drew]); first | (with_reducible assumption) | (simp [go_sem]; done) | ((repeat (first | (refine keepFar ?_ (by first | (dsimp only; omega) | (simp; done) | (simp; omega))) | (refine (Gr.alloc (Gr.refl _) _).keep ?_))); (try simp only [World.cell?_drew]); first | (with_reducible assumption) | (refine hb.keep ?_; (try simp only [World.cell?_drew]); first | (with_reducible assumption) | (simp [go_sem]; done) | ((repeat (refine (Gr.alloc (Gr.refl _) _).keep ?_)); (try simp only [World.cell?_drew]); (with_reducible assumption))) | (simp [*, go_sem]; done)))))
            (first
              | (go_at_call 30; (with_reducible refine (Write_any x A m c bs j d _ (HS.out.gr (G4.out.trans (GX.out.trans (by repeat (first | (with_reducible exact Gr.refl _) | (with_reducible assumption) | (with_reducible refine Gr.alloc ?_ _) | (with_reducible refine Gr.drew ?_) | (with_reducible refine Gr.drewN ?_ _) | (with_reducible refine Gr.setCell ?_ (by simp <;> omega) _) | (with_reducible refine Gr.trans ?_ (by with_reducible assumption)) | exact Gr.refl _ | assumption | refine Gr.alloc ?_ _ | refine Gr.drew ?_ | refine Gr.drewN ?_ _ | refine Gr.setCell ?_ (by simp <;> omega) _ | refine Gr.trans ?_ (by assumption)))))) hx2 HN.out hj).mono ?_); rintro e w7 ⟨A7, c7, rfl, hV7, hb⟩; have HV7 := Lib.hid hV7; clear hV7)
              | (go_at_call 24; (with_reducible refine (Same_any (pS x j d) A4 _ m c4 _ _ _ (HV.out.gr (GX.out.trans (by repeat (first | (with_reducible exact Gr.refl _) | (with_reducible assumption) | (with_reducible refine Gr.alloc ?_ _) | (with_reducible refine Gr.drew ?_) | (with_reducible refine Gr.drewN ?_ _) | (with_reducible refine Gr.setCell ?_ (by simp <;> omega) _) | (with_reducible refine Gr.trans ?_ (by with_reducible assumption)) | exact Gr.refl _ | assumption | refine Gr.alloc ?_ _ | refine Gr.drew ?_ | refine Gr.drewN ?_ _ | refine Gr.setCell ?_ (by simp <;> omega) _ | refine Gr.trans ?_ (by assumption))))) (HV7.out.sv.gr (by repeat (first | (with_reducible exact Gr.refl _) | (with_reducible assumption) | (with_reducible refine Gr.alloc ?_ _) | (with_reducible refine Gr.drew ?_) | (with_reducible refine Gr.drewN ?_ _) | (with_reducible refine Gr.setCell ?_ (by simp <;> omega) _) | (with_reducible refine Gr.trans ?_ (by with_reducible assumption)) | exact Gr.refl _ | assumption | refine Gr.alloc ?_ _ | refine Gr.drew ?_ | refine Gr.drewN ?_ _ | refine Gr.setCell ?_ (by simp <;> omega) _ | refine Gr.trans ?_ (by assumption))))).mono ?_); rintro e w8 ⟨rfl, hb8⟩; have hb := hb.trans (Gr.trans (by repeat (first | (with_reducible exact Gr.refl _) | (with_reducible assumption) | (with_reducible refine Gr.alloc ?_ _) | (with_reducible refine Gr.drew ?_) | (with_reducible refine Gr.drewN ?_ _) | (with_reducible refine Gr.setCell ?_ (by simp <;> omega) _) | (with_reducible refine Gr.trans ?_ (by with_reducible assumption)) | exact Gr.refl _ | assumption | refine Gr.alloc ?_ _ | refine Gr.drew ?_ | refine Gr.drewN ?_ _ | refine Gr.setCell ?_ (by simp <;> omega) _ | refine Gr.trans ?_ (by assumption))) hb8)))
          go_wp2
          go_ret
          exact ⟨rfl, G4.out.trans (GX.out.trans (by repeat (first | (with_reducible exact Gr.refl _) | (with_reducible assumption) | (with_reducible refine Gr.alloc ?_ _) | (with_reducible refine Gr.drew ?_) | (with_reducible refine Gr.drewN ?_ _) | (with_reducible refine Gr.setCell ?_ (by simp <;> omega) _) | (with_reducible refine Gr.trans ?_ (by with_reducible assumption)) | exact Gr.refl _ | assumption | refine Gr.alloc ?_ _ | refine Gr.drew ?_ | refine Gr.drewN ?_ _ | refine Gr.setCell ?_ (by simp <;> omega) _ | refine Gr.trans ?_ (by assumption))))⟩
      · have HR1 := Lib.hid hr1
        have hsl := cut_ij x i (i + k) i (i + k) rfl (by omega) (by omega) hik
        have hsw : IntKind.i64.wrap ((i : Int) + k) = i + k := IntWalk.i64_in _ (by omega)
        have HI := Lib.hid (And.intro hsl hsw)
        clear hr1 hsl hsw
        rcases hw with ⟨hw1, rfl, hy, rfl⟩ | ⟨j, hij, hj, hw1, rfl, rfl, rfl, rfl⟩
        · obtain ⟨hsl, hsw⟩ := HI.out
          have HW1 := Lib.hid hw1
          have HY := Lib.hid hy
          clear hw1 hy
          go_wp2_with (first | (go_at_call 28; (with_reducible refine (HE'.out _ (by repeat (first | (with_reducible exact Gr.refl _) | (with_reducible assumption) | (with_reducible refine Gr.alloc ?_ _) | (with_reducible refine Gr.drew ?_) | (with_reducible refine Gr.drewN ?_ _) | (with_reducible refine Gr.setCell ?_ (by simp <;> omega) _) | (with_reducible refine Gr.trans ?_ (by with_reducible assumption)) | exact Gr.refl _ | assumption | refine Gr.alloc ?_ _ | refine Gr.drew ?_ | refine Gr.drewN ?_ _ | refine Gr.setCell ?_ (by simp <;> omega) _ | refine Gr.trans ?_ (by assumption)))).mono ?_); rintro e w6 ⟨rfl, hb⟩; obtain ⟨hc, hf⟩ := hb.cells; have hz6 := Gr.size hb; (try simp at hz6); have hz7 : w.heap.size + 1 < w6.heap.size := (by omega); have hz8 : w.heap.size < w6.heap.size := (by omega); have hz9 : g < w6.heap.size := (by omega)) | (go_at_call 23; (with_reducible refine (none_any _ HY.out _ _ _).mono ?_); rintro e w7 ⟨rfl, hb⟩) | (go_at_call 29; (with_reducible refine (IsRange_is x A _ c _ _ true HR1.out hx _).mono ?_); rintro e w6 ⟨rfl, hb⟩; obtain ⟨hc, hf⟩ := hb.cells; have hz6 := Gr.size hb; (try simp at hz6); have hz7 : w.heap.size + 1 < w6.heap.size := (by omega); have hz8 : w.heap.size < w6.heap.size := (by omega); have hz9 : g < w6.heap.size := (by omega)) | (go_at_call 29; (with_reducible refine (IsRange_is x A _ c _ _ false HW1.out hx _).mono ?_); rintro e w6 ⟨rfl, hb⟩; obtain ⟨hc, hf⟩ := hb.cells; have hz6 := Gr.size hb; (try simp at hz6); have hz7 : w.heap.size + 1 < w6.heap.size := (by omega); have hz8 : w.heap.size < w6.heap.size := (by omega); have hz9 : g < w6.heap.size := (by omega)))
          go_ret
          exact ⟨ret_bool (by simp), G4.out.trans (by repeat (first | (with_reducible exact Gr.refl _) | (with_reducible assumption) | (with_reducible refine Gr.alloc ?_ _) | (with_reducible refine Gr.drew ?_) | (with_reducible refine Gr.drewN ?_ _) | (with_reducible refine Gr.setCell ?_ (by simp <;> omega) _) | (with_reducible refine Gr.trans ?_ (by with_reducible assumption)) | exact Gr.refl _ | assumption | refine Gr.alloc ?_ _ | refine Gr.drew ?_ | refine Gr.drewN ?_ _ | refine Gr.setCell ?_ (by simp <;> omega) _ | refine Gr.trans ?_ (by assumption)))⟩
        · obtain rfl : i = j := by omega
          clear hij
          obtain ⟨hsl, hsw⟩ := HI.out
          have HW1 := Lib.hid hw1
          have HY := Lib.hid (show (⟨#[]⟩ : ByteArray).size = 0 from rfl)
          have hj1 : (i : Int) + d.size ≤ 9223372036854775807 := by omega
          clear hw1 hj1
          go_wp2_with (first | (go_at_call 28; (with_reducible refine (HE'.out _ (by repeat (first | (with_reducible exact Gr.refl _) | (with_reducible assumption) | (with_reducible refine Gr.alloc ?_ _) | (with_reducible refine Gr.drew ?_) | (with_reducible refine Gr.drewN ?_ _) | (with_reducible refine Gr.setCell ?_ (by simp <;> omega) _) | (with_reducible refine Gr.trans ?_ (by with_reducible assumption)) | exact Gr.refl _ | assumption | refine Gr.alloc ?_ _ | refine Gr.drew ?_ | refine Gr.drewN ?_ _ | refine Gr.setCell ?_ (by simp <;> omega) _ | refine Gr.trans ?_ (by assumption)))).mono ?_); rintro e w6 ⟨rfl, hb⟩; obtain ⟨hc, hf⟩ := hb.cells; have hz6 := Gr.size hb; (try simp at hz6); have hz7 : w.heap.size + 1 < w6.heap.size := (by omega); have hz8 : w.heap.size < w6.heap.size := (by omega); have hz9 : g < w6.heap.size := (by omega)) | (go_at_call 23; (with_reducible refine (none_any _ HY.out _ _ _).mono ?_); rintro e w7 ⟨rfl, hb⟩) | (go_at_call 29; (with_reducible refine (IsRange_is x A _ c _ _ true HR1.out hx _).mono ?_); rintro e w6 ⟨rfl, hb⟩; obtain ⟨hc, hf⟩ := hb.cells; have hz6 := Gr.size hb; (try simp at hz6); have hz7 : w.heap.size + 1 < w6.heap.size := (by omega); have hz8 : w.heap.size < w6.heap.size := (by omega); have hz9 : g < w6.heap.size := (by omega)) | (go_at_call 29; (with_reducible refine (IsRange_is x A _ c _ _ true HW1.out hx _).mono ?_); rintro e w6 ⟨rfl, hb⟩; obtain ⟨hc, hf⟩ := hb.cells; have hz6 := Gr.size hb; (try simp at hz6); have hz7 : w.heap.size + 1 < w6.heap.size := (by omega); have hz8 : w.heap.size < w6.heap.size := (by omega); have hz9 : g < w6.heap.size := (by omega)))
          have GX := Lib.hid (show Gr W4 w6 from (by repeat (first | (with_reducible exact Gr.refl _) | (with_reducible assumption) | (with_reducible refine Gr.alloc ?_ _) | (with_reducible refine Gr.drew ?_) | (with_reducible refine Gr.drewN ?_ _) | (with_reducible refine Gr.setCell ?_ (by simp <;> omega) _) | (with_reducible refine Gr.trans ?_ (by with_reducible assumption)) | exact Gr.refl _ | assumption | refine Gr.alloc ?_ _ | refine Gr.drew ?_ | refine Gr.drewN ?_ _ | refine Gr.setCell ?_ (by simp <;> omega) _ | refine Gr.trans ?_ (by assumption))))
          have b0' := GX.out.keep b0
          have b1' := GX.out.keep b1
          have b2' := GX.out.keep b2
          have b3' := GX.out.keep b3
          have b4' := GX.out.keep b4
          have v0' := GX.out.keep v0
          have v1' := GX.out.keep v1
          have hx2 : x.size ≤ 1024 := hx1
          clear hc hf hb b0 b1 b2 b3 b4 v0 v1
          generalize w6 = W6 at *
          go_region_held3 (fun w' => w'.cell? ⟨w.heap.size, 0, none⟩ = some (.string x) ∧ w'.cell? ⟨w.heap.size, 1, none⟩ = some (.slice A m c) ∧ w'.cell? ⟨w.heap.size + 1, 0, none⟩ = some (.int .i64 i) ∧ w'.cell? ⟨w.heap.size + 1, 2, none⟩ = some (.string d) ∧ w'.cell? ⟨g, 0, none⟩ = some (.string (pS x i d)) ∧ w'.cell? ⟨g, 1, none⟩ = some (.slice A4 m c4)) (((try go_split_ands); (repeat' apply And.intro) <;> ((try simp only [World.cell?_drew]); first | (with_reducible assumption) | (simp [go_sem]; done) | ((repeat (first | (refine keepFar ?_ (by first | (dsimp only; omega) | (simp; done) | (simp; omega))) | (refine (Gr.alloc (Gr.refl _) _).keep ?_))); (try simp only [World.cell?_drew]); first | (with_reducible assumption) | (refine hb.keep ?_; (try simp only [World.cell?_drew]); first | (with_reducible assumption) | (simp [go_sem]; done) | ((repeat (refine (Gr.alloc (Gr.refl _) _).keep ?_)); (try simp only [World.cell?_drew]); (with_reducible assumption))) | (simp [*, go_sem]; done)))))
            (first
              | (go_at_call 30; (with_reducible refine (Write_any x A m c bs i d _ (HS.out.gr (G4.out.trans (GX.out.trans (by repeat (first | (with_reducible exact Gr.refl _) | (with_reducible assumption) | (with_reducible refine Gr.alloc ?_ _) | (with_reducible refine Gr.drew ?_) | (with_reducible refine Gr.drewN ?_ _) | (with_reducible refine Gr.setCell ?_ (by simp <;> omega) _) | (with_reducible refine Gr.trans ?_ (by with_reducible assumption)) | exact Gr.refl _ | assumption | refine Gr.alloc ?_ _ | refine Gr.drew ?_ | refine Gr.drewN ?_ _ | refine Gr.setCell ?_ (by simp <;> omega) _ | refine Gr.trans ?_ (by assumption)))))) hx2 HN.out hj).mono ?_); rintro e w7 ⟨A7, c7, rfl, hV7, hb⟩; have HV7 := Lib.hid hV7; clear hV7)
              | (go_at_call 24; (with_reducible refine (Same_any (pS x i d) A4 _ m c4 _ _ _ (HV.out.gr (GX.out.trans (by repeat (first | (with_reducible exact Gr.refl _) | (with_reducible assumption) | (with_reducible refine Gr.alloc ?_ _) | (with_reducible refine Gr.drew ?_) | (with_reducible refine Gr.drewN ?_ _) | (with_reducible refine Gr.setCell ?_ (by simp <;> omega) _) | (with_reducible refine Gr.trans ?_ (by with_reducible assumption)) | exact Gr.refl _ | assumption | refine Gr.alloc ?_ _ | refine Gr.drew ?_ | refine Gr.drewN ?_ _ | refine Gr.setCell ?_ (by simp <;> omega) _ | refine Gr.trans ?_ (by assumption))))) (HV7.out.sv.gr (by repeat (first | (with_reducible exact Gr.refl _) | (with_reducible assumption) | (with_reducible refine Gr.alloc ?_ _) | (with_reducible refine Gr.drew ?_) | (with_reducible refine Gr.drewN ?_ _) | (with_reducible refine Gr.setCell ?_ (by simp <;> omega) _) | (with_reducible refine Gr.trans ?_ (by with_reducible assumption)) | exact Gr.refl _ | assumption | refine Gr.alloc ?_ _ | refine Gr.drew ?_ | refine Gr.drewN ?_ _ | refine Gr.setCell ?_ (by simp <;> omega) _ | refine Gr.trans ?_ (by assumption))))).mono ?_); rintro e w8 ⟨rfl, hb8⟩; have hb := hb.trans (Gr.trans (by repeat (first | (with_reducible exact Gr.refl _) | (with_reducible assumption) | (with_reducible refine Gr.alloc ?_ _) | (with_reducible refine Gr.drew ?_) | (with_reducible refine Gr.drewN ?_ _) | (with_reducible refine Gr.setCell ?_ (by simp <;> omega) _) | (with_reducible refine Gr.trans ?_ (by with_reducible assumption)) | exact Gr.refl _ | assumption | refine Gr.alloc ?_ _ | refine Gr.drew ?_ | refine Gr.drewN ?_ _ | refine Gr.setCell ?_ (by simp <;> omega) _ | refine Gr.trans ?_ (by assumption))) hb8)))
          go_wp2
          go_ret
          exact ⟨rfl, G4.out.trans (GX.out.trans (by repeat (first | (with_reducible exact Gr.refl _) | (with_reducible assumption) | (with_reducible refine Gr.alloc ?_ _) | (with_reducible refine Gr.drew ?_) | (with_reducible refine Gr.drewN ?_ _) | (with_reducible refine Gr.setCell ?_ (by simp <;> omega) _) | (with_reducible refine Gr.trans ?_ (by with_reducible assumption)) | exact Gr.refl _ | assumption | refine Gr.alloc ?_ _ | refine Gr.drew ?_ | refine Gr.drewN ?_ _ | refine Gr.setCell ?_ (by simp <;> omega) _ | refine Gr.trans ?_ (by assumption))))⟩
end Go.Proofs.Ytbgeghodiibmmaa
