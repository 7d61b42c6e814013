/- TaggedCopies' walk. -/
import Derived.Test.YtbgeghodiibmmaaTx
import Derived.Test.YtbgeghodiibmmaaTo
namespace Go.Proofs.Ytbgeghodiibmmaa
set_option linter.unusedSimpArgs false
set_option linter.unusedVariables false
open Go.RowKit

theorem CopyErr_is (x : ByteArray) (A : Option Addr) (n c : Nat) (fr tu l : Int) (tags : Bool) (C : Int) (hC : crErr x fr tu l tags = C) (w : World) (hx : x.size ≤ maxLen) :
    Calls Try.prog 38 #[.agg #[.string x, .slice A n c], .agg #[.int .i64 fr, .int .i64 tu, .int .i64 l], .bool tags] w fun e w' => e = .returned (.int .i64 C) ∧ Gr w w' := by
  subst hC
  exact CopyErr_any x A n c fr tu l tags w hx
/-- What the two calls return: all cases. -/
def TcH (x ty uy : ByteArray) (n tm um : Nat) (bs tys uys : List Bool) (fr tu l tf uf : Int) : Prop :=
  (∃ C, ckErr x bs = C ∧ C ≠ 0 ∧ tf = C ∧ uf = C ∧ ty.size = 0 ∧ tm = 0 ∧ uy.size = 0 ∧ um = 0) ∨
  (ckErr x bs = 0 ∧ crErr x fr tu l false = 3 ∧ tf = 3 ∧ uf = 3 ∧ ty.size = 0 ∧ tm = 0 ∧ uy.size = 0 ∧ um = 0) ∨
  (ckErr x bs = 0 ∧ crErr x fr tu l false = 0 ∧ tf = 0 ∧
    (∀ W A c, Sv W A n c 1 (bv bs) → Calls Try.prog 39 #[.agg #[.string x, .slice A n c], .agg #[.int .i64 fr, .int .i64 tu, .int .i64 l], .bool false] W (StR ty tm tys W)) ∧
    ((crErr x fr tu l true = 15 ∧ uf = 15 ∧ uy.size = 0 ∧ um = 0) ∨
     (crErr x fr tu l true = 0 ∧ uf = 0 ∧ (∀ W A c, Sv W A n c 1 (bv bs) → Calls Try.prog 39 #[.agg #[.string x, .slice A n c], .agg #[.int .i64 fr, .int .i64 tu, .int .i64 l], .bool true] W (StR uy um uys W)))))

set_option maxHeartbeats 4000000 in
set_option maxRecDepth 100000 in
theorem tc_walk (x ty uy : ByteArray) (A : Option Addr) (n c tm um : Nat) (bs tys uys : List Bool) (a l d tf uf : Int) (w : World) (hs : Sv w A n c 1 (bv bs)) (hx : x.size ≤ maxLen) (hn : n ≤ 1000000)
    (hfew : fewB x n = true)
    (HT : ∀ W A c, Sv W A n c 1 (bv bs) → Calls Try.prog 36 #[.agg #[.string x, .slice A n c], .agg #[.int .i64 a, .int .i64 l, .int .i64 d]] W (StE ty tm tys tf W))
    (HU : ∀ W A c, Sv W A n c 1 (bv bs) → Calls Try.prog 37 #[.agg #[.string x, .slice A n c], .agg #[.int .i64 a, .int .i64 l, .int .i64 d]] W (StE uy um uys uf W))
    (HH : TcH x ty uy n tm um bs tys uys a l d tf uf) :
    Calls Try.prog 7 #[.agg #[.string x, .slice A n c], .agg #[.int .i64 a, .int .i64 l, .int .i64 d]] w fun e w' => e = .returned (.bool true) ∧ Gr w w' := by
  have HS := Lib.hid hs
  have HT' := Lib.hid HT
  have HU' := Lib.hid HU
  have H := Lib.hid HH
  clear hs HT HU HH
  go_enter Try.func7, Try.ntmps7
  go_upto_region 5 with (first | (go_at_call 10; (with_reducible refine (awake_any _).mono ?_); rintro e w1 ⟨rfl, hb⟩; obtain ⟨hc, hf⟩ := gcells hb (w.heap.size + 2) (by first | exact hz | omega | (simp; done) | (simp; omega)); have hz : w.heap.size + 2 ≤ w1.heap.size := (by have h := hb.size; (try simp at h); omega); have hz0 : w.heap.size < w1.heap.size := (by omega)) | (go_at_call 17; (with_reducible refine (few_any x A n c _).mono ?_); rintro e w1 ⟨rfl, hb⟩; obtain ⟨hc, hf⟩ := gcells hb (w.heap.size + 2) (by first | exact hz | omega | (simp; done) | (simp; omega)); have hz : w.heap.size + 2 ≤ w1.heap.size := (by have h := hb.size; (try simp at h); omega); have hz0 : w.heap.size < w1.heap.size := (by omega)))
  have q0 : w1.cell? ⟨w.heap.size, 0, none⟩ = some (.string x) ∧ w1.cell? ⟨w.heap.size, 1, none⟩ = some (.slice A n c) ∧ w1.cell? ⟨w.heap.size + 1, 0, none⟩ = some (.int .i64 a) ∧ w1.cell? ⟨w.heap.size + 1, 1, none⟩ = some (.int .i64 l) ∧ w1.cell? ⟨w.heap.size + 1, 2, none⟩ = some (.int .i64 d) := by refine ⟨?_, ?_, ?_, ?_, ?_⟩ <;> simp [go_sem, *]
  have G3 := Lib.hid (show Gr w w1 from (by repeat (first | (with_reducible exact Gr.refl _) | (with_reducible assumption) | (with_reducible refine Gr.alloc ?_ _) | (with_reducible refine Gr.drew ?_) | (with_reducible refine Gr.drewN ?_ _) | (with_reducible refine Gr.setCell ?_ (by simp <;> omega) _) | (with_reducible refine Gr.trans ?_ (by with_reducible assumption)) | exact Gr.refl _ | assumption | refine Gr.alloc ?_ _ | refine Gr.drew ?_ | refine Gr.drewN ?_ _ | refine Gr.setCell ?_ (by simp <;> omega) _ | refine Gr.trans ?_ (by assumption))))
  obtain ⟨b0', b1', b2', b3', b4'⟩ := q0
  have hz3 : w.heap.size + 2 ≤ w1.heap.size := hz
  clear hc hf hb hz0 hz
  generalize w1 = W3 at *
  go_cut [5, 6] (fun s7 s8 wx => TbC W3 ty tm tys tf s7 s8 wx)
  case first =>
    go_region_held3 (fun w' => w'.cell? ⟨w.heap.size, 0, none⟩ = some (.string x) ∧ w'.cell? ⟨w.heap.size, 1, none⟩ = some (.slice A n c) ∧ w'.cell? ⟨w.heap.size + 1, 0, none⟩ = some (.int .i64 a) ∧ w'.cell? ⟨w.heap.size + 1, 1, none⟩ = some (.int .i64 l) ∧ w'.cell? ⟨w.heap.size + 1, 2, none⟩ = some (.int .i64 d)) (((try go_split_ands); (repeat' apply And.intro) <;> ((try simp only [World.cell?_drew]); first | (with_reducible assumption) | (simp [go_sem]; done) | ((repeat (first | (refine keepFar ?_ (by first | (dsimp only; omega) | (simp; done) | (simp; omega))) | (refine (Gr.alloc (Gr.refl _) _).keep ?_))); (try simp only [World.cell?_drew]); first | (with_reducible assumption) | (refine hb.keep ?_; (try simp only [World.cell?_drew]); first | (with_reducible assumption) | (simp [go_sem]; done) | ((repeat (refine (Gr.alloc (Gr.refl _) _).keep ?_)); (try simp only [World.cell?_drew]); (with_reducible assumption))) | (simp [*, go_sem]; done)))))
      (first
        | (go_at_call 19; (with_reducible refine (OwnStorage_more x A n c bs _ (HS.out.gr (G3.out.trans (by repeat (first | (with_reducible exact Gr.refl _) | (with_reducible assumption) | (with_reducible refine Gr.alloc ?_ _) | (with_reducible refine Gr.drew ?_) | (with_reducible refine Gr.drewN ?_ _) | (with_reducible refine Gr.setCell ?_ (by simp <;> omega) _) | (with_reducible refine Gr.trans ?_ (by with_reducible assumption)) | exact Gr.refl _ | assumption | refine Gr.alloc ?_ _ | refine Gr.drew ?_ | refine Gr.drewN ?_ _ | refine Gr.setCell ?_ (by simp <;> omega) _ | refine Gr.trans ?_ (by assumption))))) hn).mono ?_); rintro e w4 ⟨⟨A2, c2, rfl, hV, hb⟩, hz4⟩; have HV := Lib.hid hV; clear hV; obtain ⟨hc4, hf4⟩ := hb.cells; (try simp at hz4); have hz40 : W3.heap.size < w4.heap.size := (by omega))
        | (go_at_call 36; (with_reducible refine (HT'.out _ _ _ (HV.out.sv.gr (by repeat (first | (with_reducible exact Gr.refl _) | (with_reducible assumption) | (with_reducible refine Gr.alloc ?_ _) | (with_reducible refine Gr.drew ?_) | (with_reducible refine Gr.drewN ?_ _) | (with_reducible refine Gr.setCell ?_ (by simp <;> omega) _) | (with_reducible refine Gr.trans ?_ (by with_reducible assumption)) | exact Gr.refl _ | assumption | refine Gr.alloc ?_ _ | refine Gr.drew ?_ | refine Gr.drewN ?_ _ | refine Gr.setCell ?_ (by simp <;> omega) _ | refine Gr.trans ?_ (by assumption))))).mono ?_); rintro e w5 ⟨A3, c3, rfl, hV3, hb3⟩; have HV3 := Lib.hid hV3; clear hV3; obtain ⟨hc5, hf5⟩ := hb3.cells; have hz5 := Gr.size hb3; (try simp at hz5); have hb := hb.trans (Gr.trans (by repeat (first | (with_reducible exact Gr.refl _) | (with_reducible assumption) | (with_reducible refine Gr.alloc ?_ _) | (with_reducible refine Gr.drew ?_) | (with_reducible refine Gr.drewN ?_ _) | (with_reducible refine Gr.setCell ?_ (by simp <;> omega) _) | (with_reducible refine Gr.trans ?_ (by with_reducible assumption)) | exact Gr.refl _ | assumption | refine Gr.alloc ?_ _ | refine Gr.drew ?_ | refine Gr.drewN ?_ _ | refine Gr.setCell ?_ (by simp <;> omega) _ | refine Gr.trans ?_ (by assumption))) hb3)))
    all_goals
      go_wp2_with fail
      go_meet
      clear HT' HU' HS
      refine ⟨_, rfl, rfl, ?_, ⟨A3, c3, ?_, ?_, ?_, ?_⟩, ?_⟩
      · first | omega | (simp; omega)
      · first | (simp; done) | (simp; omega) | omega
      · simp [go_sem, *]
      · simp [go_sem, *]
      · first | (refine ((HV3.out.setLow ?_ _).setLow ?_ _).sv <;> first | (simp; done) | (simp; omega)) | (refine HV3.out.sv.gr ?_; exact (by repeat (first | (with_reducible exact Gr.refl _) | (with_reducible assumption) | (with_reducible refine Gr.alloc ?_ _) | (with_reducible refine Gr.drew ?_) | (with_reducible refine Gr.drewN ?_ _) | (with_reducible refine Gr.setCell ?_ (by simp <;> omega) _) | (with_reducible refine Gr.trans ?_ (by with_reducible assumption)) | exact Gr.refl _ | assumption | refine Gr.alloc ?_ _ | refine Gr.drew ?_ | refine Gr.drewN ?_ _ | refine Gr.setCell ?_ (by simp <;> omega) _ | refine Gr.trans ?_ (by assumption))))
      · exact (by repeat (first | (with_reducible exact Gr.refl _) | (with_reducible assumption) | (with_reducible refine Gr.alloc ?_ _) | (with_reducible refine Gr.drew ?_) | (with_reducible refine Gr.drewN ?_ _) | (with_reducible refine Gr.setCell ?_ (by simp <;> omega) _) | (with_reducible refine Gr.trans ?_ (by with_reducible assumption)) | exact Gr.refl _ | assumption | refine Gr.alloc ?_ _ | refine Gr.drew ?_ | refine Gr.drewN ?_ _ | refine Gr.setCell ?_ (by simp <;> omega) _ | refine Gr.trans ?_ (by assumption)))
  case rest =>
    obtain ⟨gt, rfl, rfl, hgt, ⟨At, ct, hgtl, t0', t1', hvt⟩, hG⟩ := hcut
    have b0 := hG.keep b0'
    have b1 := hG.keep b1'
    have b2 := hG.keep b2'
    have b3 := hG.keep b3'
    have b4 := hG.keep b4'
    have G5 := Lib.hid (G3.out.trans hG)
    have HVt := Lib.hid hvt
    have hz4 : w.heap.size + 2 ≤ wc.heap.size := by have := Gr.size hG; omega
    clear hG hvt b0' b1' b2' b3' b4' G3 HT' hz3 hgt
    generalize wc = W5 at *
    go_upto_region 6 with (fail)
    go_cut [7, 8] (fun s7 s8 wx => TbC W5 uy um uys uf s7 s8 wx)
    case first =>
      go_region_held3 (fun w' => w'.cell? ⟨w.heap.size, 0, none⟩ = some (.string x) ∧ w'.cell? ⟨w.heap.size, 1, none⟩ = some (.slice A n c) ∧ w'.cell? ⟨w.heap.size + 1, 0, none⟩ = some (.int .i64 a) ∧ w'.cell? ⟨w.heap.size + 1, 1, none⟩ = some (.int .i64 l) ∧ w'.cell? ⟨w.heap.size + 1, 2, none⟩ = some (.int .i64 d)) (((try go_split_ands); (repeat' apply And.intro) <;> ((try simp only [World.cell?_drew]); first | (with_reducible assumption) | (simp [go_sem]; done) | ((repeat (first | (refine keepFar ?_ (by first | (dsimp only; omega) | (simp; done) | (simp; omega))) | (refine (Gr.alloc (Gr.refl _) _).keep ?_))); (try simp only [World.cell?_drew]); first | (with_reducible assumption) | (refine hb.keep ?_; (try simp only [World.cell?_drew]); first | (with_reducible assumption) | (simp [go_sem]; done) | ((repeat (refine (Gr.alloc (Gr.refl _) _).keep ?_)); (try simp only [World.cell?_drew]); (with_reducible assumption))) | (simp [*, go_sem]; done)))))
        (first
          | (go_at_call 19; (with_reducible refine (OwnStorage_more x A n c bs _ (HS.out.gr (G5.out.trans (by repeat (first | (with_reducible exact Gr.refl _) | (with_reducible assumption) | (with_reducible refine Gr.alloc ?_ _) | (with_reducible refine Gr.drew ?_) | (with_reducible refine Gr.drewN ?_ _) | (with_reducible refine Gr.setCell ?_ (by simp <;> omega) _) | (with_reducible refine Gr.trans ?_ (by with_reducible assumption)) | exact Gr.refl _ | assumption | refine Gr.alloc ?_ _ | refine Gr.drew ?_ | refine Gr.drewN ?_ _ | refine Gr.setCell ?_ (by simp <;> omega) _ | refine Gr.trans ?_ (by assumption))))) hn).mono ?_); rintro e w4 ⟨⟨A2, c2, rfl, hV, hb⟩, hz4⟩; have HV := Lib.hid hV; clear hV; obtain ⟨hc4, hf4⟩ := hb.cells; (try simp at hz4); have hz40 : W5.heap.size < w4.heap.size := (by omega))
          | (go_at_call 37; (with_reducible refine (HU'.out _ _ _ (HV.out.sv.gr (by repeat (first | (with_reducible exact Gr.refl _) | (with_reducible assumption) | (with_reducible refine Gr.alloc ?_ _) | (with_reducible refine Gr.drew ?_) | (with_reducible refine Gr.drewN ?_ _) | (with_reducible refine Gr.setCell ?_ (by simp <;> omega) _) | (with_reducible refine Gr.trans ?_ (by with_reducible assumption)) | exact Gr.refl _ | assumption | refine Gr.alloc ?_ _ | refine Gr.drew ?_ | refine Gr.drewN ?_ _ | refine Gr.setCell ?_ (by simp <;> omega) _ | refine Gr.trans ?_ (by assumption))))).mono ?_); rintro e w5 ⟨A3, c3, rfl, hV3, hb3⟩; have HV3 := Lib.hid hV3; clear hV3; obtain ⟨hc5, hf5⟩ := hb3.cells; have hz5 := Gr.size hb3; (try simp at hz5); have hb := hb.trans (Gr.trans (by repeat (first | (with_reducible exact Gr.refl _) | (with_reducible assumption) | (with_reducible refine Gr.alloc ?_ _) | (with_reducible refine Gr.drew ?_) | (with_reducible refine Gr.drewN ?_ _) | (with_reducible refine Gr.setCell ?_ (by simp <;> omega) _) | (with_reducible refine Gr.trans ?_ (by with_reducible assumption)) | exact Gr.refl _ | assumption | refine Gr.alloc ?_ _ | refine Gr.drew ?_ | refine Gr.drewN ?_ _ | refine Gr.setCell ?_ (by simp <;> omega) _ | refine Gr.trans ?_ (by assumption))) hb3)))
      all_goals
        go_wp2_with fail
        go_meet
        clear HU' HS HVt
        refine ⟨_, rfl, rfl, ?_, ⟨A3, c3, ?_, ?_, ?_, ?_⟩, ?_⟩
        · first | omega | (simp; omega)
        · first | (simp; done) | (simp; omega) | omega
        · simp [go_sem, *]
        · simp [go_sem, *]
        · first | (refine ((HV3.out.setLow ?_ _).setLow ?_ _).sv <;> first | (simp; done) | (simp; omega)) | (refine HV3.out.sv.gr ?_; exact (by repeat (first | (with_reducible exact Gr.refl _) | (with_reducible assumption) | (with_reducible refine Gr.alloc ?_ _) | (with_reducible refine Gr.drew ?_) | (with_reducible refine Gr.drewN ?_ _) | (with_reducible refine Gr.setCell ?_ (by simp <;> omega) _) | (with_reducible refine Gr.trans ?_ (by with_reducible assumption)) | exact Gr.refl _ | assumption | refine Gr.alloc ?_ _ | refine Gr.drew ?_ | refine Gr.drewN ?_ _ | refine Gr.setCell ?_ (by simp <;> omega) _ | refine Gr.trans ?_ (by assumption))))
        · exact (by repeat (first | (with_reducible exact Gr.refl _) | (with_reducible assumption) | (with_reducible refine Gr.alloc ?_ _) | (with_reducible refine Gr.drew ?_) | (with_reducible refine Gr.drewN ?_ _) | (with_reducible refine Gr.setCell ?_ (by simp <;> omega) _) | (with_reducible refine Gr.trans ?_ (by with_reducible assumption)) | exact Gr.refl _ | assumption | refine Gr.alloc ?_ _ | refine Gr.drew ?_ | refine Gr.drewN ?_ _ | refine Gr.setCell ?_ (by simp <;> omega) _ | refine Gr.trans ?_ (by assumption)))
    case rest =>
      obtain ⟨gu, rfl, rfl, hgu, ⟨Au, cu, hgul, u0', u1', hvu⟩, hG⟩ := hcut
      have b0' := hG.keep b0
      have b1' := hG.keep b1
      have b2' := hG.keep b2
      have b3' := hG.keep b3
      have b4' := hG.keep b4
      have t0 := hG.keep t0'
      have t1 := hG.keep t1'
      have G6 := Lib.hid (G5.out.trans hG)
      have HVu := Lib.hid hvu
      have HVt' := Lib.hid (HVt.out.gr hG)
      have hsz := Gr.size hG
      have hz5 : w.heap.size + 1 < wc.heap.size := by omega
      have hz6 : w.heap.size < wc.heap.size := by omega
      have hz7 : gt < wc.heap.size := by omega
      clear hG hvu b0 b1 b2 b3 b4 t0' t1' G5 HU' hz4 hgu hgtl HVt hsz
      generalize wc = W6 at *
      rcases H.out with ⟨C, hC, hC0, rfl, rfl, hy, rfl, hy2, rfl⟩ | ⟨hC, hr, rfl, rfl, hy, rfl, hy2, rfl⟩ | ⟨hC, hr, rfl, hcf, hct⟩
      · have e0 : (uf == 0) = false := by simp [hC0]
        have e1 : (uf != 0) = true := by simp [hC0]
        have HY := Lib.hid hy
        have HY2 := Lib.hid hy2
        have HE' := Lib.hid (show ∀ (W : World) (hg : Gr W6 W), Calls Try.prog 28 #[.agg #[.string x, .slice A n c]] W fun e w' => e = .returned (.int .i64 uf) ∧ Gr W w' from fun W hg => Err_is x A n c bs uf hC _ (HS.out.gr (G6.out.trans hg)) hx)
        clear hC0 hC hy hy2 H
        go_wp2_with (first | (go_at_call 28; (with_reducible refine (HE'.out _ (by repeat (first | (with_reducible exact Gr.refl _) | (with_reducible assumption) | (with_reducible refine Gr.alloc ?_ _) | (with_reducible refine Gr.drew ?_) | (with_reducible refine Gr.drewN ?_ _) | (with_reducible refine Gr.setCell ?_ (by simp <;> omega) _) | (with_reducible refine Gr.trans ?_ (by with_reducible assumption)) | exact Gr.refl _ | assumption | refine Gr.alloc ?_ _ | refine Gr.drew ?_ | refine Gr.drewN ?_ _ | refine Gr.setCell ?_ (by simp <;> omega) _ | refine Gr.trans ?_ (by assumption)))).mono ?_); rintro e w6 ⟨rfl, hb⟩; obtain ⟨hc, hf⟩ := hb.cells; have hz6 := Gr.size hb; (try simp at hz6); have hz7 : w.heap.size + 1 < w6.heap.size := (by omega); have hz8 : w.heap.size < w6.heap.size := (by omega); have hz9 : gt < w6.heap.size := (by omega); have hz10 : gu < w6.heap.size := (by omega)) | (go_at_call 23; (with_reducible refine (none_any ty HY.out _ _ _).mono ?_); rintro e w6 ⟨rfl, hb⟩; obtain ⟨hc, hf⟩ := hb.cells; have hz6 := Gr.size hb; (try simp at hz6); have hz7 : w.heap.size + 1 < w6.heap.size := (by omega); have hz8 : w.heap.size < w6.heap.size := (by omega); have hz9 : gt < w6.heap.size := (by omega); have hz10 : gu < w6.heap.size := (by omega)) | (go_at_call 23; (with_reducible refine (none_any uy HY2.out _ _ _).mono ?_); rintro e w6 ⟨rfl, hb⟩; obtain ⟨hc, hf⟩ := hb.cells; have hz6 := Gr.size hb; (try simp at hz6); have hz7 : w.heap.size + 1 < w6.heap.size := (by omega); have hz8 : w.heap.size < w6.heap.size := (by omega); have hz9 : gt < w6.heap.size := (by omega); have hz10 : gu < w6.heap.size := (by omega)))
        go_ret
        exact ⟨ret_bool (by simp), G6.out.trans (by repeat (first | (with_reducible exact Gr.refl _) | (with_reducible assumption) | (with_reducible refine Gr.alloc ?_ _) | (with_reducible refine Gr.drew ?_) | (with_reducible refine Gr.drewN ?_ _) | (with_reducible refine Gr.setCell ?_ (by simp <;> omega) _) | (with_reducible refine Gr.trans ?_ (by with_reducible assumption)) | exact Gr.refl _ | assumption | refine Gr.alloc ?_ _ | refine Gr.drew ?_ | refine Gr.drewN ?_ _ | refine Gr.setCell ?_ (by simp <;> omega) _ | refine Gr.trans ?_ (by assumption)))⟩
      · have HY := Lib.hid hy
        have HY2 := Lib.hid hy2
        have HQ := Lib.hid hr
        have HE' := Lib.hid (show ∀ (W : World) (hg : Gr W6 W), Calls Try.prog 28 #[.agg #[.string x, .slice A n c]] W fun e w' => e = .returned (.int .i64 0) ∧ Gr W w' from fun W hg => Err_is x A n c bs 0 hC _ (HS.out.gr (G6.out.trans hg)) hx)
        clear hC hy hy2 hr H
        go_wp2_with (first | (go_at_call 28; (with_reducible refine (HE'.out _ (by repeat (first | (with_reducible exact Gr.refl _) | (with_reducible assumption) | (with_reducible refine Gr.alloc ?_ _) | (with_reducible refine Gr.drew ?_) | (with_reducible refine Gr.drewN ?_ _) | (with_reducible refine Gr.setCell ?_ (by simp <;> omega) _) | (with_reducible refine Gr.trans ?_ (by with_reducible assumption)) | exact Gr.refl _ | assumption | refine Gr.alloc ?_ _ | refine Gr.drew ?_ | refine Gr.drewN ?_ _ | refine Gr.setCell ?_ (by simp <;> omega) _ | refine Gr.trans ?_ (by assumption)))).mono ?_); rintro e w6 ⟨rfl, hb⟩; obtain ⟨hc, hf⟩ := hb.cells; have hz6 := Gr.size hb; (try simp at hz6); have hz7 : w.heap.size + 1 < w6.heap.size := (by omega); have hz8 : w.heap.size < w6.heap.size := (by omega); have hz9 : gt < w6.heap.size := (by omega); have hz10 : gu < w6.heap.size := (by omega)) | (go_at_call 38; (with_reducible refine (CopyErr_is x A _ c _ _ _ false 3 HQ.out _ hx).mono ?_); rintro e w6 ⟨rfl, hb⟩; obtain ⟨hc, hf⟩ := hb.cells; have hz6 := Gr.size hb; (try simp at hz6); have hz7 : w.heap.size + 1 < w6.heap.size := (by omega); have hz8 : w.heap.size < w6.heap.size := (by omega); have hz9 : gt < w6.heap.size := (by omega); have hz10 : gu < w6.heap.size := (by omega)) | (go_at_call 23; (with_reducible refine (none_any ty HY.out _ _ _).mono ?_); rintro e w6 ⟨rfl, hb⟩; obtain ⟨hc, hf⟩ := hb.cells; have hz6 := Gr.size hb; (try simp at hz6); have hz7 : w.heap.size + 1 < w6.heap.size := (by omega); have hz8 : w.heap.size < w6.heap.size := (by omega); have hz9 : gt < w6.heap.size := (by omega); have hz10 : gu < w6.heap.size := (by omega)) | (go_at_call 23; (with_reducible refine (none_any uy HY2.out _ _ _).mono ?_); rintro e w6 ⟨rfl, hb⟩; obtain ⟨hc, hf⟩ := hb.cells; have hz6 := Gr.size hb; (try simp at hz6); have hz7 : w.heap.size + 1 < w6.heap.size := (by omega); have hz8 : w.heap.size < w6.heap.size := (by omega); have hz9 : gt < w6.heap.size := (by omega); have hz10 : gu < w6.heap.size := (by omega)))
        go_ret
        exact ⟨ret_bool (by simp), G6.out.trans (by repeat (first | (with_reducible exact Gr.refl _) | (with_reducible assumption) | (with_reducible refine Gr.alloc ?_ _) | (with_reducible refine Gr.drew ?_) | (with_reducible refine Gr.drewN ?_ _) | (with_reducible refine Gr.setCell ?_ (by simp <;> omega) _) | (with_reducible refine Gr.trans ?_ (by with_reducible assumption)) | exact Gr.refl _ | assumption | refine Gr.alloc ?_ _ | refine Gr.drew ?_ | refine Gr.drewN ?_ _ | refine Gr.setCell ?_ (by simp <;> omega) _ | refine Gr.trans ?_ (by assumption)))⟩
      · have HQ := Lib.hid hr
        have HE' := Lib.hid (show ∀ (W : World) (hg : Gr W6 W), Calls Try.prog 28 #[.agg #[.string x, .slice A n c]] W fun e w' => e = .returned (.int .i64 0) ∧ Gr W w' from fun W hg => Err_is x A n c bs 0 hC _ (HS.out.gr (G6.out.trans hg)) hx)
        have HF := Lib.hid (show ∀ (W : World) (hg : Gr W6 W), Calls Try.prog 39 #[.agg #[.string x, .slice A n c], .agg #[.int .i64 a, .int .i64 l, .int .i64 d], .bool false] W (StR ty tm tys W) from fun W hg => hcf W A c (HS.out.gr (G6.out.trans hg)))
        clear hC hr hcf H
        go_wp2_with (first | (go_at_call 28; (with_reducible refine (HE'.out _ (by repeat (first | (with_reducible exact Gr.refl _) | (with_reducible assumption) | (with_reducible refine Gr.alloc ?_ _) | (with_reducible refine Gr.drew ?_) | (with_reducible refine Gr.drewN ?_ _) | (with_reducible refine Gr.setCell ?_ (by simp <;> omega) _) | (with_reducible refine Gr.trans ?_ (by with_reducible assumption)) | exact Gr.refl _ | assumption | refine Gr.alloc ?_ _ | refine Gr.drew ?_ | refine Gr.drewN ?_ _ | refine Gr.setCell ?_ (by simp <;> omega) _ | refine Gr.trans ?_ (by assumption)))).mono ?_); rintro e w6 ⟨rfl, hb⟩; obtain ⟨hc, hf⟩ := hb.cells; have hz6 := Gr.size hb; (try simp at hz6); have hz7 : w.heap.size + 1 < w6.heap.size := (by omega); have hz8 : w.heap.size < w6.heap.size := (by omega); have hz9 : gt < w6.heap.size := (by omega); have hz10 : gu < w6.heap.size := (by omega)) | (go_at_call 38; (with_reducible refine (CopyErr_is x A _ c _ _ _ false 0 HQ.out _ hx).mono ?_); rintro e w6 ⟨rfl, hb⟩; obtain ⟨hc, hf⟩ := hb.cells; have hz6 := Gr.size hb; (try simp at hz6); have hz7 : w.heap.size + 1 < w6.heap.size := (by omega); have hz8 : w.heap.size < w6.heap.size := (by omega); have hz9 : gt < w6.heap.size := (by omega); have hz10 : gu < w6.heap.size := (by omega)))
        have GX := Lib.hid (show Gr W6 w6 from (by repeat (first | (with_reducible exact Gr.refl _) | (with_reducible assumption) | (with_reducible refine Gr.alloc ?_ _) | (with_reducible refine Gr.drew ?_) | (with_reducible refine Gr.drewN ?_ _) | (with_reducible refine Gr.setCell ?_ (by simp <;> omega) _) | (with_reducible refine Gr.trans ?_ (by with_reducible assumption)) | exact Gr.refl _ | assumption | refine Gr.alloc ?_ _ | refine Gr.drew ?_ | refine Gr.drewN ?_ _ | refine Gr.setCell ?_ (by simp <;> omega) _ | refine Gr.trans ?_ (by assumption))))
        have b0 := GX.out.keep b0'
        have b1 := GX.out.keep b1'
        have b2 := GX.out.keep b2'
        have b3 := GX.out.keep b3'
        have b4 := GX.out.keep b4'
        have v0 := GX.out.keep t0
        have v1 := GX.out.keep t1
        have p0 := GX.out.keep u0'
        have p1 := GX.out.keep u1'
        have hzx := Gr.size GX.out
        have hzx1 : w.heap.size + 1 < w6.heap.size := by omega
        have hzx2 : w.heap.size < w6.heap.size := by omega
        have hzx3 : gu < w6.heap.size := by omega
        clear hc hf hb b0' b1' b2' b3' b4' t0 t1 u0' u1' HE' HQ hzx
        generalize w6 = W7 at *
        go_region_held3 (fun w' => w'.cell? ⟨w.heap.size, 0, none⟩ = some (.string x) ∧ w'.cell? ⟨w.heap.size, 1, none⟩ = some (.slice A n c) ∧ w'.cell? ⟨w.heap.size + 1, 0, none⟩ = some (.int .i64 a) ∧ w'.cell? ⟨w.heap.size + 1, 1, none⟩ = some (.int .i64 l) ∧ w'.cell? ⟨w.heap.size + 1, 2, none⟩ = some (.int .i64 d) ∧ w'.cell? ⟨gt, 0, none⟩ = some (.string ty) ∧ w'.cell? ⟨gt, 1, none⟩ = some (.slice At tm ct)) (((try go_split_ands); (repeat' apply And.intro) <;> ((try simp only [World.cell?_drew]); first | (with_reducible assumption) | (simp [go_sem]; done) | ((repeat (first | (refine keepFar ?_ (by first | (dsimp only; omega) | (simp; done) | (simp; omega))) | (refine (Gr.alloc (Gr.refl _) _).keep ?_))); (try simp only [World.cell?_drew]); first | (with_reducible assumption) | (refine hb.keep ?_; (try simp only [World.cell?_drew]); first | (with_reducible assumption) | (simp [go_sem]; done) | ((repeat (refine (Gr.alloc (Gr.refl _) _).keep ?_)); (try simp only [World.cell?_drew]); (with_reducible assumption))) | (simp [*, go_sem]; done)))))
          (first
            | (go_at_call 39; (with_reducible refine (HF.out _ (GX.out.trans (by repeat (first | (with_reducible exact Gr.refl _) | (with_reducible assumption) | (with_reducible refine Gr.alloc ?_ _) | (with_reducible refine Gr.drew ?_) | (with_reducible refine Gr.drewN ?_ _) | (with_reducible refine Gr.setCell ?_ (by simp <;> omega) _) | (with_reducible refine Gr.trans ?_ (by with_reducible assumption)) | exact Gr.refl _ | assumption | refine Gr.alloc ?_ _ | refine Gr.drew ?_ | refine Gr.drewN ?_ _ | refine Gr.setCell ?_ (by simp <;> omega) _ | refine Gr.trans ?_ (by assumption))))).mono ?_); rintro e w7 ⟨A7, c7, rfl, hV7, hb⟩; have HV7 := Lib.hid hV7; clear hV7)
            | (go_at_call 24; (with_reducible refine (Same_any ty At _ tm ct _ _ _ (HVt'.out.gr (GX.out.trans (by repeat (first | (with_reducible exact Gr.refl _) | (with_reducible assumption) | (with_reducible refine Gr.alloc ?_ _) | (with_reducible refine Gr.drew ?_) | (with_reducible refine Gr.drewN ?_ _) | (with_reducible refine Gr.setCell ?_ (by simp <;> omega) _) | (with_reducible refine Gr.trans ?_ (by with_reducible assumption)) | exact Gr.refl _ | assumption | refine Gr.alloc ?_ _ | refine Gr.drew ?_ | refine Gr.drewN ?_ _ | refine Gr.setCell ?_ (by simp <;> omega) _ | refine Gr.trans ?_ (by assumption))))) (HV7.out.sv.gr (by repeat (first | (with_reducible exact Gr.refl _) | (with_reducible assumption) | (with_reducible refine Gr.alloc ?_ _) | (with_reducible refine Gr.drew ?_) | (with_reducible refine Gr.drewN ?_ _) | (with_reducible refine Gr.setCell ?_ (by simp <;> omega) _) | (with_reducible refine Gr.trans ?_ (by with_reducible assumption)) | exact Gr.refl _ | assumption | refine Gr.alloc ?_ _ | refine Gr.drew ?_ | refine Gr.drewN ?_ _ | refine Gr.setCell ?_ (by simp <;> omega) _ | refine Gr.trans ?_ (by assumption))))).mono ?_); rintro e w8 ⟨rfl, hb8⟩; have hb := hb.trans (Gr.trans (by repeat (first | (with_reducible exact Gr.refl _) | (with_reducible assumption) | (with_reducible refine Gr.alloc ?_ _) | (with_reducible refine Gr.drew ?_) | (with_reducible refine Gr.drewN ?_ _) | (with_reducible refine Gr.setCell ?_ (by simp <;> omega) _) | (with_reducible refine Gr.trans ?_ (by with_reducible assumption)) | exact Gr.refl _ | assumption | refine Gr.alloc ?_ _ | refine Gr.drew ?_ | refine Gr.drewN ?_ _ | refine Gr.setCell ?_ (by simp <;> omega) _ | refine Gr.trans ?_ (by assumption))) hb8)))
        have GY := Lib.hid (show Gr W7 w8 from (by repeat (first | (with_reducible exact Gr.refl _) | (with_reducible assumption) | (with_reducible refine Gr.alloc ?_ _) | (with_reducible refine Gr.drew ?_) | (with_reducible refine Gr.drewN ?_ _) | (with_reducible refine Gr.setCell ?_ (by simp <;> omega) _) | (with_reducible refine Gr.trans ?_ (by with_reducible assumption)) | exact Gr.refl _ | assumption | refine Gr.alloc ?_ _ | refine Gr.drew ?_ | refine Gr.drewN ?_ _ | refine Gr.setCell ?_ (by simp <;> omega) _ | refine Gr.trans ?_ (by assumption))))
        have b0' := GY.out.keep b0
        have b1' := GY.out.keep b1
        have b2' := GY.out.keep b2
        have b3' := GY.out.keep b3
        have b4' := GY.out.keep b4
        have p0' := GY.out.keep p0
        have p1' := GY.out.keep p1
        have hzy := Gr.size GY.out
        have hzy1 : w.heap.size + 1 < w8.heap.size := by omega
        have hzy2 : w.heap.size < w8.heap.size := by omega
        have hzy3 : gu < w8.heap.size := by omega
        have GZ := Lib.hid (G6.out.trans (GX.out.trans GY.out))
        have HVu' := Lib.hid (HVu.out.gr (GX.out.trans GY.out))
        have hgtz : gt < w8.heap.size := by omega
        clear hb hb8 HV7 HF b0 b1 b2 b3 b4 v0 v1 p0 p1 HVu HVt' GX GY hzy hzx1 hzx2 hzx3
        generalize w8 = W8 at *
        rcases hct with ⟨hr2, rfl, hy, rfl⟩ | ⟨hr2, rfl, hct⟩
        · have HY := Lib.hid hy
          have HQ := Lib.hid hr2
          clear hy hr2
          go_wp2_with (first | (go_at_call 38; (with_reducible refine (CopyErr_is x A _ c _ _ _ true 15 HQ.out _ hx).mono ?_); rintro e w6 ⟨rfl, hb⟩; obtain ⟨hc, hf⟩ := hb.cells; have hz6 := Gr.size hb; (try simp at hz6); have hz7 : w.heap.size + 1 < w6.heap.size := (by omega); have hz8 : w.heap.size < w6.heap.size := (by omega); have hz9 : gt < w6.heap.size := (by omega); have hz10 : gu < w6.heap.size := (by omega)) | (go_at_call 23; (with_reducible refine (none_any uy HY.out _ _ _).mono ?_); rintro e w6 ⟨rfl, hb⟩; obtain ⟨hc, hf⟩ := hb.cells; have hz6 := Gr.size hb; (try simp at hz6); have hz7 : w.heap.size + 1 < w6.heap.size := (by omega); have hz8 : w.heap.size < w6.heap.size := (by omega); have hz9 : gt < w6.heap.size := (by omega); have hz10 : gu < w6.heap.size := (by omega)))
          go_ret
          exact ⟨ret_bool (by simp), GZ.out.trans (by repeat (first | (with_reducible exact Gr.refl _) | (with_reducible assumption) | (with_reducible refine Gr.alloc ?_ _) | (with_reducible refine Gr.drew ?_) | (with_reducible refine Gr.drewN ?_ _) | (with_reducible refine Gr.setCell ?_ (by simp <;> omega) _) | (with_reducible refine Gr.trans ?_ (by with_reducible assumption)) | exact Gr.refl _ | assumption | refine Gr.alloc ?_ _ | refine Gr.drew ?_ | refine Gr.drewN ?_ _ | refine Gr.setCell ?_ (by simp <;> omega) _ | refine Gr.trans ?_ (by assumption)))⟩
        · have HQ := Lib.hid hr2
          have HF := Lib.hid (show ∀ (W : World) (hg : Gr W8 W), Calls Try.prog 39 #[.agg #[.string x, .slice A n c], .agg #[.int .i64 a, .int .i64 l, .int .i64 d], .bool true] W (StR uy um uys W) from fun W hg => hct W A c (HS.out.gr (GZ.out.trans hg)))
          clear hr2 hct
          go_wp2_with (first | (go_at_call 38; (with_reducible refine (CopyErr_is x A _ c _ _ _ true 0 HQ.out _ hx).mono ?_); rintro e w6 ⟨rfl, hb⟩; obtain ⟨hc, hf⟩ := hb.cells; have hz6 := Gr.size hb; (try simp at hz6); have hz7 : w.heap.size + 1 < w6.heap.size := (by omega); have hz8 : w.heap.size < w6.heap.size := (by omega); have hz9 : gt < w6.heap.size := (by omega); have hz10 : gu < w6.heap.size := (by omega)))
          have GX := Lib.hid (show Gr W8 w6 from (by repeat (first | (with_reducible exact Gr.refl _) | (with_reducible assumption) | (with_reducible refine Gr.alloc ?_ _) | (with_reducible refine Gr.drew ?_) | (with_reducible refine Gr.drewN ?_ _) | (with_reducible refine Gr.setCell ?_ (by simp <;> omega) _) | (with_reducible refine Gr.trans ?_ (by with_reducible assumption)) | exact Gr.refl _ | assumption | refine Gr.alloc ?_ _ | refine Gr.drew ?_ | refine Gr.drewN ?_ _ | refine Gr.setCell ?_ (by simp <;> omega) _ | refine Gr.trans ?_ (by assumption))))
          have b0 := GX.out.keep b0'
          have b1 := GX.out.keep b1'
          have b2 := GX.out.keep b2'
          have b3 := GX.out.keep b3'
          have b4 := GX.out.keep b4'
          have p0 := GX.out.keep p0'
          have p1 := GX.out.keep p1'
          clear hc hf hb b0' b1' b2' b3' b4' p0' p1' HQ
          generalize w6 = W9 at *
          go_region_held3 (fun w' => w'.cell? ⟨w.heap.size, 0, none⟩ = some (.string x) ∧ w'.cell? ⟨w.heap.size, 1, none⟩ = some (.slice A n c) ∧ w'.cell? ⟨w.heap.size + 1, 0, none⟩ = some (.int .i64 a) ∧ w'.cell? ⟨w.heap.size + 1, 1, none⟩ = some (.int .i64 l) ∧ w'.cell? ⟨w.heap.size + 1, 2, none⟩ = some (.int .i64 d) ∧ w'.cell? ⟨gu, 0, none⟩ = some (.string uy) ∧ w'.cell? ⟨gu, 1, none⟩ = some (.slice Au um cu)) (((try go_split_ands); (repeat' apply And.intro) <;> ((try simp only [World.cell?_drew]); first | (with_reducible assumption) | (simp [go_sem]; done) | ((repeat (first | (refine keepFar ?_ (by first | (dsimp only; omega) | (simp; done) | (simp; omega))) | (refine (Gr.alloc (Gr.refl _) _).keep ?_))); (try simp only [World.cell?_drew]); first | (with_reducible assumption) | (refine hb.keep ?_; (try simp only [World.cell?_drew]); first | (with_reducible assumption) | (simp [go_sem]; done) | ((repeat (refine (Gr.alloc (Gr.refl _) _).keep ?_)); (try simp only [World.cell?_drew]); (with_reducible assumption))) | (simp [*, go_sem]; done)))))
            (first
              | (go_at_call 39; (with_reducible refine (HF.out _ (GX.out.trans (by repeat (first | (with_reducible exact Gr.refl _) | (with_reducible assumption) | (with_reducible refine Gr.alloc ?_ _) | (with_reducible refine Gr.drew ?_) | (with_reducible refine Gr.drewN ?_ _) | (with_reducible refine Gr.setCell ?_ (by simp <;> omega) _) | (with_reducible refine Gr.trans ?_ (by with_reducible assumption)) | exact Gr.refl _ | assumption | refine Gr.alloc ?_ _ | refine Gr.drew ?_ | refine Gr.drewN ?_ _ | refine Gr.setCell ?_ (by simp <;> omega) _ | refine Gr.trans ?_ (by assumption))))).mono ?_); rintro e w7 ⟨A7, c7, rfl, hV7, hb⟩; have HV7 := Lib.hid hV7; clear hV7)
              | (go_at_call 24; (with_reducible refine (Same_any uy Au _ um cu _ _ _ (HVu'.out.gr (GX.out.trans (by repeat (first | (with_reducible exact Gr.refl _) | (with_reducible assumption) | (with_reducible refine Gr.alloc ?_ _) | (with_reducible refine Gr.drew ?_) | (with_reducible refine Gr.drewN ?_ _) | (with_reducible refine Gr.setCell ?_ (by simp <;> omega) _) | (with_reducible refine Gr.trans ?_ (by with_reducible assumption)) | exact Gr.refl _ | assumption | refine Gr.alloc ?_ _ | refine Gr.drew ?_ | refine Gr.drewN ?_ _ | refine Gr.setCell ?_ (by simp <;> omega) _ | refine Gr.trans ?_ (by assumption))))) (HV7.out.sv.gr (by repeat (first | (with_reducible exact Gr.refl _) | (with_reducible assumption) | (with_reducible refine Gr.alloc ?_ _) | (with_reducible refine Gr.drew ?_) | (with_reducible refine Gr.drewN ?_ _) | (with_reducible refine Gr.setCell ?_ (by simp <;> omega) _) | (with_reducible refine Gr.trans ?_ (by with_reducible assumption)) | exact Gr.refl _ | assumption | refine Gr.alloc ?_ _ | refine Gr.drew ?_ | refine Gr.drewN ?_ _ | refine Gr.setCell ?_ (by simp <;> omega) _ | refine Gr.trans ?_ (by assumption))))).mono ?_); rintro e w8 ⟨rfl, hb8⟩; have hb := hb.trans (Gr.trans (by repeat (first | (with_reducible exact Gr.refl _) | (with_reducible assumption) | (with_reducible refine Gr.alloc ?_ _) | (with_reducible refine Gr.drew ?_) | (with_reducible refine Gr.drewN ?_ _) | (with_reducible refine Gr.setCell ?_ (by simp <;> omega) _) | (with_reducible refine Gr.trans ?_ (by with_reducible assumption)) | exact Gr.refl _ | assumption | refine Gr.alloc ?_ _ | refine Gr.drew ?_ | refine Gr.drewN ?_ _ | refine Gr.setCell ?_ (by simp <;> omega) _ | refine Gr.trans ?_ (by assumption))) hb8)))
          go_wp2
          go_ret
          exact ⟨rfl, GZ.out.trans (GX.out.trans (by repeat (first | (with_reducible exact Gr.refl _) | (with_reducible assumption) | (with_reducible refine Gr.alloc ?_ _) | (with_reducible refine Gr.drew ?_) | (with_reducible refine Gr.drewN ?_ _) | (with_reducible refine Gr.setCell ?_ (by simp <;> omega) _) | (with_reducible refine Gr.trans ?_ (by with_reducible assumption)) | exact Gr.refl _ | assumption | refine Gr.alloc ?_ _ | refine Gr.drew ?_ | refine Gr.drewN ?_ _ | refine Gr.setCell ?_ (by simp <;> omega) _ | refine Gr.trans ?_ (by assumption))))⟩
end Go.Proofs.Ytbgeghodiibmmaa
