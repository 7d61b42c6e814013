/- TaggedUnforged's walk. -/
import Derived.Test.YtbgeghodiibmmaaUb
import Derived.Test.YtbgeghodiibmmaaTo
namespace Go.Proofs.Ytbgeghodiibmmaa
set_option linter.unusedSimpArgs false
set_option linter.unusedVariables false
open Go.RowKit

/-- What the three calls return. -/
def TuH (x wy ty uy : ByteArray) (n wm tm um : Nat) (bs wys tys uys : List Bool) (wf tf uf : Int) : Prop :=
  ((wf == 0) = false ∨ (wf = 0 ∧ wm = n ∧ wy.size = x.size ∧ Kp wy x wys bs n)) ∧
  ((tf == 0) = false ∨ (tf = 0 ∧ tm = n ∧ ty.size = x.size ∧ Kp ty x tys bs n)) ∧
  ((uf != 0) = true ∨ (uf = 0 ∧ um = n ∧ uy.size = x.size ∧ Fd uy x uys bs n))

set_option maxHeartbeats 8000000 in
set_option maxRecDepth 100000 in
theorem tu_walk (x wy ty uy d : ByteArray) (A : Option Addr) (n c wm tm um : Nat) (bs wys tys uys : List Bool) (a pl fr tu l wf tf uf : Int) (w : World) (hs : Sv w A n c 1 (bv bs)) (hx : x.size ≤ 1024) (hnx : 16 * n = x.size)
    (hfew : fewB x n = true) (hd : (d.size : Int) ≤ 1200) (hC : ckErr x bs = 0)
    (HW : ∀ W A c, Sv W A n c 1 (bv bs) → Calls Try.prog 27 #[.agg #[.string x, .slice A n c], .int .i64 a, .string d] W (StE wy wm wys wf W))
    (HT : ∀ W A c, Sv W A n c 1 (bv bs) → Calls Try.prog 36 #[.agg #[.string x, .slice A n c], .agg #[.int .i64 fr, .int .i64 tu, .int .i64 l]] W (StE ty tm tys tf W))
    (HU : ∀ W A c, Sv W A n c 1 (bv bs) → Calls Try.prog 37 #[.agg #[.string x, .slice A n c], .agg #[.int .i64 fr, .int .i64 tu, .int .i64 l]] W (StE uy um uys uf W))
    (HH : TuH x wy ty uy n wm tm um bs wys tys uys wf tf uf) :
    Calls Try.prog 9 #[.agg #[.string x, .slice A n c], .agg #[.int .i64 a, .int .i64 pl, .string d], .agg #[.int .i64 fr, .int .i64 tu, .int .i64 l]] w fun e w' => e = .returned (.bool true) ∧ Gr w w' := by
  have HS := Lib.hid hs
  have HW' := Lib.hid HW
  have HT' := Lib.hid HT
  have HU' := Lib.hid HU
  have H := Lib.hid HH
  have HC := Lib.hid hC
  have hn : n ≤ 1000000 := by omega
  have hnb : n ≤ 64 := by omega
  have hxm : x.size ≤ maxLen := by unfold maxLen; omega
  have HN := Lib.hid hnx
  clear hs HW HT HU HH hC hnx
  go_enter Try.func9, Try.ntmps9
  go_upto_region 5 with (first | (go_at_call 10; (with_reducible refine (awake_any _).mono ?_); rintro e w1 ⟨rfl, hb⟩; obtain ⟨hc, hf⟩ := gcells hb (w.heap.size + 3) (by first | exact hz | omega | (simp; done) | (simp; omega)); have hz : w.heap.size + 3 ≤ w1.heap.size := (by have h := hb.size; (try simp at h); omega); have hz0 : w.heap.size < w1.heap.size := (by omega)) | (go_at_call 17; (with_reducible refine (few_any x A n c _).mono ?_); rintro e w1 ⟨rfl, hb⟩; obtain ⟨hc, hf⟩ := gcells hb (w.heap.size + 3) (by first | exact hz | omega | (simp; done) | (simp; omega)); have hz : w.heap.size + 3 ≤ w1.heap.size := (by have h := hb.size; (try simp at h); omega); have hz0 : w.heap.size < w1.heap.size := (by omega)) | (go_at_call 28; (with_reducible refine (Err_is x A n c bs 0 HC.out _ (HS.out.gr (by repeat (first | (with_reducible exact Gr.refl _) | (with_reducible assumption) | (with_reducible refine Gr.alloc ?_ _) | (with_reducible refine Gr.drew ?_) | (with_reducible refine Gr.drewN ?_ _) | (with_reducible refine Gr.setCell ?_ (by simp <;> omega) _) | (with_reducible refine Gr.trans ?_ (by with_reducible assumption)) | exact Gr.refl _ | assumption | refine Gr.alloc ?_ _ | refine Gr.drew ?_ | refine Gr.drewN ?_ _ | refine Gr.setCell ?_ (by simp <;> omega) _ | refine Gr.trans ?_ (by assumption)))) hxm).mono ?_); rintro e w1 ⟨rfl, hb⟩; obtain ⟨hc, hf⟩ := gcells hb (w.heap.size + 3) (by first | exact hz | omega | (simp; done) | (simp; omega)); have hz : w.heap.size + 3 ≤ w1.heap.size := (by have h := hb.size; (try simp at h); omega); have hz0 : w.heap.size < w1.heap.size := (by omega)))
  have q0 : w1.cell? ⟨w.heap.size, 0, none⟩ = some (.string x) ∧ w1.cell? ⟨w.heap.size, 1, none⟩ = some (.slice A n c) ∧ w1.cell? ⟨w.heap.size + 1, 0, none⟩ = some (.int .i64 a) ∧ w1.cell? ⟨w.heap.size + 1, 1, none⟩ = some (.int .i64 pl) ∧ w1.cell? ⟨w.heap.size + 1, 2, none⟩ = some (.string d) ∧ w1.cell? ⟨w.heap.size + 1 + 1, 0, none⟩ = some (.int .i64 fr) ∧ w1.cell? ⟨w.heap.size + 1 + 1, 1, none⟩ = some (.int .i64 tu) ∧ w1.cell? ⟨w.heap.size + 1 + 1, 2, none⟩ = some (.int .i64 l) := by refine ⟨?_, ?_, ?_, ?_, ?_, ?_, ?_, ?_⟩ <;> simp [go_sem, *]
  have G3 := Lib.hid (show Gr w w1 from (by repeat (first | (with_reducible exact Gr.refl _) | (with_reducible assumption) | (with_reducible refine Gr.alloc ?_ _) | (with_reducible refine Gr.drew ?_) | (with_reducible refine Gr.drewN ?_ _) | (with_reducible refine Gr.setCell ?_ (by simp <;> omega) _) | (with_reducible refine Gr.trans ?_ (by with_reducible assumption)) | exact Gr.refl _ | assumption | refine Gr.alloc ?_ _ | refine Gr.drew ?_ | refine Gr.drewN ?_ _ | refine Gr.setCell ?_ (by simp <;> omega) _ | refine Gr.trans ?_ (by assumption))))
  obtain ⟨b0', b1', b2', b3', b4', b5', b6', b7'⟩ := q0
  have hz3 : w.heap.size + 3 ≤ w1.heap.size := hz
  clear hc hf hb hz0 hz
  generalize w1 = W3 at *
  go_cut [7, 8] (fun s7 s8 wx => TbC W3 wy wm wys wf s7 s8 wx)
  case first =>
    go_region_held3 (fun w' => w'.cell? ⟨w.heap.size, 0, none⟩ = some (.string x) ∧ w'.cell? ⟨w.heap.size, 1, none⟩ = some (.slice A n c) ∧ w'.cell? ⟨w.heap.size + 1, 0, none⟩ = some (.int .i64 a) ∧ w'.cell? ⟨w.heap.size + 1, 1, none⟩ = some (.int .i64 pl) ∧ w'.cell? ⟨w.heap.size + 1, 2, none⟩ = some (.string d) ∧ w'.cell? ⟨w.heap.size + 1 + 1, 0, none⟩ = some (.int .i64 fr) ∧ w'.cell? ⟨w.heap.size + 1 + 1, 1, none⟩ = some (.int .i64 tu) ∧ w'.cell? ⟨w.heap.size + 1 + 1, 2, none⟩ = some (.int .i64 l)) (((try go_split_ands); (repeat' apply And.intro) <;> ((try simp only [World.cell?_drew]); first | (with_reducible assumption) | (simp [go_sem]; done) | ((repeat (first | (refine keepFar ?_ (by first | (dsimp only; omega) | (simp; done) | (simp; omega))) | (refine (Gr.alloc (Gr.refl _) _).keep ?_))); (try simp only [World.cell?_drew]); first | (with_reducible assumption) | (refine hb.keep ?_; (try simp only [World.cell?_drew]); first | (with_reducible assumption) | (simp [go_sem]; done) | ((repeat (refine (Gr.alloc (Gr.refl _) _).keep ?_)); (try simp only [World.cell?_drew]); (with_reducible assumption))) | (simp [*, go_sem]; done)))))
      (first
        | (go_at_call 19; (with_reducible refine (OwnStorage_more x A n c bs _ (HS.out.gr (G3.out.trans (by repeat (first | (with_reducible exact Gr.refl _) | (with_reducible assumption) | (with_reducible refine Gr.alloc ?_ _) | (with_reducible refine Gr.drew ?_) | (with_reducible refine Gr.drewN ?_ _) | (with_reducible refine Gr.setCell ?_ (by simp <;> omega) _) | (with_reducible refine Gr.trans ?_ (by with_reducible assumption)) | exact Gr.refl _ | assumption | refine Gr.alloc ?_ _ | refine Gr.drew ?_ | refine Gr.drewN ?_ _ | refine Gr.setCell ?_ (by simp <;> omega) _ | refine Gr.trans ?_ (by assumption))))) hn).mono ?_); rintro e w4 ⟨⟨A2, c2, rfl, hV, hb⟩, hz4⟩; have HV := Lib.hid hV; clear hV; obtain ⟨hc4, hf4⟩ := hb.cells; (try simp at hz4); have hz40 : W3.heap.size < w4.heap.size := (by omega))
        | (go_at_call 27; (with_reducible refine (HW'.out _ _ _ (HV.out.sv.gr (by repeat (first | (with_reducible exact Gr.refl _) | (with_reducible assumption) | (with_reducible refine Gr.alloc ?_ _) | (with_reducible refine Gr.drew ?_) | (with_reducible refine Gr.drewN ?_ _) | (with_reducible refine Gr.setCell ?_ (by simp <;> omega) _) | (with_reducible refine Gr.trans ?_ (by with_reducible assumption)) | exact Gr.refl _ | assumption | refine Gr.alloc ?_ _ | refine Gr.drew ?_ | refine Gr.drewN ?_ _ | refine Gr.setCell ?_ (by simp <;> omega) _ | refine Gr.trans ?_ (by assumption))))).mono ?_); rintro e w5 ⟨A3, c3, rfl, hV3, hb3⟩; have HV3 := Lib.hid hV3; clear hV3; obtain ⟨hc5, hf5⟩ := hb3.cells; have hz5 := Gr.size hb3; (try simp at hz5); have hb := hb.trans (Gr.trans (by repeat (first | (with_reducible exact Gr.refl _) | (with_reducible assumption) | (with_reducible refine Gr.alloc ?_ _) | (with_reducible refine Gr.drew ?_) | (with_reducible refine Gr.drewN ?_ _) | (with_reducible refine Gr.setCell ?_ (by simp <;> omega) _) | (with_reducible refine Gr.trans ?_ (by with_reducible assumption)) | exact Gr.refl _ | assumption | refine Gr.alloc ?_ _ | refine Gr.drew ?_ | refine Gr.drewN ?_ _ | refine Gr.setCell ?_ (by simp <;> omega) _ | refine Gr.trans ?_ (by assumption))) hb3)))
    all_goals
      go_wp2_with fail
      go_meet
      clear HT' HU' HW' HS
      refine ⟨_, rfl, rfl, ?_, ⟨A3, c3, ?_, ?_, ?_, ?_⟩, ?_⟩
      · first | omega | (simp; omega)
      · first | (simp; done) | (simp; omega) | omega
      · simp [go_sem, *]
      · simp [go_sem, *]
      · first | (refine ((HV3.out.setLow ?_ _).setLow ?_ _).sv <;> first | (simp; done) | (simp; omega)) | (refine HV3.out.sv.gr ?_; exact (by repeat (first | (with_reducible exact Gr.refl _) | (with_reducible assumption) | (with_reducible refine Gr.alloc ?_ _) | (with_reducible refine Gr.drew ?_) | (with_reducible refine Gr.drewN ?_ _) | (with_reducible refine Gr.setCell ?_ (by simp <;> omega) _) | (with_reducible refine Gr.trans ?_ (by with_reducible assumption)) | exact Gr.refl _ | assumption | refine Gr.alloc ?_ _ | refine Gr.drew ?_ | refine Gr.drewN ?_ _ | refine Gr.setCell ?_ (by simp <;> omega) _ | refine Gr.trans ?_ (by assumption))))
      · exact (by repeat (first | (with_reducible exact Gr.refl _) | (with_reducible assumption) | (with_reducible refine Gr.alloc ?_ _) | (with_reducible refine Gr.drew ?_) | (with_reducible refine Gr.drewN ?_ _) | (with_reducible refine Gr.setCell ?_ (by simp <;> omega) _) | (with_reducible refine Gr.trans ?_ (by with_reducible assumption)) | exact Gr.refl _ | assumption | refine Gr.alloc ?_ _ | refine Gr.drew ?_ | refine Gr.drewN ?_ _ | refine Gr.setCell ?_ (by simp <;> omega) _ | refine Gr.trans ?_ (by assumption)))
  case rest =>
    obtain ⟨gw, rfl, rfl, hgw, ⟨Aw, cw, hgwl, w0', w1', hvw⟩, hG⟩ := hcut
    have b0 := hG.keep b0'
    have b1 := hG.keep b1'
    have b2 := hG.keep b2'
    have b3 := hG.keep b3'
    have b4 := hG.keep b4'
    have b5 := hG.keep b5'
    have b6 := hG.keep b6'
    have b7 := hG.keep b7'
    have G5 := Lib.hid (G3.out.trans hG)
    have HVw := Lib.hid hvw
    have hz4 : w.heap.size + 3 ≤ wc.heap.size := by have := Gr.size hG; omega
    clear hG hvw b0' b1' b2' b3' b4' b5' b6' b7' G3 HW' hz3 hgw
    generalize wc = W5 at *
    go_upto_region 6 with (fail)
    go_cut [9, 10] (fun s7 s8 wx => TbC W5 ty tm tys tf s7 s8 wx)
    case first =>
      go_region_held3 (fun w' => w'.cell? ⟨w.heap.size, 0, none⟩ = some (.string x) ∧ w'.cell? ⟨w.heap.size, 1, none⟩ = some (.slice A n c) ∧ w'.cell? ⟨w.heap.size + 1, 0, none⟩ = some (.int .i64 a) ∧ w'.cell? ⟨w.heap.size + 1, 1, none⟩ = some (.int .i64 pl) ∧ w'.cell? ⟨w.heap.size + 1, 2, none⟩ = some (.string d) ∧ w'.cell? ⟨w.heap.size + 1 + 1, 0, none⟩ = some (.int .i64 fr) ∧ w'.cell? ⟨w.heap.size + 1 + 1, 1, none⟩ = some (.int .i64 tu) ∧ w'.cell? ⟨w.heap.size + 1 + 1, 2, none⟩ = some (.int .i64 l)) (((try go_split_ands); (repeat' apply And.intro) <;> ((try simp only [World.cell?_drew]); first | (with_reducible assumption) | (simp [go_sem]; done) | ((repeat (first | (refine keepFar ?_ (by first | (dsimp only; omega) | (simp; done) | (simp; omega))) | (refine (Gr.alloc (Gr.refl _) _).keep ?_))); (try simp only [World.cell?_drew]); first | (with_reducible assumption) | (refine hb.keep ?_; (try simp only [World.cell?_drew]); first | (with_reducible assumption) | (simp [go_sem]; done) | ((repeat (refine (Gr.alloc (Gr.refl _) _).keep ?_)); (try simp only [World.cell?_drew]); (with_reducible assumption))) | (simp [*, go_sem]; done)))))
        (first
          | (go_at_call 19; (with_reducible refine (OwnStorage_more x A n c bs _ (HS.out.gr (G5.out.trans (by repeat (first | (with_reducible exact Gr.refl _) | (with_reducible assumption) | (with_reducible refine Gr.alloc ?_ _) | (with_reducible refine Gr.drew ?_) | (with_reducible refine Gr.drewN ?_ _) | (with_reducible refine Gr.setCell ?_ (by simp <;> omega) _) | (with_reducible refine Gr.trans ?_ (by with_reducible assumption)) | exact Gr.refl _ | assumption | refine Gr.alloc ?_ _ | refine Gr.drew ?_ | refine Gr.drewN ?_ _ | refine Gr.setCell ?_ (by simp <;> omega) _ | refine Gr.trans ?_ (by assumption))))) hn).mono ?_); rintro e w4 ⟨⟨A2, c2, rfl, hV, hb⟩, hz4⟩; have HV := Lib.hid hV; clear hV; obtain ⟨hc4, hf4⟩ := hb.cells; (try simp at hz4); have hz40 : W5.heap.size < w4.heap.size := (by omega))
          | (go_at_call 36; (with_reducible refine (HT'.out _ _ _ (HV.out.sv.gr (by repeat (first | (with_reducible exact Gr.refl _) | (with_reducible assumption) | (with_reducible refine Gr.alloc ?_ _) | (with_reducible refine Gr.drew ?_) | (with_reducible refine Gr.drewN ?_ _) | (with_reducible refine Gr.setCell ?_ (by simp <;> omega) _) | (with_reducible refine Gr.trans ?_ (by with_reducible assumption)) | exact Gr.refl _ | assumption | refine Gr.alloc ?_ _ | refine Gr.drew ?_ | refine Gr.drewN ?_ _ | refine Gr.setCell ?_ (by simp <;> omega) _ | refine Gr.trans ?_ (by assumption))))).mono ?_); rintro e w5 ⟨A3, c3, rfl, hV3, hb3⟩; have HV3 := Lib.hid hV3; clear hV3; obtain ⟨hc5, hf5⟩ := hb3.cells; have hz5 := Gr.size hb3; (try simp at hz5); have hb := hb.trans (Gr.trans (by repeat (first | (with_reducible exact Gr.refl _) | (with_reducible assumption) | (with_reducible refine Gr.alloc ?_ _) | (with_reducible refine Gr.drew ?_) | (with_reducible refine Gr.drewN ?_ _) | (with_reducible refine Gr.setCell ?_ (by simp <;> omega) _) | (with_reducible refine Gr.trans ?_ (by with_reducible assumption)) | exact Gr.refl _ | assumption | refine Gr.alloc ?_ _ | refine Gr.drew ?_ | refine Gr.drewN ?_ _ | refine Gr.setCell ?_ (by simp <;> omega) _ | refine Gr.trans ?_ (by assumption))) hb3)))
      all_goals
        go_wp2_with fail
        go_meet
        clear HU' HT' HS HVw
        refine ⟨_, rfl, rfl, ?_, ⟨A3, c3, ?_, ?_, ?_, ?_⟩, ?_⟩
        · first | omega | (simp; omega)
        · first | (simp; done) | (simp; omega) | omega
        · simp [go_sem, *]
        · simp [go_sem, *]
        · first | (refine ((HV3.out.setLow ?_ _).setLow ?_ _).sv <;> first | (simp; done) | (simp; omega)) | (refine HV3.out.sv.gr ?_; exact (by repeat (first | (with_reducible exact Gr.refl _) | (with_reducible assumption) | (with_reducible refine Gr.alloc ?_ _) | (with_reducible refine Gr.drew ?_) | (with_reducible refine Gr.drewN ?_ _) | (with_reducible refine Gr.setCell ?_ (by simp <;> omega) _) | (with_reducible refine Gr.trans ?_ (by with_reducible assumption)) | exact Gr.refl _ | assumption | refine Gr.alloc ?_ _ | refine Gr.drew ?_ | refine Gr.drewN ?_ _ | refine Gr.setCell ?_ (by simp <;> omega) _ | refine Gr.trans ?_ (by assumption))))
        · exact (by repeat (first | (with_reducible exact Gr.refl _) | (with_reducible assumption) | (with_reducible refine Gr.alloc ?_ _) | (with_reducible refine Gr.drew ?_) | (with_reducible refine Gr.drewN ?_ _) | (with_reducible refine Gr.setCell ?_ (by simp <;> omega) _) | (with_reducible refine Gr.trans ?_ (by with_reducible assumption)) | exact Gr.refl _ | assumption | refine Gr.alloc ?_ _ | refine Gr.drew ?_ | refine Gr.drewN ?_ _ | refine Gr.setCell ?_ (by simp <;> omega) _ | refine Gr.trans ?_ (by assumption)))
    case rest =>
      obtain ⟨gt, rfl, rfl, hgt, ⟨At, ct, hgtl, t0', t1', hvt⟩, hG⟩ := hcut
      have b0' := hG.keep b0
      have b1' := hG.keep b1
      have b2' := hG.keep b2
      have b3' := hG.keep b3
      have b4' := hG.keep b4
      have b5' := hG.keep b5
      have b6' := hG.keep b6
      have b7' := hG.keep b7
      have w0 := hG.keep w0'
      have w1 := hG.keep w1'
      have G6 := Lib.hid (G5.out.trans hG)
      have HVt := Lib.hid hvt
      have HVw' := Lib.hid (HVw.out.gr hG)
      have hz5 : w.heap.size + 3 ≤ wc.heap.size := by have := Gr.size hG; omega
      have hgwl' : gw < wc.heap.size := by have := Gr.size hG; omega
      clear hG hvt b0 b1 b2 b3 b4 b5 b6 b7 w0' w1' G5 HT' hz4 hgt HVw hgwl
      generalize wc = W6 at *
      go_upto_region 7 with (fail)
      go_cut [11, 12] (fun s7 s8 wx => TbC W6 uy um uys uf s7 s8 wx)
      case first =>
        go_region_held3 (fun w' => w'.cell? ⟨w.heap.size, 0, none⟩ = some (.string x) ∧ w'.cell? ⟨w.heap.size, 1, none⟩ = some (.slice A n c) ∧ w'.cell? ⟨w.heap.size + 1, 0, none⟩ = some (.int .i64 a) ∧ w'.cell? ⟨w.heap.size + 1, 1, none⟩ = some (.int .i64 pl) ∧ w'.cell? ⟨w.heap.size + 1, 2, none⟩ = some (.string d) ∧ w'.cell? ⟨w.heap.size + 1 + 1, 0, none⟩ = some (.int .i64 fr) ∧ w'.cell? ⟨w.heap.size + 1 + 1, 1, none⟩ = some (.int .i64 tu) ∧ w'.cell? ⟨w.heap.size + 1 + 1, 2, none⟩ = some (.int .i64 l)) (((try go_split_ands); (repeat' apply And.intro) <;> ((try simp only [World.cell?_drew]); first | (with_reducible assumption) | (simp [go_sem]; done) | ((repeat (first | (refine keepFar ?_ (by first | (dsimp only; omega) | (simp; done) | (simp; omega))) | (refine (Gr.alloc (Gr.refl _) _).keep ?_))); (try simp only [World.cell?_drew]); first | (with_reducible assumption) | (refine hb.keep ?_; (try simp only [World.cell?_drew]); first | (with_reducible assumption) | (simp [go_sem]; done) | ((repeat (refine (Gr.alloc (Gr.refl _) _).keep ?_)); (try simp only [World.cell?_drew]); (with_reducible assumption))) | (simp [*, go_sem]; done)))))
          (first
            | (go_at_call 19; (with_reducible refine (OwnStorage_more x A n c bs _ (HS.out.gr (G6.out.trans (by repeat (first | (with_reducible exact Gr.refl _) | (with_reducible assumption) | (with_reducible refine Gr.alloc ?_ _) | (with_reducible refine Gr.drew ?_) | (with_reducible refine Gr.drewN ?_ _) | (with_reducible refine Gr.setCell ?_ (by simp <;> omega) _) | (with_reducible refine Gr.trans ?_ (by with_reducible assumption)) | exact Gr.refl _ | assumption | refine Gr.alloc ?_ _ | refine Gr.drew ?_ | refine Gr.drewN ?_ _ | refine Gr.setCell ?_ (by simp <;> omega) _ | refine Gr.trans ?_ (by assumption))))) hn).mono ?_); rintro e w4 ⟨⟨A2, c2, rfl, hV, hb⟩, hz4⟩; have HV := Lib.hid hV; clear hV; obtain ⟨hc4, hf4⟩ := hb.cells; (try simp at hz4); have hz40 : W6.heap.size < w4.heap.size := (by omega))
            | (go_at_call 37; (with_reducible refine (HU'.out _ _ _ (HV.out.sv.gr (by repeat (first | (with_reducible exact Gr.refl _) | (with_reducible assumption) | (with_reducible refine Gr.alloc ?_ _) | (with_reducible refine Gr.drew ?_) | (with_reducible refine Gr.drewN ?_ _) | (with_reducible refine Gr.setCell ?_ (by simp <;> omega) _) | (with_reducible refine Gr.trans ?_ (by with_reducible assumption)) | exact Gr.refl _ | assumption | refine Gr.alloc ?_ _ | refine Gr.drew ?_ | refine Gr.drewN ?_ _ | refine Gr.setCell ?_ (by simp <;> omega) _ | refine Gr.trans ?_ (by assumption))))).mono ?_); rintro e w5 ⟨A3, c3, rfl, hV3, hb3⟩; have HV3 := Lib.hid hV3; clear hV3; obtain ⟨hc5, hf5⟩ := hb3.cells; have hz5 := Gr.size hb3; (try simp at hz5); have hb := hb.trans (Gr.trans (by repeat (first | (with_reducible exact Gr.refl _) | (with_reducible assumption) | (with_reducible refine Gr.alloc ?_ _) | (with_reducible refine Gr.drew ?_) | (with_reducible refine Gr.drewN ?_ _) | (with_reducible refine Gr.setCell ?_ (by simp <;> omega) _) | (with_reducible refine Gr.trans ?_ (by with_reducible assumption)) | exact Gr.refl _ | assumption | refine Gr.alloc ?_ _ | refine Gr.drew ?_ | refine Gr.drewN ?_ _ | refine Gr.setCell ?_ (by simp <;> omega) _ | refine Gr.trans ?_ (by assumption))) hb3)))
        all_goals
          go_wp2_with fail
          go_meet
          clear HU' HS HVw' HVt
          refine ⟨_, rfl, rfl, ?_, ⟨A3, c3, ?_, ?_, ?_, ?_⟩, ?_⟩
          · first | omega | (simp; omega)
          · first | (simp; done) | (simp; omega) | omega
          · simp [go_sem, *]
          · simp [go_sem, *]
          · first | (refine ((HV3.out.setLow ?_ _).setLow ?_ _).sv <;> first | (simp; done) | (simp; omega)) | (refine HV3.out.sv.gr ?_; exact (by repeat (first | (with_reducible exact Gr.refl _) | (with_reducible assumption) | (with_reducible refine Gr.alloc ?_ _) | (with_reducible refine Gr.drew ?_) | (with_reducible refine Gr.drewN ?_ _) | (with_reducible refine Gr.setCell ?_ (by simp <;> omega) _) | (with_reducible refine Gr.trans ?_ (by with_reducible assumption)) | exact Gr.refl _ | assumption | refine Gr.alloc ?_ _ | refine Gr.drew ?_ | refine Gr.drewN ?_ _ | refine Gr.setCell ?_ (by simp <;> omega) _ | refine Gr.trans ?_ (by assumption))))
          · exact (by repeat (first | (with_reducible exact Gr.refl _) | (with_reducible assumption) | (with_reducible refine Gr.alloc ?_ _) | (with_reducible refine Gr.drew ?_) | (with_reducible refine Gr.drewN ?_ _) | (with_reducible refine Gr.setCell ?_ (by simp <;> omega) _) | (with_reducible refine Gr.trans ?_ (by with_reducible assumption)) | exact Gr.refl _ | assumption | refine Gr.alloc ?_ _ | refine Gr.drew ?_ | refine Gr.drewN ?_ _ | refine Gr.setCell ?_ (by simp <;> omega) _ | refine Gr.trans ?_ (by assumption)))
      case rest =>
        obtain ⟨gu, rfl, rfl, hgu, ⟨Au, cu, hgul, u0', u1', hvu⟩, hG⟩ := hcut
        have b0 := hG.keep b0'
        have b1 := hG.keep b1'
        have w0' := hG.keep w0
        have w1' := hG.keep w1
        have t0 := hG.keep t0'
        have t1 := hG.keep t1'
        have G7 := Lib.hid (G6.out.trans hG)
        have HVu := Lib.hid hvu
        have HVt' := Lib.hid (HVt.out.gr hG)
        have HVw := Lib.hid (HVw'.out.gr hG)
        have hz6 : w.heap.size < wc.heap.size := by have := Gr.size hG; omega
        have hz7 : gw < wc.heap.size := by have := Gr.size hG; omega
        have hz8 : gt < wc.heap.size := by have := Gr.size hG; omega
        clear hG hvu b0' b1' b2' b3' b4' b5' b6' b7' w0 w1 t0' t1' G6 HU' hz5 hgu HVw' HVt hgwl' hgtl
        generalize wc = W7 at *
        obtain ⟨hw, ht, hu⟩ := H.out
        go_upto_region 8 with (fail)
        go_cut [73] (fun s73 wx => s73 = .bool false ∧ Gr W7 wx)
        case first =>
          rcases hw with hw0 | ⟨rfl, rfl, hws, hwk⟩
          · rcases ht with ht0 | ⟨rfl, rfl, hts, htk⟩
            · clear hu H
              go_wp2
              go_meet
              exact ⟨rfl, Gr.refl _⟩
            · have HTS := Lib.hid hts
              have HTK := Lib.hid htk
              clear hu H hts htk
              go_wp2_with (first | (go_at_call 45; (with_reducible refine (kept_yes ty x _ _ _ ct c tys bs _ (HVt'.out.gr (by repeat (first | (with_reducible exact Gr.refl _) | (with_reducible assumption) | (with_reducible refine Gr.alloc ?_ _) | (with_reducible refine Gr.drew ?_) | (with_reducible refine Gr.drewN ?_ _) | (with_reducible refine Gr.setCell ?_ (by simp <;> omega) _) | (with_reducible refine Gr.trans ?_ (by with_reducible assumption)) | exact Gr.refl _ | assumption | refine Gr.alloc ?_ _ | refine Gr.drew ?_ | refine Gr.drewN ?_ _ | refine Gr.setCell ?_ (by simp <;> omega) _ | refine Gr.trans ?_ (by assumption)))) (HS.out.gr (G7.out.trans (by repeat (first | (with_reducible exact Gr.refl _) | (with_reducible assumption) | (with_reducible refine Gr.alloc ?_ _) | (with_reducible refine Gr.drew ?_) | (with_reducible refine Gr.drewN ?_ _) | (with_reducible refine Gr.setCell ?_ (by simp <;> omega) _) | (with_reducible refine Gr.trans ?_ (by with_reducible assumption)) | exact Gr.refl _ | assumption | refine Gr.alloc ?_ _ | refine Gr.drew ?_ | refine Gr.drewN ?_ _ | refine Gr.setCell ?_ (by simp <;> omega) _ | refine Gr.trans ?_ (by assumption))))) hx HN.out HTS.out HTK.out).mono ?_); rintro e w6 ⟨rfl, hb⟩))
              go_meet
              exact ⟨rfl, (by repeat (first | (with_reducible exact Gr.refl _) | (with_reducible assumption) | (with_reducible refine Gr.alloc ?_ _) | (with_reducible refine Gr.drew ?_) | (with_reducible refine Gr.drewN ?_ _) | (with_reducible refine Gr.setCell ?_ (by simp <;> omega) _) | (with_reducible refine Gr.trans ?_ (by with_reducible assumption)) | exact Gr.refl _ | assumption | refine Gr.alloc ?_ _ | refine Gr.drew ?_ | refine Gr.drewN ?_ _ | refine Gr.setCell ?_ (by simp <;> omega) _ | refine Gr.trans ?_ (by assumption)))⟩
          · have HWS := Lib.hid hws
            have HWK := Lib.hid hwk
            clear hws hwk
            rcases ht with ht0 | ⟨rfl, rfl, hts, htk⟩
            · clear hu H
              go_wp2_with (first | (go_at_call 45; (with_reducible refine (kept_yes wy x _ _ _ cw c wys bs _ (HVw.out.gr (by repeat (first | (with_reducible exact Gr.refl _) | (with_reducible assumption) | (with_reducible refine Gr.alloc ?_ _) | (with_reducible refine Gr.drew ?_) | (with_reducible refine Gr.drewN ?_ _) | (with_reducible refine Gr.setCell ?_ (by simp <;> omega) _) | (with_reducible refine Gr.trans ?_ (by with_reducible assumption)) | exact Gr.refl _ | assumption | refine Gr.alloc ?_ _ | refine Gr.drew ?_ | refine Gr.drewN ?_ _ | refine Gr.setCell ?_ (by simp <;> omega) _ | refine Gr.trans ?_ (by assumption)))) (HS.out.gr (G7.out.trans (by repeat (first | (with_reducible exact Gr.refl _) | (with_reducible assumption) | (with_reducible refine Gr.alloc ?_ _) | (with_reducible refine Gr.drew ?_) | (with_reducible refine Gr.drewN ?_ _) | (with_reducible refine Gr.setCell ?_ (by simp <;> omega) _) | (with_reducible refine Gr.trans ?_ (by with_reducible assumption)) | exact Gr.refl _ | assumption | refine Gr.alloc ?_ _ | refine Gr.drew ?_ | refine Gr.drewN ?_ _ | refine Gr.setCell ?_ (by simp <;> omega) _ | refine Gr.trans ?_ (by assumption))))) hx HN.out HWS.out HWK.out).mono ?_); rintro e w6 ⟨rfl, hb⟩; obtain ⟨hc, hf⟩ := hb.cells))
              go_meet
              exact ⟨rfl, (by repeat (first | (with_reducible exact Gr.refl _) | (with_reducible assumption) | (with_reducible refine Gr.alloc ?_ _) | (with_reducible refine Gr.drew ?_) | (with_reducible refine Gr.drewN ?_ _) | (with_reducible refine Gr.setCell ?_ (by simp <;> omega) _) | (with_reducible refine Gr.trans ?_ (by with_reducible assumption)) | exact Gr.refl _ | assumption | refine Gr.alloc ?_ _ | refine Gr.drew ?_ | refine Gr.drewN ?_ _ | refine Gr.setCell ?_ (by simp <;> omega) _ | refine Gr.trans ?_ (by assumption)))⟩
            · have HTS := Lib.hid hts
              have HTK := Lib.hid htk
              clear hu H hts htk
              go_wp2_with (first | (go_at_call 45; (with_reducible refine (kept_yes wy x _ _ _ cw c wys bs _ (HVw.out.gr (by repeat (first | (with_reducible exact Gr.refl _) | (with_reducible assumption) | (with_reducible refine Gr.alloc ?_ _) | (with_reducible refine Gr.drew ?_) | (with_reducible refine Gr.drewN ?_ _) | (with_reducible refine Gr.setCell ?_ (by simp <;> omega) _) | (with_reducible refine Gr.trans ?_ (by with_reducible assumption)) | exact Gr.refl _ | assumption | refine Gr.alloc ?_ _ | refine Gr.drew ?_ | refine Gr.drewN ?_ _ | refine Gr.setCell ?_ (by simp <;> omega) _ | refine Gr.trans ?_ (by assumption)))) (HS.out.gr (G7.out.trans (by repeat (first | (with_reducible exact Gr.refl _) | (with_reducible assumption) | (with_reducible refine Gr.alloc ?_ _) | (with_reducible refine Gr.drew ?_) | (with_reducible refine Gr.drewN ?_ _) | (with_reducible refine Gr.setCell ?_ (by simp <;> omega) _) | (with_reducible refine Gr.trans ?_ (by with_reducible assumption)) | exact Gr.refl _ | assumption | refine Gr.alloc ?_ _ | refine Gr.drew ?_ | refine Gr.drewN ?_ _ | refine Gr.setCell ?_ (by simp <;> omega) _ | refine Gr.trans ?_ (by assumption))))) hx HN.out HWS.out HWK.out).mono ?_); rintro e w6 ⟨rfl, hb⟩; obtain ⟨hc, hf⟩ := hb.cells) | (go_at_call 45; (with_reducible refine (kept_yes ty x _ _ _ ct c tys bs _ (HVt'.out.gr (by repeat (first | (with_reducible exact Gr.refl _) | (with_reducible assumption) | (with_reducible refine Gr.alloc ?_ _) | (with_reducible refine Gr.drew ?_) | (with_reducible refine Gr.drewN ?_ _) | (with_reducible refine Gr.setCell ?_ (by simp <;> omega) _) | (with_reducible refine Gr.trans ?_ (by with_reducible assumption)) | exact Gr.refl _ | assumption | refine Gr.alloc ?_ _ | refine Gr.drew ?_ | refine Gr.drewN ?_ _ | refine Gr.setCell ?_ (by simp <;> omega) _ | refine Gr.trans ?_ (by assumption)))) (HS.out.gr (G7.out.trans (by repeat (first | (with_reducible exact Gr.refl _) | (with_reducible assumption) | (with_reducible refine Gr.alloc ?_ _) | (with_reducible refine Gr.drew ?_) | (with_reducible refine Gr.drewN ?_ _) | (with_reducible refine Gr.setCell ?_ (by simp <;> omega) _) | (with_reducible refine Gr.trans ?_ (by with_reducible assumption)) | exact Gr.refl _ | assumption | refine Gr.alloc ?_ _ | refine Gr.drew ?_ | refine Gr.drewN ?_ _ | refine Gr.setCell ?_ (by simp <;> omega) _ | refine Gr.trans ?_ (by assumption))))) hx HN.out HTS.out HTK.out).mono ?_); rintro e w6 ⟨rfl, hb⟩))
              go_meet
              exact ⟨rfl, (by repeat (first | (with_reducible exact Gr.refl _) | (with_reducible assumption) | (with_reducible refine Gr.alloc ?_ _) | (with_reducible refine Gr.drew ?_) | (with_reducible refine Gr.drewN ?_ _) | (with_reducible refine Gr.setCell ?_ (by simp <;> omega) _) | (with_reducible refine Gr.trans ?_ (by with_reducible assumption)) | exact Gr.refl _ | assumption | refine Gr.alloc ?_ _ | refine Gr.drew ?_ | refine Gr.drewN ?_ _ | refine Gr.setCell ?_ (by simp <;> omega) _ | refine Gr.trans ?_ (by assumption)))⟩
        case rest =>
          obtain ⟨rfl, hG⟩ := hcut
          have b0' := hG.keep b0
          have b1' := hG.keep b1
          have u0 := hG.keep u0'
          have u1 := hG.keep u1'
          have G8 := Lib.hid (G7.out.trans hG)
          have HVu' := Lib.hid (HVu.out.gr hG)
          clear hG b0 b1 u0' u1' w0' w1' t0 t1 HVw HVt' HVu G7 H hw ht
          generalize wc = W8 at *
          rcases hu with hu0 | ⟨rfl, rfl, hus, huk⟩
          · go_wp2
            go_ret
            exact ⟨rfl, G8.out⟩
          · have hlb : bs.length = um := by have := HS.out.len; rw [bv_len] at this; omega
            have hlu : uys.length = um := by have := HVu'.out.len; rw [bv_len] at this; omega
            have HL := Lib.hid (And.intro hlb hlu)
            have HU := Lib.hid hus
            have HF := Lib.hid huk
            have e1 : ((uy.size : Int) != x.size) = false := by simp [hus]
            have B := Lib.hid (And.intro b0' (And.intro b1' (And.intro u0 u1)))
            have hub : uy.size ≤ 1024 := by omega
            clear hlb hlu hus huk b0' b1' u0 u1
            rcases Nat.eq_zero_or_pos um with h0 | h0
            · have hn0 : (um : Int) ≤ 0 := by omega
              obtain ⟨b0, b1, u0, u1⟩ := B.out
              go_wp2
              go_loop [13] (fun i => i = .int .i64 0) (fun _ => 0)
              case atStart => rfl
              case round =>
                subst hrel
                go_wp2
                go_ret
                exact ⟨rfl, G8.out⟩
            · obtain ⟨b, o, rfl, hbb, hcc⟩ := HS.out.at_ h0
              obtain ⟨b', o', rfl, hb', hc'⟩ := HVu'.out.at_ h0
              have HCC := Lib.hid hcc
              have HC' := Lib.hid hc'
              obtain ⟨b0, b1, u0, u1⟩ := B.out
              clear hcc hc'
              go_wp2
              clear b0 b1 u0 u1
              go_loopw [13] (fun i wr => ∃ q : Nat, q ≤ um ∧ i = .int .i64 q ∧ Hid (Gr W8 wr)) (fun i _ => um - (intOf i).toNat)
              case atStart => exact ⟨0, Nat.zero_le _, rfl, Gr.refl _⟩
              case round =>
                obtain ⟨q, hq, rfl, hG⟩ := hrel
                obtain ⟨wo, rfl⟩ : ∃ wo : World, wo = wr := ⟨_, rfl⟩
                have b0 := hG.out.keep B.out.1
                have b1 := hG.out.keep B.out.2.1
                have u0 := hG.out.keep B.out.2.2.1
                have u1 := hG.out.keep B.out.2.2.2
                by_cases hlt : q < um
                · have hq0 : (0 : Int) ≤ q := by omega
                  have hq1 : (q : Int) < um := by omega
                  have ku : wo.cell? ⟨b', o' + q, none⟩ = some (.bool (uys.getD q false)) := by
                    rw [hG.out.cells.1 _ _ hb', HC'.out q (by omega)]; exact bv_get uys q (by rw [HL.out.2]; exact hlt)
                  have hw1 : IntKind.i64.wrap ((q : Int) * 16 + 16) = q * 16 + 16 := IntWalk.i64_in _ (by omega)
                  have s1 := cut_ij uy (q * 16) (q * 16 + 16) (16 * q) (16 * q + 16) (by omega) (by omega) (by omega) (by have := HN.out; have := HU.out; omega)
                  have HX := Lib.hid (And.intro hw1 s1)
                  clear hw1 s1
                  by_cases ht : uys.getD q false = true
                  · obtain ⟨k0, hk0, hk1, hk2⟩ := HF.out q hlt ht
                    have HK0 := Lib.hid hk1
                    have HK1 := Lib.hid hk2
                    rw [ht] at ku
                    clear hk1 hk2 ht
                    go_wp2
                    clear b0 b1 u0 u1 ku
                    go_loopw [14, 15] (fun s14 s15 wx => ∃ (k : Nat) (v : Bool), k ≤ um ∧ s15 = .int .i64 k ∧ s14 = .bool v ∧ Hid (v = false → k ≤ k0) ∧ Hid (Gr wo wx)) (fun _ s15 _ => um - (intOf s15).toNat)
                    case atStart => exact ⟨0, false, Nat.zero_le _, rfl, rfl, fun _ => Nat.zero_le _, Gr.refl _⟩
                    case round =>
                      obtain ⟨k, v, hk, rfl, rfl, hv, hG2⟩ := hrel
                      have GG := Lib.hid (hG.out.trans hG2.out)
                      have b0 := GG.out.keep B.out.1
                      have b1 := GG.out.keep B.out.2.1
                      have u0 := GG.out.keep B.out.2.2.1
                      have u1 := GG.out.keep B.out.2.2.2
                      rcases Bool.eq_false_or_eq_true v with rfl | rfl
                      · by_cases hkl : (k : Int) < um
                        all_goals
                          go_wp2
                          go_roundw
                          case rel => exact ⟨q + 1, by omega, by go_num, GG⟩
                          case measure => simp [intOf]; omega
                      · have hkk := hv.out rfl
                        have hkn : k < um := by omega
                        have hk0' : (0 : Int) ≤ k := by omega
                        have hk1' : (k : Int) < um := by omega
                        have kb : wr.cell? ⟨b, o + k, none⟩ = some (.bool (bs.getD k false)) := by
                          rw [(G8.out.trans GG.out).cells.1 _ _ hbb, HCC.out k (by omega)]; exact bv_get bs k (by rw [HL.out.1]; exact hkn)
                        by_cases hbk : bs.getD k false = true
                        · rw [hbk] at kb
                          obtain ⟨hw1, s1⟩ := HX.out
                          have hw2 : IntKind.i64.wrap ((k : Int) * 16 + 16) = k * 16 + 16 := IntWalk.i64_in _ (by omega)
                          have s2 := cut_ij x (k * 16) (k * 16 + 16) (16 * k) (16 * k + 16) (by omega) (by omega) (by omega) (by have := HN.out; omega)
                          clear hbk
                          by_cases heq : uy.extract (16 * q) (16 * q + 16) = x.extract (16 * k) (16 * k + 16)
                          · rw [heq] at s1
                            clear heq
                            go_wp2
                            go_quiet (fail)
                            go_wp2
                            go_roundw
                            case rel => exact ⟨k + 1, true, by omega, by go_num, by simp, (fun h => by cases h), hG2.out.drewN _⟩
                            case measure => simp [intOf]; omega
                          · have hne : ((uy.extract (16 * q) (16 * q + 16)).toList == (x.extract (16 * k) (16 * k + 16)).toList) = false := by
                              rw [beq_eq_false_iff_ne]
                              intro h
                              apply heq
                              rw [ByteArray.toList_eq, ByteArray.toList_eq] at h
                              exact ByteArray.ext (Array.toList_inj.1 h)
                            have hkk0 := Lib.hid (show k + 1 ≤ k0 by
                              rcases Nat.eq_or_lt_of_le hkk with e | e
                              · subst e; exact absurd HK1.out heq
                              · exact e)
                            clear heq
                            go_wp2
                            go_quiet (fail)
                            go_wp2
                            go_roundw
                            case rel => exact ⟨k + 1, false, by omega, by go_num, by simp [hne], fun _ => hkk0.out, hG2.out.drewN _⟩
                            case measure => simp [intOf]; omega
                        · have hbk' : bs.getD k false = false := by simpa using hbk
                          have hkk0 := Lib.hid (show k + 1 ≤ k0 by
                              rcases Nat.eq_or_lt_of_le hkk with e | e
                              · subst e; exact absurd HK0.out hbk
                              · exact e)
                          rw [hbk'] at kb
                          clear hbk hbk'
                          go_wp2
                          go_quiet (fail)
                          go_wp2
                          go_roundw
                          case rel => exact ⟨k + 1, false, by omega, by go_num, by simp, fun _ => hkk0.out, hG2.out.drewN _⟩
                          case measure => simp [intOf]; omega
                  · have ht' : uys.getD q false = false := by simpa using ht
                    rw [ht'] at ku
                    clear ht ht'
                    go_wp2
                    clear ku
                    go_loop [14, 15] (fun s14 s15 => s14 = .bool true ∧ s15 = .int .i64 0) (fun _ _ => 0)
                    case atStart => exact ⟨rfl, rfl⟩
                    case round =>
                      obtain ⟨rfl, rfl⟩ := hrel
                      go_wp2
                      go_roundw
                      case rel => exact ⟨q + 1, by omega, by go_num, hG⟩
                      case measure => simp [intOf]; omega
                · go_wp2
                  go_ret
                  exact ⟨rfl, G8.out.trans hG.out⟩
end Go.Proofs.Ytbgeghodiibmmaa
