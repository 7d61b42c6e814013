/- The program's Applied. -/
import Derived.Test.YtljminmfldejnaaHy
namespace Go.Proofs.Ytljminmfldejnaa
set_option linter.unusedSimpArgs false
set_option linter.unusedVariables false
open Go.RowKit

set_option maxHeartbeats 2000000 in
set_option maxRecDepth 100000 in
theorem Applied_store (A : Option Addr) (n c : Nat) (gs : List (Int × ByteArray)) (nx E : Int) (L : Value) (hE : stE nx gs = E) (h0 : E ≠ 0) (w : World) (hs : Sv w A n c 2 (sg gs)) (hb : Sh gs) (hL : ∃ B l cb, L = .slice B l cb) :
    Calls Try.prog 33 #[.agg #[.slice A n c, .int .i64 nx], L] w (PrA (bad E) w) := by
  obtain ⟨B, l, cb, rfl⟩ := hL
  have h1 : (E != 0) = true := by simp [h0]
  obtain ⟨I, hI⟩ : ∃ I, stI nx gs = I := ⟨_, rfl⟩
  have HC := Lib.hid (fun W hg => CheckStore_is A n c gs nx I E hI hE W (hs.gr hg) hb)
  clear hE h0 hI hs hb
  go_enter Try.func33, Try.ntmps33
  go_wp2_with ((go_at_call 14; (with_reducible refine (HC.out _ (by repeat (first | (with_reducible exact Gr.refl _) | (with_reducible assumption) | (with_reducible refine Gr.alloc ?_ _) | (with_reducible refine Gr.drew ?_) | (with_reducible refine Gr.drewN ?_ _) | (with_reducible refine Gr.setCell ?_ (by simp <;> omega) _) | (with_reducible refine Gr.trans ?_ (by with_reducible assumption)) | exact Gr.refl _ | assumption | refine Gr.alloc ?_ _ | refine Gr.drew ?_ | refine Gr.drewN ?_ _ | refine Gr.setCell ?_ (by simp <;> omega) _ | refine Gr.trans ?_ (by assumption)))).mono ?_); rintro e w1 ⟨rfl, hb⟩; obtain ⟨hc, hf⟩ := gcells hb (w.heap.size + 2) (by first | exact hz | omega | (simp; done) | (simp; omega)); have hz : w.heap.size + 2 ≤ w1.heap.size := (by have h := hb.size; (try simp at h); omega); have hz0 : w.heap.size < w1.heap.size := (by omega)))
  refine bodyPost_ret (v := .tuple #[.agg #[.slice none 0 0, .int .i64 0], .int .i64 0, .int .i64 E]) (by simp [results, Try.results33, go_sem, *]) rfl ⟨none, 0, rfl, Sv.nil _ _, (fun a h => by cases h), (by repeat (first | (with_reducible exact Gr.refl _) | (with_reducible assumption) | (with_reducible refine Gr.alloc ?_ _) | (with_reducible refine Gr.drew ?_) | (with_reducible refine Gr.drewN ?_ _) | (with_reducible refine Gr.setCell ?_ (by simp <;> omega) _) | (with_reducible refine Gr.trans ?_ (by with_reducible assumption)) | exact Gr.refl _ | assumption | refine Gr.alloc ?_ _ | refine Gr.drew ?_ | refine Gr.drewN ?_ _ | refine Gr.setCell ?_ (by simp <;> omega) _ | refine Gr.trans ?_ (by assumption)))⟩
set_option maxHeartbeats 2000000 in
set_option maxRecDepth 100000 in
theorem Applied_large (A B : Option Addr) (n c l cb : Nat) (gs : List (Int × ByteArray)) (nx : Int) (hE : stE nx gs = 0) (hl : 40 < (l : Int)) (hm : (l : Int) ≤ 9223372036854775807) (w : World) (hs : Sv w A n c 2 (sg gs)) (hb : Sh gs) :
    Calls Try.prog 33 #[.agg #[.slice A n c, .int .i64 nx], .slice B l cb] w (PrA (bad 2) w) := by
  obtain ⟨I, hI⟩ : ∃ I, stI nx gs = I := ⟨_, rfl⟩
  have HC := Lib.hid (fun W hg => CheckStore_is A n c gs nx I 0 hI hE W (hs.gr hg) hb)
  clear hE hI hs hb
  go_enter Try.func33, Try.ntmps33
  go_wp2_with ((go_at_call 14; (with_reducible refine (HC.out _ (by repeat (first | (with_reducible exact Gr.refl _) | (with_reducible assumption) | (with_reducible refine Gr.alloc ?_ _) | (with_reducible refine Gr.drew ?_) | (with_reducible refine Gr.drewN ?_ _) | (with_reducible refine Gr.setCell ?_ (by simp <;> omega) _) | (with_reducible refine Gr.trans ?_ (by with_reducible assumption)) | exact Gr.refl _ | assumption | refine Gr.alloc ?_ _ | refine Gr.drew ?_ | refine Gr.drewN ?_ _ | refine Gr.setCell ?_ (by simp <;> omega) _ | refine Gr.trans ?_ (by assumption)))).mono ?_); rintro e w1 ⟨rfl, hb⟩; obtain ⟨hc, hf⟩ := gcells hb (w.heap.size + 2) (by first | exact hz | omega | (simp; done) | (simp; omega)); have hz : w.heap.size + 2 ≤ w1.heap.size := (by have h := hb.size; (try simp at h); omega); have hz0 : w.heap.size < w1.heap.size := (by omega)))
  refine bodyPost_ret (v := .tuple #[.agg #[.slice none 0 0, .int .i64 0], .int .i64 0, .int .i64 2]) (by simp [results, Try.results33, go_sem, *]) rfl ⟨none, 0, rfl, Sv.nil _ _, (fun a h => by cases h), (by repeat (first | (with_reducible exact Gr.refl _) | (with_reducible assumption) | (with_reducible refine Gr.alloc ?_ _) | (with_reducible refine Gr.drew ?_) | (with_reducible refine Gr.drewN ?_ _) | (with_reducible refine Gr.setCell ?_ (by simp <;> omega) _) | (with_reducible refine Gr.trans ?_ (by with_reducible assumption)) | exact Gr.refl _ | assumption | refine Gr.alloc ?_ _ | refine Gr.drew ?_ | refine Gr.drewN ?_ _ | refine Gr.setCell ?_ (by simp <;> omega) _ | refine Gr.trans ?_ (by assumption)))⟩

/-- The store's variable of Applied, ahead of the loop. -/
def ApC (w : World) (n : Nat) (gs : List (Int × ByteArray)) (nx : Int) (W : World) (s9 : Value) (wx : World) : Prop :=
  ∃ g, s9 = .pointer (some ⟨g, 0, none⟩) ∧ W.heap.size ≤ g ∧ VbS wx g (w.heap.size + 2) n nx gs ∧ Gr W wx
set_option maxHeartbeats 4000000 in
set_option maxRecDepth 100000 in
theorem Applied_walk (A B : Option Addr) (n c l cb : Nat) (gs : List (Int × ByteArray)) (nx : Int) (ops : List (Int × Int × Int × Int × ByteArray)) (hE : stE nx gs = 0) (hl : (l : Int) ≤ 40) (w : World) (hs : Sv w A n c 2 (sg gs)) (hb : Sh gs) (ho : Sv w B l cb 5 (oc ops)) (hbo : ShO ops) :
    Calls Try.prog 33 #[.agg #[.slice A n c, .int .i64 nx], .slice B l cb] w (PrA (apF ops nx gs 0) w) := by
  obtain ⟨I, hI⟩ : ∃ I, stI nx gs = I := ⟨_, rfl⟩
  have HC := Lib.hid (fun W hg => CheckStore_is A n c gs nx I 0 hI hE W (hs.gr hg) hb)
  have HS := Lib.hid hs
  have HO := Lib.hid ho
  have HB := Lib.hid hb
  have HBO := Lib.hid hbo
  have HN := Lib.hid hs.segs
  have HL := Lib.hid ho.ops
  have hn10 : n ≤ 10 := by have := (st_right hE).1; have := hs.segs; omega
  have hB : 0 < l → ∃ ob oo, B = some ⟨ob, oo, none⟩ ∧ ob < w.heap.size := fun h => by
    obtain ⟨ob, oo, e, h1, -⟩ := ho.at_ h
    exact ⟨ob, oo, e, h1⟩
  have HBB := Lib.hid hB
  clear hE hI hs hb ho hbo hB
  go_enter Try.func33, Try.ntmps33
  go_upto_region 6 with ((go_at_call 14; (with_reducible refine (HC.out _ (by repeat (first | (with_reducible exact Gr.refl _) | (with_reducible assumption) | (with_reducible refine Gr.alloc ?_ _) | (with_reducible refine Gr.drew ?_) | (with_reducible refine Gr.drewN ?_ _) | (with_reducible refine Gr.setCell ?_ (by simp <;> omega) _) | (with_reducible refine Gr.trans ?_ (by with_reducible assumption)) | exact Gr.refl _ | assumption | refine Gr.alloc ?_ _ | refine Gr.drew ?_ | refine Gr.drewN ?_ _ | refine Gr.setCell ?_ (by simp <;> omega) _ | refine Gr.trans ?_ (by assumption)))).mono ?_); rintro e w1 ⟨rfl, hb⟩; obtain ⟨hc, hf⟩ := gcells hb (w.heap.size + 2) (by first | exact hz | omega | (simp; done) | (simp; omega)); have hz : w.heap.size + 2 ≤ w1.heap.size := (by have h := hb.size; (try simp at h); omega); have hz0 : w.heap.size < w1.heap.size := (by omega)))
  have b0 : w1.cell? ⟨w.heap.size, 0, none⟩ = some (.slice A n c) := by simp [go_sem, *]
  have b1 : w1.cell? ⟨w.heap.size, 1, none⟩ = some (.int .i64 nx) := by simp [go_sem, *]
  have r0 : w1.cell? ⟨w.heap.size + 1, 0, none⟩ = some (.slice none 0 0) := by simp [go_sem, *]
  have r1 : w1.cell? ⟨w.heap.size + 1, 1, none⟩ = some (.int .i64 0) := by simp [go_sem, *]
  have f0 : w1.frozen? ⟨w.heap.size + 1, 0, none⟩ = false := by simp [go_sem, *]
  have f1 : w1.frozen? ⟨w.heap.size + 1, 1, none⟩ = false := by simp [go_sem, *]
  have G1 := Lib.hid (show Gr w w1 from (by repeat (first | (with_reducible exact Gr.refl _) | (with_reducible assumption) | (with_reducible refine Gr.alloc ?_ _) | (with_reducible refine Gr.drew ?_) | (with_reducible refine Gr.drewN ?_ _) | (with_reducible refine Gr.setCell ?_ (by simp <;> omega) _) | (with_reducible refine Gr.trans ?_ (by with_reducible assumption)) | exact Gr.refl _ | assumption | refine Gr.alloc ?_ _ | refine Gr.drew ?_ | refine Gr.drewN ?_ _ | refine Gr.setCell ?_ (by simp <;> omega) _ | refine Gr.trans ?_ (by assumption))))
  have HFR := Lib.hid (And.intro f0 f1)
  clear hc hf hb hz0 f0 f1
  generalize w1 = W1 at *
  go_cut [9] (fun s9 wx => ApC w n gs nx W1 s9 wx)
  case first =>
    go_region_held3 (fun w' => w'.cell? ⟨w.heap.size, 0, none⟩ = some (.slice A n c) ∧ w'.cell? ⟨w.heap.size, 1, none⟩ = some (.int .i64 nx)) (((try go_split_ands); (repeat' apply And.intro) <;> ((try simp only [World.cell?_drew]); first | (with_reducible assumption) | (simp [go_sem]; done) | ((repeat (first | (refine keepFar ?_ (by first | (dsimp only; omega) | (simp; done) | (simp; omega))) | (refine (Gr.alloc (Gr.refl _) _).keep ?_))); (try simp only [World.cell?_drew]); first | (with_reducible assumption) | (refine hb.keep ?_; (try simp only [World.cell?_drew]); first | (with_reducible assumption) | (simp [go_sem]; done) | ((repeat (refine (Gr.alloc (Gr.refl _) _).keep ?_)); (try simp only [World.cell?_drew]); (with_reducible assumption))) | (simp [*, go_sem]; done)))))
      ((go_at_call 47; (with_reducible refine (Clone_any A n c gs _ (HS.out.gr (G1.out.trans (by repeat (first | (with_reducible exact Gr.refl _) | (with_reducible assumption) | (with_reducible refine Gr.alloc ?_ _) | (with_reducible refine Gr.drew ?_) | (with_reducible refine Gr.drewN ?_ _) | (with_reducible refine Gr.setCell ?_ (by simp <;> omega) _) | (with_reducible refine Gr.trans ?_ (by with_reducible assumption)) | exact Gr.refl _ | assumption | refine Gr.alloc ?_ _ | refine Gr.drew ?_ | refine Gr.drewN ?_ _ | refine Gr.setCell ?_ (by simp <;> omega) _ | refine Gr.trans ?_ (by assumption))))) (by omega)).mono ?_); rintro e w2 ⟨A2, c2, rfl, hV, hb⟩; have HV := Lib.hid hV; clear hV; obtain ⟨hc2, hf2⟩ := hb.cells; have hz2 : W1.heap.size ≤ w2.heap.size := (by have h := hb.size; simp at h; omega)))
    all_goals
      go_wp2_with fail
      go_meet
      clear HC HO HB HBO HBB
    all_goals
      refine ⟨_, rfl, ?_, ⟨A2, c2, ?_, ?_, ?_, ?_, ?_, ?_, ?_⟩, ?_⟩
      · first | exact Nat.le_refl _ | omega | (simp; omega)
      · first | (simp; done) | (have h := hb.size; simp at h ⊢; omega)
      · simp [go_sem, *]
      · simp [go_sem, *]
      · first | (simp [go_sem, *]; done) | (rw [World.frozen?_setCell, World.frozen?_setCell, hf2 _ _ (by simp)]; simp [go_sem])
      · first | (simp [go_sem, *]; done) | (rw [World.frozen?_setCell, World.frozen?_setCell, hf2 _ _ (by simp)]; simp [go_sem])
      · first | (refine ((HV.out.setLow ?_ _).setLow ?_ _).sv <;> first | (simp; done) | (simp; omega)) | (refine HV.out.sv.gr ?_; exact (by repeat (first | (with_reducible exact Gr.refl _) | (with_reducible assumption) | (with_reducible refine Gr.alloc ?_ _) | (with_reducible refine Gr.drew ?_) | (with_reducible refine Gr.drewN ?_ _) | (with_reducible refine Gr.setCell ?_ (by simp <;> omega) _) | (with_reducible refine Gr.trans ?_ (by with_reducible assumption)) | exact Gr.refl _ | assumption | refine Gr.alloc ?_ _ | refine Gr.drew ?_ | refine Gr.drewN ?_ _ | refine Gr.setCell ?_ (by simp <;> omega) _ | refine Gr.trans ?_ (by assumption))))
      · intro a ha h0
        obtain ⟨gq, e, h1, h2, -⟩ := HV.out.at_ h0
        rw [ha] at e
        simp only [Option.some.injEq] at e
        subst e
        simp at h1 h2 ⊢
        omega
      · exact (by repeat (first | (with_reducible exact Gr.refl _) | (with_reducible assumption) | (with_reducible refine Gr.alloc ?_ _) | (with_reducible refine Gr.drew ?_) | (with_reducible refine Gr.drewN ?_ _) | (with_reducible refine Gr.setCell ?_ (by simp <;> omega) _) | (with_reducible refine Gr.trans ?_ (by with_reducible assumption)) | exact Gr.refl _ | assumption | refine Gr.alloc ?_ _ | refine Gr.drew ?_ | refine Gr.drewN ?_ _ | refine Gr.setCell ?_ (by simp <;> omega) _ | refine Gr.trans ?_ (by assumption)))
  case rest =>
    obtain ⟨g, rfl, hg, hVb, hG⟩ := hcut
    have e0 := hG.keep (p := ⟨w.heap.size + 1, 0, none⟩) (v := .slice none 0 0) r0
    have e1 := hG.keep (p := ⟨w.heap.size + 1, 1, none⟩) (v := .int .i64 0) r1
    have p0 := (hG.cells.2 (w.heap.size + 1) 0 (by omega)).trans HFR.out.1
    have p1 := (hG.cells.2 (w.heap.size + 1) 1 (by omega)).trans HFR.out.2
    have HR := Lib.hid (And.intro e0 (And.intro e1 (And.intro p0 p1)))
    have HV := Lib.hid hVb
    have G4 := Lib.hid (G1.out.trans hG)
    have hg2 : w.heap.size + 2 ≤ g := by omega
    have hgl : g < wc.heap.size := by obtain ⟨A', c', h, -⟩ := hVb; exact h
    clear hVb hG r0 r1 b0 b1 HFR G1 HC HS hg hz e0 e1 p0 p1
    generalize wc = W4 at *
    go_wp2
    go_loopw [35] (fun i wr => ∃ (q m : Nat) (x : Int) (gq : List (Int × ByteArray)), q ≤ l ∧ i = .int .i64 q ∧ Hid (gq.length = m ∧ m ≤ 11 ∧ Sh gq ∧ apF (ops.drop q) x gq q = apF ops nx gs 0) ∧ Hid (VbS wr g (w.heap.size + 2) m x gq) ∧ Hid (Below g W4 wr)) (fun i _ => l - (intOf i).toNat)
    case atStart => exact ⟨0, n, nx, gs, Nat.zero_le _, rfl, Lib.hid ⟨HN.out, by omega, HB.out, rfl⟩, HV, Lib.hid (Below.refl _ _)⟩
    case round =>
      obtain ⟨q, m, x, gq, hq, rfl, HQ, HVr, HBel⟩ := hrel
      obtain ⟨Aq, cq, v0, v1, v2, v3, v4, hsv, hne⟩ := HVr.out
      have hzr : W4.heap.size ≤ wr.heap.size := HBel.out.size
      have e0 := (HBel.out.cell (p := ⟨w.heap.size + 1, 0, none⟩) (show w.heap.size + 1 < g by omega)).trans HR.out.1
      have e1 := (HBel.out.cell (p := ⟨w.heap.size + 1, 1, none⟩) (show w.heap.size + 1 < g by omega)).trans HR.out.2.1
      have p0 := (HBel.out.frozen (p := ⟨w.heap.size + 1, 0, none⟩) (show w.heap.size + 1 < g by omega)).trans HR.out.2.2.1
      have p1 := (HBel.out.frozen (p := ⟨w.heap.size + 1, 1, none⟩) (show w.heap.size + 1 < g by omega)).trans HR.out.2.2.2
      have hzw : w.heap.size + 1 < wr.heap.size := by omega
      have HSV := Lib.hid hsv
      have HNE := Lib.hid hne
      clear hsv hne
      by_cases hlt : q < l
      · obtain ⟨ob, oo, rfl, hob⟩ := HBB.out (by omega)
        have hGw : Gr w wr := G4.out.and_below HBel.out (by omega)
        obtain ⟨k0, k1, k2, k3, k4⟩ := (HO.out.gr hGw).op hlt
        have hbs := HBO.out q (by rw [HL.out]; exact hlt)
        have hAp := fun W (hg : Gr wr W) => (op_both Aq m cq gq x (opAt ops q).1 (opAt ops q).2.1 (opAt ops q).2.2.1 (opAt ops q).2.2.2.1 (opAt ops q).2.2.2.2 hbs W (HSV.out.gr hg) HQ.out.2.2.1).1
        have hbd := apF_bad (l := ops) (q := q) (i := q) (nx := x) (gs := gq) (by rw [HL.out]; exact hlt)
        have hok := apF_ok (l := ops) (q := q) (i := q) (nx := x) (gs := gq) (by rw [HL.out]; exact hlt)
        have hsh := fun h => opR_ok (nx := x) (kd := (opAt ops q).1) (sn := (opAt ops q).2.1) (o := (opAt ops q).2.2.1) (pg := (opAt ops q).2.2.2.1) (b := (opAt ops q).2.2.2.2) HQ.out.2.2.1 h
        unfold opX at hbd hok
        have HGW := Lib.hid hGw
        generalize opR x gq (opAt ops q).1 (opAt ops q).2.1 (opAt ops q).2.2.1 (opAt ops q).2.2.2.1 (opAt ops q).2.2.2.2 = r at *
        obtain ⟨g', x', N', E'⟩ := r
        dsimp only at hAp hbd hok hsh
        generalize (opAt ops q).1 = kd at *
        generalize (opAt ops q).2.1 = sn at *
        generalize (opAt ops q).2.2.1 = o at *
        generalize (opAt ops q).2.2.2.1 = pg at *
        generalize (opAt ops q).2.2.2.2 = bb at *
        have HAp := Lib.hid hAp
        have HBD := Lib.hid hbd
        have HOK := Lib.hid hok
        have HSH := Lib.hid hsh
        clear hAp hbd hok hsh hbs hGw
        rcases Bool.eq_false_or_eq_true (E' != 0) with hE | hE
        · have hE0 := Lib.hid (show E' ≠ 0 by simpa using hE)
          go_wp2_with (go_at_call 59; (with_reducible refine (HAp.out _ (by repeat (first | (with_reducible exact Gr.refl _) | (with_reducible assumption) | (with_reducible refine Gr.alloc ?_ _) | (with_reducible refine Gr.drew ?_) | (with_reducible refine Gr.drewN ?_ _) | (with_reducible refine Gr.setCell ?_ (by simp <;> omega) _) | (with_reducible refine Gr.trans ?_ (by with_reducible assumption)) | exact Gr.refl _ | assumption | refine Gr.alloc ?_ _ | refine Gr.drew ?_ | refine Gr.drewN ?_ _ | refine Gr.setCell ?_ (by simp <;> omega) _ | refine Gr.trans ?_ (by assumption)))).mono ?_); rintro e w4 ⟨A4, c4, rfl, hW, hb⟩; have HW := Lib.hid hW; clear hW; have t0 : w4.cell? ⟨w.heap.size + 1, 0, none⟩ = some (.slice none 0 0) := hb.keep (by rw [World.cell?_alloc_lt _ _ _ hzw]; exact e0); have t1 : w4.cell? ⟨w.heap.size + 1, 1, none⟩ = some (.int .i64 0) := hb.keep (by rw [World.cell?_alloc_lt _ _ _ hzw]; exact e1); have s0 : w4.frozen? ⟨w.heap.size + 1, 0, none⟩ = false := (hb.cells.2 (w.heap.size + 1) 0 (by simp; omega)).trans ((((Gr.refl wr).alloc _).cells.2 (w.heap.size + 1) 0 hzw).trans p0); have s1 : w4.frozen? ⟨w.heap.size + 1, 1, none⟩ = false := (hb.cells.2 (w.heap.size + 1) 1 (by simp; omega)).trans ((((Gr.refl wr).alloc _).cells.2 (w.heap.size + 1) 1 hzw).trans p1); have hy : wr.heap.size < w4.heap.size := (by have h := hb.size; simp at h; omega); have hy1 : w.heap.size + 1 < w4.heap.size := (by omega); have hy2 : g < w4.heap.size := (by omega); have t2 : w4.cell? ⟨g, 0, none⟩ = some (.slice Aq m cq) := hb.keep (by rw [World.cell?_alloc_lt _ _ _ v0]; exact v1); have t3 : w4.cell? ⟨g, 1, none⟩ = some (.int .i64 x) := hb.keep (by rw [World.cell?_alloc_lt _ _ _ v0]; exact v2); have s2 : w4.frozen? ⟨g, 0, none⟩ = false := (hb.cells.2 g 0 (by simp; omega)).trans ((((Gr.refl wr).alloc _).cells.2 g 0 v0).trans v3); have s3 : w4.frozen? ⟨g, 1, none⟩ = false := (hb.cells.2 g 1 (by simp; omega)).trans ((((Gr.refl wr).alloc _).cells.2 g 1 v0).trans v4))
          refine bodyPost_ret (v := .tuple #[.agg #[.slice none 0 0, .int .i64 0], .int .i64 q, .int .i64 E']) (by simp [results, Try.results33, go_sem, *]) rfl ?_
          rw [← HQ.out.2.2.2, HBD.out hE0.out]
          refine ⟨none, 0, rfl, Sv.nil _ _, (fun a h => by cases h), ?_⟩
          have hGw := HGW.out
          exact (by repeat (first | (with_reducible exact Gr.refl _) | (with_reducible assumption) | (with_reducible refine Gr.alloc ?_ _) | (with_reducible refine Gr.drew ?_) | (with_reducible refine Gr.drewN ?_ _) | (with_reducible refine Gr.setCell ?_ (by simp <;> omega) _) | (with_reducible refine Gr.trans ?_ (by with_reducible assumption)) | exact Gr.refl _ | assumption | refine Gr.alloc ?_ _ | refine Gr.drew ?_ | refine Gr.drewN ?_ _ | refine Gr.setCell ?_ (by simp <;> omega) _ | refine Gr.trans ?_ (by assumption)))
        · have hE0 := Lib.hid (show E' = 0 by simpa using hE)
          have hOK := HOK.out hE0.out
          have hSH := HSH.out hE0.out
          have HO2 := Lib.hid (And.intro hOK hSH)
          clear hOK hSH
          go_wp2_with (go_at_call 59; (with_reducible refine (HAp.out _ (by repeat (first | (with_reducible exact Gr.refl _) | (with_reducible assumption) | (with_reducible refine Gr.alloc ?_ _) | (with_reducible refine Gr.drew ?_) | (with_reducible refine Gr.drewN ?_ _) | (with_reducible refine Gr.setCell ?_ (by simp <;> omega) _) | (with_reducible refine Gr.trans ?_ (by with_reducible assumption)) | exact Gr.refl _ | assumption | refine Gr.alloc ?_ _ | refine Gr.drew ?_ | refine Gr.drewN ?_ _ | refine Gr.setCell ?_ (by simp <;> omega) _ | refine Gr.trans ?_ (by assumption)))).mono ?_); rintro e w4 ⟨A4, c4, rfl, hW, hb⟩; have HW := Lib.hid hW; clear hW; have t0 : w4.cell? ⟨w.heap.size + 1, 0, none⟩ = some (.slice none 0 0) := hb.keep (by rw [World.cell?_alloc_lt _ _ _ hzw]; exact e0); have t1 : w4.cell? ⟨w.heap.size + 1, 1, none⟩ = some (.int .i64 0) := hb.keep (by rw [World.cell?_alloc_lt _ _ _ hzw]; exact e1); have s0 : w4.frozen? ⟨w.heap.size + 1, 0, none⟩ = false := (hb.cells.2 (w.heap.size + 1) 0 (by simp; omega)).trans ((((Gr.refl wr).alloc _).cells.2 (w.heap.size + 1) 0 hzw).trans p0); have s1 : w4.frozen? ⟨w.heap.size + 1, 1, none⟩ = false := (hb.cells.2 (w.heap.size + 1) 1 (by simp; omega)).trans ((((Gr.refl wr).alloc _).cells.2 (w.heap.size + 1) 1 hzw).trans p1); have hy : wr.heap.size < w4.heap.size := (by have h := hb.size; simp at h; omega); have hy1 : w.heap.size + 1 < w4.heap.size := (by omega); have hy2 : g < w4.heap.size := (by omega); have t2 : w4.cell? ⟨g, 0, none⟩ = some (.slice Aq m cq) := hb.keep (by rw [World.cell?_alloc_lt _ _ _ v0]; exact v1); have t3 : w4.cell? ⟨g, 1, none⟩ = some (.int .i64 x) := hb.keep (by rw [World.cell?_alloc_lt _ _ _ v0]; exact v2); have s2 : w4.frozen? ⟨g, 0, none⟩ = false := (hb.cells.2 g 0 (by simp; omega)).trans ((((Gr.refl wr).alloc _).cells.2 g 0 v0).trans v3); have s3 : w4.frozen? ⟨g, 1, none⟩ = false := (hb.cells.2 g 1 (by simp; omega)).trans ((((Gr.refl wr).alloc _).cells.2 g 1 v0).trans v4))
          go_roundw
          case rel =>
            refine ⟨q + 1, g'.length, x', g', by omega, by go_num, Lib.hid ⟨rfl, HO2.out.2.2, HO2.out.2.1, by rw [← HO2.out.1]; exact HQ.out.2.2.2⟩, Lib.hid ⟨A4, c4, ?_, ?_, ?_, ?_, ?_, ?_, ?_⟩, Lib.hid ?_⟩
            · simp; omega
            · simp [go_sem, *]
            · simp [go_sem, *]
            · simp [go_sem, *]
            · simp [go_sem, *]
            · exact (((HW.out.setLow (by simp; omega) _).setLow (by simp; omega) _).gr ((Gr.refl _).alloc _)).sv
            · intro a ha h0
              obtain ⟨gq2, e, h1, h2, -⟩ := HW.out.at_ h0
              rw [ha] at e
              simp only [Option.some.injEq] at e
              subst e
              simp at h1 h2 ⊢
              omega
            · exact (((Below.trans HBel.out (Below.mono (((Gr.refl wr).alloc _).trans hb) (show g ≤ wr.heap.size by omega))).setCell (Nat.le_refl _) _).setCell (Nat.le_refl _) _).alloc (by simp; omega) _
          case measure => simp [intOf]; omega
      · have hql := Lib.hid (show q = l by omega)
        go_wp2
        refine bodyPost_ret (v := .tuple #[.agg #[.slice Aq m cq, .int .i64 x], .int .i64 l, .int .i64 0]) (by simp [results, Try.results33, go_sem, *]) rfl ?_
        have hlast := apF_end (l := ops) (q := q) (i := q) (nx := x) (gs := gq) (by rw [HL.out]; omega)
        rw [← HQ.out.2.2.2, hlast]
        refine ⟨Aq, cq, ?_, ?_, ?_, ?_⟩
        · rw [hql.out, HQ.out.1]
        · rw [HQ.out.1]
          exact (HSV.out.setFar _ (fun a ha h0 => by have := HNE.out a ha h0; show a.block ≠ w.heap.size + 1; omega)).setFar _ (fun a ha h0 => by have := HNE.out a ha h0; show a.block ≠ w.heap.size + 1; omega)
        · intro a ha h0
          rw [HQ.out.1] at h0
          have := HNE.out a ha h0
          omega
        · have hGw : Gr w wr := G4.out.and_below HBel.out (by omega)
          exact (hGw.setCell (by simp) _).setCell (by simp) _
end Go.Proofs.Ytljminmfldejnaa
