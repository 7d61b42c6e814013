/- The reference's Applied. -/
import Derived.Test.YtljminmfldejnaaHz
namespace Go.Proofs.Ytljminmfldejnaa
set_option linter.unusedSimpArgs false
set_option linter.unusedVariables false
open Go.RowKit

/-- A result of the reference's Applied. -/
def RfA (r : List (Int × ByteArray) × Int × Int × Int) (w : World) (e : Ending) (w' : World) : Prop := AnR r.1 r.1.length r.2.1 r.2.2.1 ⟨#[]⟩ r.2.2.2 w e w'
set_option maxHeartbeats 2000000 in
set_option maxRecDepth 100000 in
theorem refApplied_store (A : Option Addr) (n c : Nat) (gs : List (Int × ByteArray)) (nx E : Int) (L : Value) (hE : stE nx gs = E) (h0 : E ≠ 0) (w : World) (hs : Sv w A n c 2 (sg gs)) (hb : Sh gs) (hL : ∃ B l cb, L = .slice B l cb) :
    Calls Try.prog 35 #[.agg #[.slice A n c, .int .i64 nx], L] w (RfA (bad E) w) := by
  obtain ⟨B, l, cb, rfl⟩ := hL
  have h1 : (E != 0) = true := by simp [h0]
  have HC := Lib.hid (fun W hg => Err_is A n c gs nx E hE W (hs.gr hg) hb)
  clear hE h0 hs hb
  go_enter Try.func35, Try.ntmps35
  go_wp2_with ((go_at_call 39; (with_reducible refine (HC.out _ (by repeat (first | (with_reducible exact Gr.refl _) | (with_reducible assumption) | (with_reducible refine Gr.alloc ?_ _) | (with_reducible refine Gr.drew ?_) | (with_reducible refine Gr.drewN ?_ _) | (with_reducible refine Gr.setCell ?_ (by simp <;> omega) _) | (with_reducible refine Gr.trans ?_ (by with_reducible assumption)) | exact Gr.refl _ | assumption | refine Gr.alloc ?_ _ | refine Gr.drew ?_ | refine Gr.drewN ?_ _ | refine Gr.setCell ?_ (by simp <;> omega) _ | refine Gr.trans ?_ (by assumption)))).mono ?_); rintro e w1 ⟨rfl, hb⟩; obtain ⟨hc, hf⟩ := gcells hb (w.heap.size + 2) (by first | exact hz | omega | (simp; done) | (simp; omega)); have hz : w.heap.size + 2 ≤ w1.heap.size := (by have h := hb.size; (try simp at h); omega); have hz0 : w.heap.size < w1.heap.size := (by omega)))
  refine bodyPost_ret (v := .agg #[.slice none 0 0, .int .i64 0, .int .i64 0, .string ⟨#[]⟩, .int .i64 E]) (by simp [results, Try.results35, go_sem, *]) rfl ⟨none, 0, rfl, Wv.none _ _, (by repeat (first | (with_reducible exact Gr.refl _) | (with_reducible assumption) | (with_reducible refine Gr.alloc ?_ _) | (with_reducible refine Gr.drew ?_) | (with_reducible refine Gr.drewN ?_ _) | (with_reducible refine Gr.setCell ?_ (by simp <;> omega) _) | (with_reducible refine Gr.trans ?_ (by with_reducible assumption)) | exact Gr.refl _ | assumption | refine Gr.alloc ?_ _ | refine Gr.drew ?_ | refine Gr.drewN ?_ _ | refine Gr.setCell ?_ (by simp <;> omega) _ | refine Gr.trans ?_ (by assumption)))⟩
set_option maxHeartbeats 2000000 in
set_option maxRecDepth 100000 in
theorem refApplied_large (A B : Option Addr) (n c l cb : Nat) (gs : List (Int × ByteArray)) (nx : Int) (hE : stE nx gs = 0) (hl : 40 < (l : Int)) (hm : (l : Int) ≤ 9223372036854775807) (w : World) (hs : Sv w A n c 2 (sg gs)) (hb : Sh gs) :
    Calls Try.prog 35 #[.agg #[.slice A n c, .int .i64 nx], .slice B l cb] w (RfA (bad 2) w) := by
  have HC := Lib.hid (fun W hg => Err_is A n c gs nx 0 hE W (hs.gr hg) hb)
  clear hE hs hb
  go_enter Try.func35, Try.ntmps35
  go_wp2_with (first | (go_at_call 39; (with_reducible refine (HC.out _ (by repeat (first | (with_reducible exact Gr.refl _) | (with_reducible assumption) | (with_reducible refine Gr.alloc ?_ _) | (with_reducible refine Gr.drew ?_) | (with_reducible refine Gr.drewN ?_ _) | (with_reducible refine Gr.setCell ?_ (by simp <;> omega) _) | (with_reducible refine Gr.trans ?_ (by with_reducible assumption)) | exact Gr.refl _ | assumption | refine Gr.alloc ?_ _ | refine Gr.drew ?_ | refine Gr.drewN ?_ _ | refine Gr.setCell ?_ (by simp <;> omega) _ | refine Gr.trans ?_ (by assumption)))).mono ?_); rintro e w1 ⟨rfl, hb⟩; obtain ⟨hc, hf⟩ := gcells hb (w.heap.size + 2) (by first | exact hz | omega | (simp; done) | (simp; omega)); have hz : w.heap.size + 2 ≤ w1.heap.size := (by have h := hb.size; (try simp at h); omega); have hz0 : w.heap.size < w1.heap.size := (by omega)) | (go_at_call 51; (with_reducible refine (failed_any _ _).mono ?_); rintro e w1 ⟨rfl, hb⟩; obtain ⟨hc, hf⟩ := gcells hb (w.heap.size + 2) (by first | exact hz | omega | (simp; done) | (simp; omega)); have hz : w.heap.size + 2 ≤ w1.heap.size := (by have h := hb.size; (try simp at h); omega); have hz0 : w.heap.size < w1.heap.size := (by omega)))
  refine bodyPost_ret (v := .agg #[.slice none 0 0, .int .i64 0, .int .i64 0, .string ⟨#[]⟩, .int .i64 2]) (by simp [results, Try.results35, go_sem, *]) rfl ⟨none, 0, rfl, Wv.none _ _, (by repeat (first | (with_reducible exact Gr.refl _) | (with_reducible assumption) | (with_reducible refine Gr.alloc ?_ _) | (with_reducible refine Gr.drew ?_) | (with_reducible refine Gr.drewN ?_ _) | (with_reducible refine Gr.setCell ?_ (by simp <;> omega) _) | (with_reducible refine Gr.trans ?_ (by with_reducible assumption)) | exact Gr.refl _ | assumption | refine Gr.alloc ?_ _ | refine Gr.drew ?_ | refine Gr.drewN ?_ _ | refine Gr.setCell ?_ (by simp <;> omega) _ | refine Gr.trans ?_ (by assumption)))⟩

/-- The result's box is as it was. -/
def RbX (w wr : World) : Prop := wr.cell? ⟨w.heap.size + 1, 0, none⟩ = some (.slice none 0 0) ∧ wr.cell? ⟨w.heap.size + 1, 1, none⟩ = some (.int .i64 0) ∧ wr.cell? ⟨w.heap.size + 1, 2, none⟩ = some (.int .i64 0) ∧ wr.cell? ⟨w.heap.size + 1, 3, none⟩ = some (.string ⟨#[]⟩) ∧ wr.cell? ⟨w.heap.size + 1, 4, none⟩ = some (.int .i64 0) ∧ wr.frozen? ⟨w.heap.size + 1, 0, none⟩ = false ∧ wr.frozen? ⟨w.heap.size + 1, 1, none⟩ = false ∧ wr.frozen? ⟨w.heap.size + 1, 2, none⟩ = false ∧ wr.frozen? ⟨w.heap.size + 1, 3, none⟩ = false ∧ wr.frozen? ⟨w.heap.size + 1, 4, none⟩ = false
theorem five_cells {W : World} {g : Nat} {a0 a1 a2 a3 a4 u0 u1 u2 u3 u4 : Value} (h0 : W.cell? ⟨g, 0, none⟩ = some u0) (h1 : W.cell? ⟨g, 1, none⟩ = some u1) (h2 : W.cell? ⟨g, 2, none⟩ = some u2) (h3 : W.cell? ⟨g, 3, none⟩ = some u3) (h4 : W.cell? ⟨g, 4, none⟩ = some u4) :
    (((((W.setCell ⟨g, 0, none⟩ a0).setCell ⟨g, 1, none⟩ a1).setCell ⟨g, 2, none⟩ a2).setCell ⟨g, 3, none⟩ a3).setCell ⟨g, 4, none⟩ a4).cell? ⟨g, 0, none⟩ = some a0 ∧
    (((((W.setCell ⟨g, 0, none⟩ a0).setCell ⟨g, 1, none⟩ a1).setCell ⟨g, 2, none⟩ a2).setCell ⟨g, 3, none⟩ a3).setCell ⟨g, 4, none⟩ a4).cell? ⟨g, 1, none⟩ = some a1 ∧
    (((((W.setCell ⟨g, 0, none⟩ a0).setCell ⟨g, 1, none⟩ a1).setCell ⟨g, 2, none⟩ a2).setCell ⟨g, 3, none⟩ a3).setCell ⟨g, 4, none⟩ a4).cell? ⟨g, 2, none⟩ = some a2 ∧
    (((((W.setCell ⟨g, 0, none⟩ a0).setCell ⟨g, 1, none⟩ a1).setCell ⟨g, 2, none⟩ a2).setCell ⟨g, 3, none⟩ a3).setCell ⟨g, 4, none⟩ a4).cell? ⟨g, 3, none⟩ = some a3 ∧
    (((((W.setCell ⟨g, 0, none⟩ a0).setCell ⟨g, 1, none⟩ a1).setCell ⟨g, 2, none⟩ a2).setCell ⟨g, 3, none⟩ a3).setCell ⟨g, 4, none⟩ a4).cell? ⟨g, 4, none⟩ = some a4 := by
  refine ⟨?_, ?_, ?_, ?_, ?_⟩ <;> simp [go_sem, *]
/-- The answer's variable in a round. -/
def RaC (wr : World) (g' : List (Int × ByteArray)) (x' N' E' : Int) (s7 : Value) (wx : World) : Prop :=
  ∃ gb A c, s7 = .pointer (some ⟨gb, 0, none⟩) ∧ wr.heap.size ≤ gb ∧ gb < wx.heap.size ∧ wx.cell? ⟨gb, 0, none⟩ = some (.slice A g'.length c) ∧ wx.cell? ⟨gb, 1, none⟩ = some (.int .i64 x') ∧ wx.cell? ⟨gb, 2, none⟩ = some (.int .i64 N') ∧ wx.cell? ⟨gb, 3, none⟩ = some (.string ⟨#[]⟩) ∧ wx.cell? ⟨gb, 4, none⟩ = some (.int .i64 E') ∧
    Sv wx A g'.length c 2 (sg g') ∧ (∀ a, A = some a → 0 < g'.length → wr.heap.size ≤ a.block) ∧ Gr wr wx
set_option maxHeartbeats 4000000 in
set_option maxRecDepth 100000 in
theorem refApplied_walk (A B : Option Addr) (n c l cb : Nat) (gs : List (Int × ByteArray)) (nx : Int) (ops : List (Int × Int × Int × Int × ByteArray)) (hE : stE nx gs = 0) (hl : (l : Int) ≤ 40) (w : World) (hs : Sv w A n c 2 (sg gs)) (hb : Sh gs) (ho : Sv w B l cb 5 (oc ops)) (hbo : ShO ops) :
    Calls Try.prog 35 #[.agg #[.slice A n c, .int .i64 nx], .slice B l cb] w (RfA (apF ops nx gs 0) w) := by
  have HC := Lib.hid (fun W hg => Err_is A n c gs nx 0 hE W (hs.gr hg) hb)
  have HS := Lib.hid hs
  have HO := Lib.hid ho
  have HB := Lib.hid hb
  have HBO := Lib.hid hbo
  have HN := Lib.hid hs.segs
  have HL := Lib.hid ho.ops
  have hn10 : n ≤ 10 := by have := (st_right hE).1; have := hs.segs; omega
  have hB : 0 < l → ∃ ob oo, B = some ⟨ob, oo, none⟩ ∧ ob < w.heap.size := fun h => by
    obtain ⟨ob, oo, e, h1, -⟩ := ho.at_ h
    exact ⟨ob, oo, e, h1⟩
  have HBB := Lib.hid hB
  clear hE hs hb ho hbo hB
  go_enter Try.func35, Try.ntmps35
  go_wp2_with ((go_at_call 39; (with_reducible refine (HC.out _ (by repeat (first | (with_reducible exact Gr.refl _) | (with_reducible assumption) | (with_reducible refine Gr.alloc ?_ _) | (with_reducible refine Gr.drew ?_) | (with_reducible refine Gr.drewN ?_ _) | (with_reducible refine Gr.setCell ?_ (by simp <;> omega) _) | (with_reducible refine Gr.trans ?_ (by with_reducible assumption)) | exact Gr.refl _ | assumption | refine Gr.alloc ?_ _ | refine Gr.drew ?_ | refine Gr.drewN ?_ _ | refine Gr.setCell ?_ (by simp <;> omega) _ | refine Gr.trans ?_ (by assumption)))).mono ?_); rintro e w1 ⟨rfl, hb⟩; obtain ⟨hc, hf⟩ := gcells hb (w.heap.size + 2) (by first | exact hz | omega | (simp; done) | (simp; omega)); have hz : w.heap.size + 2 ≤ w1.heap.size := (by have h := hb.size; (try simp at h); omega); have hz0 : w.heap.size < w1.heap.size := (by omega)))
  have HV := Lib.hid (show VbS w1 w.heap.size 0 n nx gs from by
    refine ⟨A, c, hz0, by simp [go_sem, *], by simp [go_sem, *], by simp [go_sem, *], by simp [go_sem, *], HS.out.gr (by repeat (first | (with_reducible exact Gr.refl _) | (with_reducible assumption) | (with_reducible refine Gr.alloc ?_ _) | (with_reducible refine Gr.drew ?_) | (with_reducible refine Gr.drewN ?_ _) | (with_reducible refine Gr.setCell ?_ (by simp <;> omega) _) | (with_reducible refine Gr.trans ?_ (by with_reducible assumption)) | exact Gr.refl _ | assumption | refine Gr.alloc ?_ _ | refine Gr.drew ?_ | refine Gr.drewN ?_ _ | refine Gr.setCell ?_ (by simp <;> omega) _ | refine Gr.trans ?_ (by assumption))), fun a ha h0 => ⟨Nat.zero_le _, ?_⟩⟩
    obtain ⟨ab, ao, e, hlt, -⟩ := HS.out.at_ h0
    rw [ha] at e
    simp only [Option.some.injEq] at e
    subst e
    show ab ≠ w.heap.size
    omega)
  have r0 : w1.cell? ⟨w.heap.size + 1, 0, none⟩ = some (.slice none 0 0) := by simp [go_sem, *]
  have f0 : w1.frozen? ⟨w.heap.size + 1, 0, none⟩ = false := by simp [go_sem, *]
  have r1 : w1.cell? ⟨w.heap.size + 1, 1, none⟩ = some (.int .i64 0) := by simp [go_sem, *]
  have f1 : w1.frozen? ⟨w.heap.size + 1, 1, none⟩ = false := by simp [go_sem, *]
  have r2 : w1.cell? ⟨w.heap.size + 1, 2, none⟩ = some (.int .i64 0) := by simp [go_sem, *]
  have f2 : w1.frozen? ⟨w.heap.size + 1, 2, none⟩ = false := by simp [go_sem, *]
  have r3 : w1.cell? ⟨w.heap.size + 1, 3, none⟩ = some (.string ⟨#[]⟩) := by simp [go_sem, *]
  have f3 : w1.frozen? ⟨w.heap.size + 1, 3, none⟩ = false := by simp [go_sem, *]
  have r4 : w1.cell? ⟨w.heap.size + 1, 4, none⟩ = some (.int .i64 0) := by simp [go_sem, *]
  have f4 : w1.frozen? ⟨w.heap.size + 1, 4, none⟩ = false := by simp [go_sem, *]
  have HR := Lib.hid (And.intro r0 (And.intro r1 (And.intro r2 (And.intro r3 r4))))
  have HFR := Lib.hid (And.intro f0 (And.intro f1 (And.intro f2 (And.intro f3 f4))))
  have G4 := Lib.hid (show Gr w w1 from (by repeat (first | (with_reducible exact Gr.refl _) | (with_reducible assumption) | (with_reducible refine Gr.alloc ?_ _) | (with_reducible refine Gr.drew ?_) | (with_reducible refine Gr.drewN ?_ _) | (with_reducible refine Gr.setCell ?_ (by simp <;> omega) _) | (with_reducible refine Gr.trans ?_ (by with_reducible assumption)) | exact Gr.refl _ | assumption | refine Gr.alloc ?_ _ | refine Gr.drew ?_ | refine Gr.drewN ?_ _ | refine Gr.setCell ?_ (by simp <;> omega) _ | refine Gr.trans ?_ (by assumption))))
  have hzz1 : w.heap.size + 1 < w1.heap.size := by omega
  clear hc hf hb r0 r1 r2 r3 r4 f0 f1 f2 f3 f4 HC HS
  generalize w1 = W4 at *
  have HRB := Lib.hid (show RbX w W4 from ⟨HR.out.1, HR.out.2.1, HR.out.2.2.1, HR.out.2.2.2.1, HR.out.2.2.2.2, HFR.out.1, HFR.out.2.1, HFR.out.2.2.1, HFR.out.2.2.2.1, HFR.out.2.2.2.2⟩)
  clear HR HFR
  go_loopw [6] (fun i wr => ∃ (q m : Nat) (x : Int) (gq : List (Int × ByteArray)), q ≤ l ∧ i = .int .i64 q ∧ Hid (gq.length = m ∧ m ≤ 11 ∧ Sh gq ∧ apF (ops.drop q) x gq q = apF ops nx gs 0) ∧ Hid (VbS wr w.heap.size 0 m x gq) ∧ Hid (RbX w wr) ∧ Hid (Gr w wr)) (fun i _ => l - (intOf i).toNat)
  case atStart => exact ⟨0, n, nx, gs, Nat.zero_le _, rfl, Lib.hid ⟨HN.out, by omega, HB.out, rfl⟩, HV, HRB, G4⟩
  case round =>
    obtain ⟨q, m, x, gq, hq, rfl, HQ, HVr, HRr, HGr⟩ := hrel
    obtain ⟨Aq, cq, v0, v1, v2, v3, v4, hsv, hne⟩ := HVr.out
    obtain ⟨r0, r1, r2, r3, r4, f0, f1, f2, f3, f4⟩ := HRr.out
    have hzw : w.heap.size + 1 < wr.heap.size := World.block_lt_of_cell? wr _ r0
    have HSV := Lib.hid hsv
    have HNE := Lib.hid hne
    clear hsv hne
    by_cases hlt : q < l
    · obtain ⟨ob, oo, rfl, hob⟩ := HBB.out (by omega)
      obtain ⟨k0, k1, k2, k3, k4⟩ := (HO.out.gr HGr.out).op hlt
      have hbs := HBO.out q (by rw [HL.out]; exact hlt)
      have hAp := fun W (hg : Gr wr W) => (op_both Aq m cq gq x (opAt ops q).1 (opAt ops q).2.1 (opAt ops q).2.2.1 (opAt ops q).2.2.2.1 (opAt ops q).2.2.2.2 hbs W (HSV.out.gr hg) HQ.out.2.2.1).2
      have hbd := apF_bad (l := ops) (q := q) (i := q) (nx := x) (gs := gq) (by rw [HL.out]; exact hlt)
      have hok := apF_ok (l := ops) (q := q) (i := q) (nx := x) (gs := gq) (by rw [HL.out]; exact hlt)
      have hsh := fun h => opR_ok (nx := x) (kd := (opAt ops q).1) (sn := (opAt ops q).2.1) (o := (opAt ops q).2.2.1) (pg := (opAt ops q).2.2.2.1) (b := (opAt ops q).2.2.2.2) HQ.out.2.2.1 h
      unfold opX at hbd hok
      unfold Rf at hAp
      generalize opR x gq (opAt ops q).1 (opAt ops q).2.1 (opAt ops q).2.2.1 (opAt ops q).2.2.2.1 (opAt ops q).2.2.2.2 = r at *
      obtain ⟨g', x', N', E'⟩ := r
      dsimp only at hAp hbd hok hsh
      generalize (opAt ops q).1 = kd at *
      generalize (opAt ops q).2.1 = sn at *
      generalize (opAt ops q).2.2.1 = o at *
      generalize (opAt ops q).2.2.2.1 = pg at *
      generalize (opAt ops q).2.2.2.2 = bb at *
      have HAp := Lib.hid hAp
      have HBD := Lib.hid hbd
      have HOK := Lib.hid hok
      have HSH := Lib.hid hsh
      clear hAp hbd hok hsh hbs
      have hobw : ob < wr.heap.size := World.block_lt_of_cell? wr _ k0
      go_upto_region 9 with (fail)
      go_cut [7] (fun s7 wx => RaC wr g' x' N' E' s7 wx)
      case first =>
        go_region_held3 (fun w' => w'.cell? ⟨w.heap.size, 0, none⟩ = some (.slice Aq m cq) ∧ w'.cell? ⟨w.heap.size, 1, none⟩ = some (.int .i64 x) ∧ w'.cell? ⟨ob, oo + q * 5, none⟩ = some (.int .i64 kd) ∧ w'.cell? ⟨ob, oo + q * 5 + 1, none⟩ = some (.int .i64 sn) ∧ w'.cell? ⟨ob, oo + q * 5 + 2, none⟩ = some (.int .i64 o) ∧ w'.cell? ⟨ob, oo + q * 5 + 3, none⟩ = some (.int .i64 pg) ∧ w'.cell? ⟨ob, oo + q * 5 + 4, none⟩ = some (.string bb)) (((try go_split_ands); (repeat' apply And.intro) <;> ((try simp only [World.cell?_drew]); first | (with_reducible assumption) | (simp [go_sem]; done) | ((repeat (first | (refine keepFar ?_ (by first | (dsimp only; omega) | (simp; done) | (simp; omega))) | (refine (Gr.alloc (Gr.refl _) _).keep ?_))); (try simp only [World.cell?_drew]); first | (with_reducible assumption) | (refine hb.keep ?_; (try simp only [World.cell?_drew]); first | (with_reducible assumption) | (simp [go_sem]; done) | ((repeat (refine (Gr.alloc (Gr.refl _) _).keep ?_)); (try simp only [World.cell?_drew]); (with_reducible assumption))) | (simp [*, go_sem]; done)))))
          ((go_at_call 60; (with_reducible refine (HAp.out _ (by repeat (first | (with_reducible exact Gr.refl _) | (with_reducible assumption) | (with_reducible refine Gr.alloc ?_ _) | (with_reducible refine Gr.drew ?_) | (with_reducible refine Gr.drewN ?_ _) | (with_reducible refine Gr.setCell ?_ (by simp <;> omega) _) | (with_reducible refine Gr.trans ?_ (by with_reducible assumption)) | exact Gr.refl _ | assumption | refine Gr.alloc ?_ _ | refine Gr.drew ?_ | refine Gr.drewN ?_ _ | refine Gr.setCell ?_ (by simp <;> omega) _ | refine Gr.trans ?_ (by assumption)))).mono ?_); rintro e w4 ⟨A4, c4, rfl, hW, hb⟩; have HW := Lib.hid hW; clear hW; obtain ⟨hc4, hf4⟩ := hb.cells; have hz4 : wr.heap.size ≤ w4.heap.size := (by have h := hb.size; simp at h; omega)))
        all_goals
          go_wp2_with fail
          go_meet
          clear HAp HBD HOK HSH HO HB HBO HBB HQ HVr HRr HGr HSV HNE r0 r1 r2 r3 r4 f0 f1 f2 f3 f4 v0 v1 v2 v3 v4 k0 k1 k2 k3 k4 HV HRB G4 HN HL hzz1 hn10
        all_goals
          refine ⟨_, A4, c4, rfl, ?_, ?_, ?_, ?_, ?_, ?_, ?_, ?_, ?_, ?_⟩
          · first | exact Nat.le_refl _ | omega | (simp; omega)
          · first | (simp; done) | (have h := hb.size; simp at h ⊢; omega)
          · first | (simp [go_sem]; done) | exact (five_cells (u0 := .slice none 0 0) (u1 := .int .i64 0) (u2 := .int .i64 0) (u3 := .string ⟨#[]⟩) (u4 := .int .i64 0) (hb.keep (by simp [go_sem])) (hb.keep (by simp [go_sem])) (hb.keep (by simp [go_sem])) (hb.keep (by simp [go_sem])) (hb.keep (by simp [go_sem]))).1
          · first | (simp [go_sem]; done) | exact (five_cells (u0 := .slice none 0 0) (u1 := .int .i64 0) (u2 := .int .i64 0) (u3 := .string ⟨#[]⟩) (u4 := .int .i64 0) (hb.keep (by simp [go_sem])) (hb.keep (by simp [go_sem])) (hb.keep (by simp [go_sem])) (hb.keep (by simp [go_sem])) (hb.keep (by simp [go_sem]))).2.1
          · first | (simp [go_sem]; done) | exact (five_cells (u0 := .slice none 0 0) (u1 := .int .i64 0) (u2 := .int .i64 0) (u3 := .string ⟨#[]⟩) (u4 := .int .i64 0) (hb.keep (by simp [go_sem])) (hb.keep (by simp [go_sem])) (hb.keep (by simp [go_sem])) (hb.keep (by simp [go_sem])) (hb.keep (by simp [go_sem]))).2.2.1
          · first | (simp [go_sem]; done) | exact (five_cells (u0 := .slice none 0 0) (u1 := .int .i64 0) (u2 := .int .i64 0) (u3 := .string ⟨#[]⟩) (u4 := .int .i64 0) (hb.keep (by simp [go_sem])) (hb.keep (by simp [go_sem])) (hb.keep (by simp [go_sem])) (hb.keep (by simp [go_sem])) (hb.keep (by simp [go_sem]))).2.2.2.1
          · first | (simp [go_sem]; done) | exact (five_cells (u0 := .slice none 0 0) (u1 := .int .i64 0) (u2 := .int .i64 0) (u3 := .string ⟨#[]⟩) (u4 := .int .i64 0) (hb.keep (by simp [go_sem])) (hb.keep (by simp [go_sem])) (hb.keep (by simp [go_sem])) (hb.keep (by simp [go_sem])) (hb.keep (by simp [go_sem]))).2.2.2.2
          · first | (with_reducible exact HW.out.sv.gr ((Gr.refl _).alloc _)) | (with_reducible refine (((((HW.out.setLow ?_ _).setLow ?_ _).setLow ?_ _).setLow ?_ _).setLow ?_ _).sv <;> first | (simp; done) | (simp; omega))
          · intro a ha h0
            obtain ⟨gq2, e, h1, h2, -⟩ := HW.out.at_ h0
            rw [ha] at e
            simp only [Option.some.injEq] at e
            subst e
            simp at h1 h2 ⊢
            omega
          · first | (with_reducible exact (((Gr.refl _).drew.trans hb).alloc _)) | (with_reducible exact ((((((((Gr.refl _).alloc _).drew.trans hb).setCell (Nat.le_refl _) _).setCell (Nat.le_refl _) _).setCell (Nat.le_refl _) _).setCell (Nat.le_refl _) _).setCell (Nat.le_refl _) _)) | exact (by (repeat (first | with_reducible refine Gr.setCell ?_ (by simp <;> omega) _ | with_reducible refine Gr.drew ?_ | with_reducible refine Gr.drewN ?_ _ | with_reducible refine Gr.alloc ?_ _)); first | (with_reducible exact Gr.refl _) | (with_reducible assumption) | exact (by repeat (first | (with_reducible exact Gr.refl _) | (with_reducible assumption) | (with_reducible refine Gr.alloc ?_ _) | (with_reducible refine Gr.drew ?_) | (with_reducible refine Gr.drewN ?_ _) | (with_reducible refine Gr.setCell ?_ (by simp <;> omega) _) | (with_reducible refine Gr.trans ?_ (by with_reducible assumption)) | exact Gr.refl _ | assumption | refine Gr.alloc ?_ _ | refine Gr.drew ?_ | refine Gr.drewN ?_ _ | refine Gr.setCell ?_ (by simp <;> omega) _ | refine Gr.trans ?_ (by assumption))))
      case rest =>
        obtain ⟨gb, A4, c4, rfl, hgb, hgbl, y0, y1, y2, y3, y4, hsv4, hne4, hG⟩ := hcut
        have e0 := hG.keep r0
        have e1 := hG.keep r1
        have e2 := hG.keep r2
        have e3 := hG.keep r3
        have e4 := hG.keep r4
        have p0 := (hG.cells.2 (w.heap.size + 1) 0 (by omega)).trans f0
        have p1 := (hG.cells.2 (w.heap.size + 1) 1 (by omega)).trans f1
        have p2 := (hG.cells.2 (w.heap.size + 1) 2 (by omega)).trans f2
        have p3 := (hG.cells.2 (w.heap.size + 1) 3 (by omega)).trans f3
        have p4 := (hG.cells.2 (w.heap.size + 1) 4 (by omega)).trans f4
        have u0 := hG.keep v1
        have u1 := hG.keep v2
        have u2 := (hG.cells.2 w.heap.size 0 (by omega)).trans v3
        have u3 := (hG.cells.2 w.heap.size 1 (by omega)).trans v4
        have hzc : w.heap.size + 1 < wc.heap.size := by omega
        have hzc0 : w.heap.size < wc.heap.size := by omega
        have HSV4 := Lib.hid hsv4
        have HNE4 := Lib.hid hne4
        have HGc := Lib.hid (HGr.out.trans hG)
        have HGB := Lib.hid (show w.heap.size + 1 < gb by omega)
        clear hG r0 r1 r2 r3 r4 f0 f1 f2 f3 f4 v0 v1 v2 v3 v4 hsv4 hne4 k0 k1 k2 k3 k4 HAp HRr HSV HNE HVr
        rcases Bool.eq_false_or_eq_true (E' != 0) with hE | hE
        · have hE0 := Lib.hid (show E' ≠ 0 by simpa using hE)
          go_wp2
          refine bodyPost_ret (v := .agg #[.slice none 0 0, .int .i64 0, .int .i64 q, .string ⟨#[]⟩, .int .i64 E']) (by simp [results, Try.results35, go_sem, *]) rfl ?_
          rw [← HQ.out.2.2.2, HBD.out hE0.out]
          refine ⟨none, 0, rfl, Wv.none _ _, ?_⟩
          have hGw := HGc.out
          exact (by repeat (first | (with_reducible exact Gr.refl _) | (with_reducible assumption) | (with_reducible refine Gr.alloc ?_ _) | (with_reducible refine Gr.drew ?_) | (with_reducible refine Gr.drewN ?_ _) | (with_reducible refine Gr.setCell ?_ (by simp <;> omega) _) | (with_reducible refine Gr.trans ?_ (by with_reducible assumption)) | exact Gr.refl _ | assumption | refine Gr.alloc ?_ _ | refine Gr.drew ?_ | refine Gr.drewN ?_ _ | refine Gr.setCell ?_ (by simp <;> omega) _ | refine Gr.trans ?_ (by assumption)))
        · have hE0 := Lib.hid (show E' = 0 by simpa using hE)
          have hOK := HOK.out hE0.out
          have hSH := HSH.out hE0.out
          have HO2 := Lib.hid (And.intro hOK hSH)
          clear hOK hSH HOK HSH HBD
          go_wp2
          go_roundw
          case rel =>
            refine ⟨q + 1, g'.length, x', g', by omega, by go_num, Lib.hid ⟨rfl, HO2.out.2.2, HO2.out.2.1, by rw [← HO2.out.1]; exact HQ.out.2.2.2⟩, Lib.hid ⟨A4, c4, ?_, ?_, ?_, ?_, ?_, ?_, ?_⟩, Lib.hid ?_, Lib.hid ?_⟩
            · simpa using hzc0
            · simp [go_sem, *]
            · simp [go_sem, *]
            · simp [go_sem, *]
            · simp [go_sem, *]
            · exact (HSV4.out.setFar _ (fun a ha h0 => by have := HNE4.out a ha h0; show a.block ≠ w.heap.size; omega)).setFar _ (fun a ha h0 => by have := HNE4.out a ha h0; show a.block ≠ w.heap.size; omega)
            · intro a ha h0
              have := HNE4.out a ha h0
              exact ⟨Nat.zero_le _, by omega⟩
            · refine ⟨?_, ?_, ?_, ?_, ?_, ?_, ?_, ?_, ?_, ?_⟩ <;> simp [go_sem, *]
            · have hGw := HGc.out
              exact (hGw.setCell (by simp) _).setCell (by simp) _
          case measure => simp [intOf]; omega
    · have hql := Lib.hid (show q = l by omega)
      go_wp2_with (go_at_call 15; (with_reducible refine (Own_n Aq m cq gq x _ (HSV.out.gr (by repeat (first | (with_reducible exact Gr.refl _) | (with_reducible assumption) | (with_reducible refine Gr.alloc ?_ _) | (with_reducible refine Gr.drew ?_) | (with_reducible refine Gr.drewN ?_ _) | (with_reducible refine Gr.setCell ?_ (by simp <;> omega) _) | (with_reducible refine Gr.trans ?_ (by with_reducible assumption)) | exact Gr.refl _ | assumption | refine Gr.alloc ?_ _ | refine Gr.drew ?_ | refine Gr.drewN ?_ _ | refine Gr.setCell ?_ (by simp <;> omega) _ | refine Gr.trans ?_ (by assumption)))) (by have := HQ.out.2.1; omega)).mono ?_); rintro e w5 ⟨A5, c5, rfl, hV, hb, hzz⟩; have HV5 := Lib.hid hV; clear hV; have hy1 : w.heap.size + 1 < w5.heap.size := (by omega); have t0 := hb.keep r0; have t1 := hb.keep r1; have t2 := hb.keep r2; have t3 := hb.keep r3; have t4 := hb.keep r4; have s0 := (hb.cells.2 (w.heap.size + 1) 0 hzw).trans f0; have s1 := (hb.cells.2 (w.heap.size + 1) 1 hzw).trans f1; have s2 := (hb.cells.2 (w.heap.size + 1) 2 hzw).trans f2; have s3 := (hb.cells.2 (w.heap.size + 1) 3 hzw).trans f3; have s4 := (hb.cells.2 (w.heap.size + 1) 4 hzw).trans f4)
      refine bodyPost_ret (v := .agg #[.slice A5 m c5, .int .i64 x, .int .i64 l, .string ⟨#[]⟩, .int .i64 0]) (by simp [results, Try.results35, go_sem, *]) rfl ?_
      have hlast := apF_end (l := ops) (q := q) (i := q) (nx := x) (gs := gq) (by rw [HL.out]; omega)
      rw [← HQ.out.2.2.2, hlast]
      refine ⟨A5, c5, ?_, ?_, ?_⟩
      · rw [hql.out, HQ.out.1]
      · rw [HQ.out.1]
        exact (((((HV5.out.setLow hzw _).setLow hzw _).setLow hzw _).setLow hzw _).setLow hzw _).mono (by omega)
      · have hGw := HGr.out.trans hb
        exact ((((hGw.setCell (by simp) _).setCell (by simp) _).setCell (by simp) _).setCell (by simp) _).setCell (by simp) _
end Go.Proofs.Ytljminmfldejnaa
