/- The program's Extended, Truncated: the new store. -/
import Derived.Test.YtljminmfldejnaaHn
namespace Go.Proofs.Ytljminmfldejnaa
set_option linter.unusedSimpArgs false
set_option linter.unusedVariables false
open Go.RowKit

set_option maxHeartbeats 4000000 in
set_option maxRecDepth 100000 in
theorem Extended_yes (A : Option Addr) (n c : Nat) (gs : List (Int × ByteArray)) (nx k : Int) (q : Nat) (hE : ixE nx gs k = 0) (hp : 1 ≤ q ∧ q ≤ 8) (hf : pgs (byG gs (fI gs k)) + q ≤ 8) (w : World) (hs : Sv w A n c 2 (sg gs)) (hb : Sh gs) :
    Calls Try.prog 24 #[.agg #[.slice A n c, .int .i64 nx], .int .i64 k, .int .i64 q] w fun e w' => ∃ A c, e = .returned (.tuple #[.agg #[.slice A n c, .int .i64 nx], .int .i64 0]) ∧ Wv w' w.heap.size A n c 2 (sg (setG gs (fI gs k) (byG gs (fI gs k) ++ zP q))) ∧ Gr w w' := by
  obtain ⟨e2, e3, e4, e5, e6⟩ := seg_right hE
  have HC := Lib.hid (fun W hg => indexOf_is A n c gs nx k _ 0 (ixI_is hE) hE W (hs.gr hg) hb)
  have hl := hs.segs
  have hxs := hb _ e2
  have hsz : (byG gs (fI gs k)).size ≤ 287 := by omega
  obtain ⟨b, o, rfl, hbl, -⟩ := hs.at_ (show 0 < n by omega)
  have HK := Lib.hid (fun W (hg : Gr w W) => (hs.gr hg).seg (show fI gs k < n by omega))
  have HS := Lib.hid hs
  have hin : fI gs k < n := by omega
  have hn : n ≤ 10 := by omega
  have hpg : 1 ≤ pgs (byG gs (fI gs k)) ∧ pgs (byG gs (fI gs k)) ≤ 8 := by unfold pgs; omega
  have HPG := Lib.hid (fun W => pagesOf_any (nuG gs (fI gs k)) (byG gs (fI gs k)) hxs W)
  have HP := Lib.hid (show wiB (q : Int) 1 8 = true from wiB_yes (by omega) (by omega))
  have hz := zP_size q
  clear hE hs hb e2 e3 e4 e5 e6 hl hxs
  generalize fI gs k = i at *
  generalize nuG gs i = m at *
  generalize byG gs i = x at *
  generalize pgs x = P at *
  have hi1 : (i : Int) < n := by omega
  have hq8 := hp.2
  have hwr : IntKind.i64.wrap (P + q) = P + q := IntWalk.i64_in _ (by omega)
  have hss := add_ss x (zP q) (by omega)
  clear hp hz
  go_enter Try.func24, Try.ntmps24
  go_upto_region 9 with (first | ((go_at_call 49; (with_reducible refine (HC.out _ (by repeat (first | (with_reducible exact Gr.refl _) | (with_reducible assumption) | (with_reducible refine Gr.alloc ?_ _) | (with_reducible refine Gr.drew ?_) | (with_reducible refine Gr.drewN ?_ _) | (with_reducible refine Gr.setCell ?_ (by simp <;> omega) _) | (with_reducible refine Gr.trans ?_ (by with_reducible assumption)) | exact Gr.refl _ | assumption | refine Gr.alloc ?_ _ | refine Gr.drew ?_ | refine Gr.drewN ?_ _ | refine Gr.setCell ?_ (by simp <;> omega) _ | refine Gr.trans ?_ (by assumption)))).mono ?_); rintro e w1 ⟨rfl, hb⟩; obtain ⟨hc, hf⟩ := gcells hb (w.heap.size + 2) (by first | exact hz | omega | (simp; done) | (simp; omega)); have hz : w.heap.size + 2 ≤ w1.heap.size := (by have h := hb.size; (try simp at h); omega); have hz0 : w.heap.size < w1.heap.size := (by omega)); obtain ⟨k0, k1⟩ := HK.out _ (show Gr w w1 from (by repeat (first | (with_reducible exact Gr.refl _) | (with_reducible assumption) | (with_reducible refine Gr.alloc ?_ _) | (with_reducible refine Gr.drew ?_) | (with_reducible refine Gr.drewN ?_ _) | (with_reducible refine Gr.setCell ?_ (by simp <;> omega) _) | (with_reducible refine Gr.trans ?_ (by with_reducible assumption)) | exact Gr.refl _ | assumption | refine Gr.alloc ?_ _ | refine Gr.drew ?_ | refine Gr.drewN ?_ _ | refine Gr.setCell ?_ (by simp <;> omega) _ | refine Gr.trans ?_ (by assumption)))); have hbl1 : b < w1.heap.size := World.block_lt_of_cell? w1 _ k0; have hzz1 : w.heap.size + 1 < w1.heap.size := (by omega)) | (go_at_call 43; (with_reducible refine (isFromOne_is _ _ _ HP.out _).mono ?_); rintro e w1 ⟨rfl, rfl⟩) | (go_at_call 45; (with_reducible refine (HPG.out _).mono ?_); rintro e w2 ⟨rfl, hb2⟩; obtain ⟨hc, hf⟩ := gcells hb2 (w.heap.size + 2) (by first | exact hz | (simp; done) | (simp; omega) | omega); have hz : w.heap.size + 2 ≤ w2.heap.size := (by have h := Gr.size hb2; (try simp at h); omega); have hz0 : w.heap.size < w2.heap.size := (by omega); have hz1 : w.heap.size + 1 < w2.heap.size := (by omega); have hbb2 : w1.heap.size < w2.heap.size := (by have h := hb2.size; simp at h; omega); have gx : w2.cell? ⟨w1.heap.size, 1, none⟩ = some (.string x) := hb2.keep (by simp [go_sem]); have hG2 := Lib.hid hb2))
  have b0 : w2.cell? ⟨w.heap.size, 0, none⟩ = some (.slice (some ⟨b, o, none⟩) n c) := by simp [go_sem, *]
  have b1 : w2.cell? ⟨w.heap.size, 1, none⟩ = some (.int .i64 nx) := by simp [go_sem, *]
  have b2 : w2.cell? ⟨w.heap.size + 1, 0, none⟩ = some (.slice none 0 0) := by simp [go_sem, *]
  have b3 : w2.cell? ⟨w.heap.size + 1, 1, none⟩ = some (.int .i64 0) := by simp [go_sem, *]
  have f0 : w2.frozen? ⟨w.heap.size + 1, 0, none⟩ = false := by simp [go_sem, *]
  have f1 : w2.frozen? ⟨w.heap.size + 1, 1, none⟩ = false := by simp [go_sem, *]
  have G1 := Lib.hid (show Gr w w2 from (by repeat (first | (with_reducible exact Gr.refl _) | (with_reducible assumption) | (with_reducible refine Gr.alloc ?_ _) | (with_reducible refine Gr.drew ?_) | (with_reducible refine Gr.drewN ?_ _) | (with_reducible refine Gr.setCell ?_ (by simp <;> omega) _) | (with_reducible refine Gr.trans ?_ (by with_reducible assumption)) | exact Gr.refl _ | assumption | refine Gr.alloc ?_ _ | refine Gr.drew ?_ | refine Gr.drewN ?_ _ | refine Gr.setCell ?_ (by simp <;> omega) _ | refine Gr.trans ?_ (by assumption))))
  have hq1 : w.heap.size + 1 < w2.heap.size := by omega
  have hq0 : w.heap.size < w2.heap.size := by omega
  clear hc hf hb2 hz hz0 hz1 k0 k1 hG2
  generalize w1.heap.size = g1 at *
  generalize w2 = W1 at *
  go_region_held3 (fun w' => w'.cell? ⟨w.heap.size, 0, none⟩ = some (.slice (some ⟨b, o, none⟩) n c) ∧ w'.cell? ⟨w.heap.size, 1, none⟩ = some (.int .i64 nx) ∧ w'.cell? ⟨g1, 1, none⟩ = some (.string x)) (((try go_split_ands); (repeat' apply And.intro) <;> ((try simp only [World.cell?_drew]); first | (with_reducible assumption) | (simp [go_sem]; done) | ((repeat (first | (refine keepFar ?_ (by first | (dsimp only; omega) | (simp; done) | (simp; omega))) | (refine (Gr.alloc (Gr.refl _) _).keep ?_))); (try simp only [World.cell?_drew]); first | (with_reducible assumption) | (refine hb.keep ?_; (try simp only [World.cell?_drew]); first | (with_reducible assumption) | (simp [go_sem]; done) | ((repeat (refine (Gr.alloc (Gr.refl _) _).keep ?_)); (try simp only [World.cell?_drew]); (with_reducible assumption))) | (simp [*, go_sem]; done)))))
    (first
      | (go_at_call 48; (with_reducible refine (zeroPages_any q (by omega) _).mono ?_); rintro e w3 ⟨rfl, hb⟩; have hq3 : w.heap.size + 1 < w3.heap.size := (by have h := hb.size; simp at h; omega))
      | (go_at_call 54; (with_reducible refine (withBytes_any (some ⟨b, o, none⟩) n c gs nx i (x ++ zP q) _ (HS.out.gr (G1.out.trans (by repeat (first | (with_reducible exact Gr.refl _) | (with_reducible assumption) | (with_reducible refine Gr.alloc ?_ _) | (with_reducible refine Gr.drew ?_) | (with_reducible refine Gr.drewN ?_ _) | (with_reducible refine Gr.setCell ?_ (by simp <;> omega) _) | (with_reducible refine Gr.trans ?_ (by with_reducible assumption)) | exact Gr.refl _ | assumption | refine Gr.alloc ?_ _ | refine Gr.drew ?_ | refine Gr.drewN ?_ _ | refine Gr.setCell ?_ (by simp <;> omega) _ | refine Gr.trans ?_ (by assumption))))) (by omega) hin).mono ?_); rintro e w4 ⟨A4, c4, rfl, hW, hb4⟩; have hb := hb.trans (Gr.trans (by repeat (first | (with_reducible exact Gr.refl _) | (with_reducible assumption) | (with_reducible refine Gr.alloc ?_ _) | (with_reducible refine Gr.drew ?_) | (with_reducible refine Gr.drewN ?_ _) | (with_reducible refine Gr.setCell ?_ (by simp <;> omega) _) | (with_reducible refine Gr.trans ?_ (by with_reducible assumption)) | exact Gr.refl _ | assumption | refine Gr.alloc ?_ _ | refine Gr.drew ?_ | refine Gr.drewN ?_ _ | refine Gr.setCell ?_ (by simp <;> omega) _ | refine Gr.trans ?_ (by assumption))) hb4); have HW := Lib.hid hW; clear hW; have hz2 : w.heap.size + 1 < w4.heap.size := (by have h := hb.size; simp at h; omega); have hz3 : w.heap.size < w4.heap.size := (by omega); have g0 : w4.frozen? ⟨w.heap.size + 1, 0, none⟩ = false := (hb.cells.2 (w.heap.size + 1) 0 (by simp; omega)).trans (by simp [go_sem, *]); have g1' : w4.frozen? ⟨w.heap.size + 1, 1, none⟩ = false := (hb.cells.2 (w.heap.size + 1) 1 (by simp; omega)).trans (by simp [go_sem, *]); have d2 : w4.cell? ⟨w.heap.size + 1, 0, none⟩ = some (.slice none 0 0) := hb.keep (by simp [go_sem, *]); have d3 : w4.cell? ⟨w.heap.size + 1, 1, none⟩ = some (.int .i64 0) := hb.keep (by simp [go_sem, *])))
  all_goals
    go_wp2
    refine bodyPost_ret (v := .tuple #[.agg #[.slice A4 n c4, .int .i64 nx], .int .i64 0]) (by simp [results, Try.results24, go_sem, *]) rfl ⟨A4, c4, rfl, ((HW.out.setLow (by have := hb.size; simp at this ⊢; omega) _).setLow (by have := hb.size; simp at this ⊢; omega) _).mono (by have := hb.size; simp at this ⊢; omega), ?_⟩
    exact ((G1.out.trans (Gr.trans (by repeat (first | (with_reducible exact Gr.refl _) | (with_reducible assumption) | (with_reducible refine Gr.alloc ?_ _) | (with_reducible refine Gr.drew ?_) | (with_reducible refine Gr.drewN ?_ _) | (with_reducible refine Gr.setCell ?_ (by simp <;> omega) _) | (with_reducible refine Gr.trans ?_ (by with_reducible assumption)) | exact Gr.refl _ | assumption | refine Gr.alloc ?_ _ | refine Gr.drew ?_ | refine Gr.drewN ?_ _ | refine Gr.setCell ?_ (by simp <;> omega) _ | refine Gr.trans ?_ (by assumption))) hb)).setCell (by simp) _).setCell (by simp) _

set_option maxHeartbeats 2000000 in
set_option maxRecDepth 100000 in
theorem Truncated_range (A : Option Addr) (n c : Nat) (gs : List (Int × ByteArray)) (nx k p : Int) (hE : ixE nx gs k = 0) (hp : wiB p 1 (pgs (byG gs (fI gs k))) = false) (w : World) (hs : Sv w A n c 2 (sg gs)) (hb : Sh gs) :
    Calls Try.prog 25 #[.agg #[.slice A n c, .int .i64 nx], .int .i64 k, .int .i64 p] w (St2R [] 0 3 w) := by
  obtain ⟨e2, e3, e4, e5, e6⟩ := seg_right hE
  have HC := Lib.hid (fun W hg => indexOf_is A n c gs nx k _ 0 (ixI_is hE) hE W (hs.gr hg) hb)
  have hl := hs.segs
  have hxs := hb _ e2
  have hsz : (byG gs (fI gs k)).size ≤ 287 := by omega
  obtain ⟨b, o, rfl, hbl, -⟩ := hs.at_ (show 0 < n by omega)
  have HK := Lib.hid (fun W (hg : Gr w W) => (hs.gr hg).seg (show fI gs k < n by omega))
  have HS := Lib.hid hs
  have hin : fI gs k < n := by omega
  have hn : n ≤ 10 := by omega
  have hpg : 1 ≤ pgs (byG gs (fI gs k)) ∧ pgs (byG gs (fI gs k)) ≤ 8 := by unfold pgs; omega
  have HPG := Lib.hid (fun W => pagesOf_any (nuG gs (fI gs k)) (byG gs (fI gs k)) hxs W)
  have HP := Lib.hid hp
  clear hp
  clear hE hs hb e2 e3 e4 e5 e6 hl hxs
  generalize fI gs k = i at *
  generalize nuG gs i = m at *
  generalize byG gs i = x at *
  generalize pgs x = P at *
  have hi1 : (i : Int) < n := by omega
  go_enter Try.func25, Try.ntmps25
  go_wp2_with (first | ((go_at_call 49; (with_reducible refine (HC.out _ (by repeat (first | (with_reducible exact Gr.refl _) | (with_reducible assumption) | (with_reducible refine Gr.alloc ?_ _) | (with_reducible refine Gr.drew ?_) | (with_reducible refine Gr.drewN ?_ _) | (with_reducible refine Gr.setCell ?_ (by simp <;> omega) _) | (with_reducible refine Gr.trans ?_ (by with_reducible assumption)) | exact Gr.refl _ | assumption | refine Gr.alloc ?_ _ | refine Gr.drew ?_ | refine Gr.drewN ?_ _ | refine Gr.setCell ?_ (by simp <;> omega) _ | refine Gr.trans ?_ (by assumption)))).mono ?_); rintro e w1 ⟨rfl, hb⟩; obtain ⟨hc, hf⟩ := gcells hb (w.heap.size + 2) (by first | exact hz | omega | (simp; done) | (simp; omega)); have hz : w.heap.size + 2 ≤ w1.heap.size := (by have h := hb.size; (try simp at h); omega); have hz0 : w.heap.size < w1.heap.size := (by omega)); obtain ⟨k0, k1⟩ := HK.out _ (show Gr w w1 from (by repeat (first | (with_reducible exact Gr.refl _) | (with_reducible assumption) | (with_reducible refine Gr.alloc ?_ _) | (with_reducible refine Gr.drew ?_) | (with_reducible refine Gr.drewN ?_ _) | (with_reducible refine Gr.setCell ?_ (by simp <;> omega) _) | (with_reducible refine Gr.trans ?_ (by with_reducible assumption)) | exact Gr.refl _ | assumption | refine Gr.alloc ?_ _ | refine Gr.drew ?_ | refine Gr.drewN ?_ _ | refine Gr.setCell ?_ (by simp <;> omega) _ | refine Gr.trans ?_ (by assumption)))); have hbl1 : b < w1.heap.size := World.block_lt_of_cell? w1 _ k0; have hzz1 : w.heap.size + 1 < w1.heap.size := (by omega)) | (go_at_call 43; (with_reducible refine (isFromOne_is _ _ _ HP.out _).mono ?_); rintro e w1 ⟨rfl, rfl⟩) | (go_at_call 45; (with_reducible refine (HPG.out _).mono ?_); rintro e w2 ⟨rfl, hb2⟩; obtain ⟨hc, hf⟩ := gcells hb2 (w.heap.size + 2) (by first | exact hz | (simp; done) | (simp; omega) | omega); have hz : w.heap.size + 2 ≤ w2.heap.size := (by have h := Gr.size hb2; (try simp at h); omega); have hz0 : w.heap.size < w2.heap.size := (by omega); have hz1 : w.heap.size + 1 < w2.heap.size := (by omega); have hbb2 : w1.heap.size < w2.heap.size := (by have h := hb2.size; simp at h; omega); have gx : w2.cell? ⟨w1.heap.size, 1, none⟩ = some (.string x) := hb2.keep (by simp [go_sem]); have hG2 := Lib.hid hb2))
  refine bodyPost_ret (v := .tuple #[.agg #[.slice none 0 0, .int .i64 0], .int .i64 3]) (by simp [results, Try.results25, go_sem, *]) rfl ⟨none, 0, rfl, Wv.none _ _, (by repeat (first | (with_reducible exact Gr.refl _) | (with_reducible assumption) | (with_reducible refine Gr.alloc ?_ _) | (with_reducible refine Gr.drew ?_) | (with_reducible refine Gr.drewN ?_ _) | (with_reducible refine Gr.setCell ?_ (by simp <;> omega) _) | (with_reducible refine Gr.trans ?_ (by with_reducible assumption)) | exact Gr.refl _ | assumption | refine Gr.alloc ?_ _ | refine Gr.drew ?_ | refine Gr.drewN ?_ _ | refine Gr.setCell ?_ (by simp <;> omega) _ | refine Gr.trans ?_ (by assumption)))⟩

set_option maxHeartbeats 4000000 in
set_option maxRecDepth 100000 in
theorem Truncated_yes (A : Option Addr) (n c : Nat) (gs : List (Int × ByteArray)) (nx k : Int) (q : Nat) (hE : ixE nx gs k = 0) (hp : wiB q 1 (pgs (byG gs (fI gs k))) = true) (w : World) (hs : Sv w A n c 2 (sg gs)) (hb : Sh gs) :
    Calls Try.prog 25 #[.agg #[.slice A n c, .int .i64 nx], .int .i64 k, .int .i64 q] w fun e w' => ∃ A c, e = .returned (.tuple #[.agg #[.slice A n c, .int .i64 nx], .int .i64 0]) ∧ Wv w' w.heap.size A n c 2 (sg (setG gs (fI gs k) ((byG gs (fI gs k)).extract 0 (32 * q)))) ∧ Gr w w' := by
  obtain ⟨e2, e3, e4, e5, e6⟩ := seg_right hE
  have HC := Lib.hid (fun W hg => indexOf_is A n c gs nx k _ 0 (ixI_is hE) hE W (hs.gr hg) hb)
  have hl := hs.segs
  have hxs := hb _ e2
  have hsz : (byG gs (fI gs k)).size ≤ 287 := by omega
  obtain ⟨b, o, rfl, hbl, -⟩ := hs.at_ (show 0 < n by omega)
  have HK := Lib.hid (fun W (hg : Gr w W) => (hs.gr hg).seg (show fI gs k < n by omega))
  have HS := Lib.hid hs
  have hin : fI gs k < n := by omega
  have hn : n ≤ 10 := by omega
  have hpg : 1 ≤ pgs (byG gs (fI gs k)) ∧ pgs (byG gs (fI gs k)) ≤ 8 := by unfold pgs; omega
  have HPG := Lib.hid (fun W => pagesOf_any (nuG gs (fI gs k)) (byG gs (fI gs k)) hxs W)
  have HP := Lib.hid hp
  have hcut : 32 * q ≤ (byG gs (fI gs k)).size := by have := (wiB_iff.1 hp).2; unfold pgs at this; omega
  clear hp
  clear hE hs hb e2 e3 e4 e5 e6 hl hxs
  generalize fI gs k = i at *
  generalize nuG gs i = m at *
  generalize byG gs i = x at *
  generalize pgs x = P at *
  have hi1 : (i : Int) < n := by omega
  have hq8 : (q : Int) ≤ 8 := by omega
  have hwr : IntKind.i64.wrap ((q : Int) * 32) = (q : Int) * 32 := IntWalk.i64_in _ (by omega)
  have hss := cut_j x ((q : Int) * 32) (32 * q) (by omega) hcut
  go_enter Try.func25, Try.ntmps25
  go_upto_region 7 with (first | ((go_at_call 49; (with_reducible refine (HC.out _ (by repeat (first | (with_reducible exact Gr.refl _) | (with_reducible assumption) | (with_reducible refine Gr.alloc ?_ _) | (with_reducible refine Gr.drew ?_) | (with_reducible refine Gr.drewN ?_ _) | (with_reducible refine Gr.setCell ?_ (by simp <;> omega) _) | (with_reducible refine Gr.trans ?_ (by with_reducible assumption)) | exact Gr.refl _ | assumption | refine Gr.alloc ?_ _ | refine Gr.drew ?_ | refine Gr.drewN ?_ _ | refine Gr.setCell ?_ (by simp <;> omega) _ | refine Gr.trans ?_ (by assumption)))).mono ?_); rintro e w1 ⟨rfl, hb⟩; obtain ⟨hc, hf⟩ := gcells hb (w.heap.size + 2) (by first | exact hz | omega | (simp; done) | (simp; omega)); have hz : w.heap.size + 2 ≤ w1.heap.size := (by have h := hb.size; (try simp at h); omega); have hz0 : w.heap.size < w1.heap.size := (by omega)); obtain ⟨k0, k1⟩ := HK.out _ (show Gr w w1 from (by repeat (first | (with_reducible exact Gr.refl _) | (with_reducible assumption) | (with_reducible refine Gr.alloc ?_ _) | (with_reducible refine Gr.drew ?_) | (with_reducible refine Gr.drewN ?_ _) | (with_reducible refine Gr.setCell ?_ (by simp <;> omega) _) | (with_reducible refine Gr.trans ?_ (by with_reducible assumption)) | exact Gr.refl _ | assumption | refine Gr.alloc ?_ _ | refine Gr.drew ?_ | refine Gr.drewN ?_ _ | refine Gr.setCell ?_ (by simp <;> omega) _ | refine Gr.trans ?_ (by assumption)))); have hbl1 : b < w1.heap.size := World.block_lt_of_cell? w1 _ k0; have hzz1 : w.heap.size + 1 < w1.heap.size := (by omega)) | (go_at_call 43; (with_reducible refine (isFromOne_is _ _ _ HP.out _).mono ?_); rintro e w1 ⟨rfl, rfl⟩) | (go_at_call 45; (with_reducible refine (HPG.out _).mono ?_); rintro e w2 ⟨rfl, hb2⟩; obtain ⟨hc, hf⟩ := gcells hb2 (w.heap.size + 2) (by first | exact hz | (simp; done) | (simp; omega) | omega); have hz : w.heap.size + 2 ≤ w2.heap.size := (by have h := Gr.size hb2; (try simp at h); omega); have hz0 : w.heap.size < w2.heap.size := (by omega); have hz1 : w.heap.size + 1 < w2.heap.size := (by omega); have hbb2 : w1.heap.size < w2.heap.size := (by have h := hb2.size; simp at h; omega); have gx : w2.cell? ⟨w1.heap.size, 1, none⟩ = some (.string x) := hb2.keep (by simp [go_sem]); have hG2 := Lib.hid hb2))
  have b0 : w2.cell? ⟨w.heap.size, 0, none⟩ = some (.slice (some ⟨b, o, none⟩) n c) := by simp [go_sem, *]
  have b1 : w2.cell? ⟨w.heap.size, 1, none⟩ = some (.int .i64 nx) := by simp [go_sem, *]
  have b2 : w2.cell? ⟨w.heap.size + 1, 0, none⟩ = some (.slice none 0 0) := by simp [go_sem, *]
  have b3 : w2.cell? ⟨w.heap.size + 1, 1, none⟩ = some (.int .i64 0) := by simp [go_sem, *]
  have f0 : w2.frozen? ⟨w.heap.size + 1, 0, none⟩ = false := by simp [go_sem, *]
  have f1 : w2.frozen? ⟨w.heap.size + 1, 1, none⟩ = false := by simp [go_sem, *]
  have G1 := Lib.hid (show Gr w w2 from (by repeat (first | (with_reducible exact Gr.refl _) | (with_reducible assumption) | (with_reducible refine Gr.alloc ?_ _) | (with_reducible refine Gr.drew ?_) | (with_reducible refine Gr.drewN ?_ _) | (with_reducible refine Gr.setCell ?_ (by simp <;> omega) _) | (with_reducible refine Gr.trans ?_ (by with_reducible assumption)) | exact Gr.refl _ | assumption | refine Gr.alloc ?_ _ | refine Gr.drew ?_ | refine Gr.drewN ?_ _ | refine Gr.setCell ?_ (by simp <;> omega) _ | refine Gr.trans ?_ (by assumption))))
  have hq1 : w.heap.size + 1 < w2.heap.size := by omega
  have hq0 : w.heap.size < w2.heap.size := by omega
  clear hc hf hb2 hz hz0 hz1 k0 k1 hG2
  generalize w1.heap.size = g1 at *
  generalize w2 = W1 at *
  go_region_held3 (fun w' => w'.cell? ⟨w.heap.size, 0, none⟩ = some (.slice (some ⟨b, o, none⟩) n c) ∧ w'.cell? ⟨w.heap.size, 1, none⟩ = some (.int .i64 nx) ∧ w'.cell? ⟨g1, 1, none⟩ = some (.string x)) (((try go_split_ands); (repeat' apply And.intro) <;> ((try simp only [World.cell?_drew]); first | (with_reducible assumption) | (simp [go_sem]; done) | ((repeat (first | (refine keepFar ?_ (by first | (dsimp only; omega) | (simp; done) | (simp; omega))) | (refine (Gr.alloc (Gr.refl _) _).keep ?_))); (try simp only [World.cell?_drew]); first | (with_reducible assumption) | (refine hb.keep ?_; (try simp only [World.cell?_drew]); first | (with_reducible assumption) | (simp [go_sem]; done) | ((repeat (refine (Gr.alloc (Gr.refl _) _).keep ?_)); (try simp only [World.cell?_drew]); (with_reducible assumption))) | (simp [*, go_sem]; done)))))
    ((go_at_call 54; (with_reducible refine (withBytes_any (some ⟨b, o, none⟩) n c gs nx i (x.extract 0 (32 * q)) _ (HS.out.gr (G1.out.trans (by repeat (first | (with_reducible exact Gr.refl _) | (with_reducible assumption) | (with_reducible refine Gr.alloc ?_ _) | (with_reducible refine Gr.drew ?_) | (with_reducible refine Gr.drewN ?_ _) | (with_reducible refine Gr.setCell ?_ (by simp <;> omega) _) | (with_reducible refine Gr.trans ?_ (by with_reducible assumption)) | exact Gr.refl _ | assumption | refine Gr.alloc ?_ _ | refine Gr.drew ?_ | refine Gr.drewN ?_ _ | refine Gr.setCell ?_ (by simp <;> omega) _ | refine Gr.trans ?_ (by assumption))))) (by omega) hin).mono ?_); rintro e w4 ⟨A4, c4, rfl, hW, hb4⟩; have hb := hb4; have HW := Lib.hid hW; clear hW; have hz2 : w.heap.size + 1 < w4.heap.size := (by have h := hb.size; simp at h; omega); have hz3 : w.heap.size < w4.heap.size := (by omega); have g0 : w4.frozen? ⟨w.heap.size + 1, 0, none⟩ = false := (hb.cells.2 (w.heap.size + 1) 0 (by simp; omega)).trans (by simp [go_sem, *]); have g1' : w4.frozen? ⟨w.heap.size + 1, 1, none⟩ = false := (hb.cells.2 (w.heap.size + 1) 1 (by simp; omega)).trans (by simp [go_sem, *]); have d2 : w4.cell? ⟨w.heap.size + 1, 0, none⟩ = some (.slice none 0 0) := hb.keep (by simp [go_sem, *]); have d3 : w4.cell? ⟨w.heap.size + 1, 1, none⟩ = some (.int .i64 0) := hb.keep (by simp [go_sem, *])))
  all_goals
    go_wp2
    refine bodyPost_ret (v := .tuple #[.agg #[.slice A4 n c4, .int .i64 nx], .int .i64 0]) (by simp [results, Try.results25, go_sem, *]) rfl ⟨A4, c4, rfl, ((HW.out.setLow (by have := hb.size; simp at this ⊢; omega) _).setLow (by have := hb.size; simp at this ⊢; omega) _).mono (by have := hb.size; simp at this ⊢; omega), ?_⟩
    exact ((G1.out.trans (Gr.trans (by repeat (first | (with_reducible exact Gr.refl _) | (with_reducible assumption) | (with_reducible refine Gr.alloc ?_ _) | (with_reducible refine Gr.drew ?_) | (with_reducible refine Gr.drewN ?_ _) | (with_reducible refine Gr.setCell ?_ (by simp <;> omega) _) | (with_reducible refine Gr.trans ?_ (by with_reducible assumption)) | exact Gr.refl _ | assumption | refine Gr.alloc ?_ _ | refine Gr.drew ?_ | refine Gr.drewN ?_ _ | refine Gr.setCell ?_ (by simp <;> omega) _ | refine Gr.trans ?_ (by assumption))) hb)).setCell (by simp) _).setCell (by simp) _
end Go.Proofs.Ytljminmfldejnaa
