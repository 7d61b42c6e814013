/- Bytes by addresses: Written of both sides. -/
import Derived.Test.YtljminmfldejnaaHr
namespace Go.Proofs.Ytljminmfldejnaa
set_option linter.unusedSimpArgs false
set_option linter.unusedVariables false
open Go.RowKit

theorem Patched_any (x : ByteArray) (a : Nat) (A : Int) (hA : A = a) (d : ByteArray) (h : a + d.size ≤ x.size) (hx : x.size ≤ maxLen) (w : World) :
    Calls Try.prog 58 #[.string x, .int .i64 A, .string d] w fun e w' => e = .returned (.string (pS x a d)) ∧ Gr w w' := by
  subst hA
  unfold maxLen at hx
  have e1 := cut_j x a a rfl (by omega)
  have e2 := add_ss (x.extract 0 a) d (by rw [ByteArray.size_extract]; omega)
  have e0 : IntKind.i64.wrap ((a : Int) + d.size) = a + d.size := IntWalk.i64_in _ (by omega)
  have e3 := cut_i x (a + d.size) (a + d.size) (by omega) h
  have e4 := add_ss (x.extract 0 a ++ d) (x.extract (a + d.size) x.size) (by simp only [ByteArray.size_append, ByteArray.size_extract]; omega)
  go_enter Try.func58, Try.ntmps58
  go_wp2
  go_quiet (fail)
  go_wp2
  go_ret
  exact ⟨ret_str rfl, (by repeat (first | (with_reducible exact Gr.refl _) | (with_reducible assumption) | (with_reducible refine Gr.alloc ?_ _) | (with_reducible refine Gr.drew ?_) | (with_reducible refine Gr.drewN ?_ _) | (with_reducible refine Gr.setCell ?_ (by simp <;> omega) _) | (with_reducible refine Gr.trans ?_ (by with_reducible assumption)) | exact Gr.refl _ | assumption | refine Gr.alloc ?_ _ | refine Gr.drew ?_ | refine Gr.drewN ?_ _ | refine Gr.setCell ?_ (by simp <;> omega) _ | refine Gr.trans ?_ (by assumption)))⟩

set_option maxHeartbeats 4000000 in
set_option maxRecDepth 100000 in
theorem Written_yes (A : Option Addr) (n c : Nat) (gs : List (Int × ByteArray)) (nx k : Int) (a : Nat) (d : ByteArray) (hd : d.size ≤ maxLen) (hE : iwE nx gs k a d.size = 0) (w : World) (hs : Sv w A n c 2 (sg gs)) (hb : Sh gs) :
    Calls Try.prog 29 #[.agg #[.slice A n c, .int .i64 nx], .agg #[.int .i64 k, .int .i64 a], .string d] w fun e w' => ∃ A c, e = .returned (.tuple #[.agg #[.slice A n c, .int .i64 nx], .int .i64 0]) ∧ Wv w' w.heap.size A n c 2 (sg (setG gs (fI gs k) (pS (byG gs (fI gs k)) a d))) ∧ Gr w w' := by
  obtain ⟨hE1, hR⟩ := iwE_zero hE
  obtain ⟨e2, e3, e4, e5, e6⟩ := seg_right hE1
  have hHC := fun W hg => indexWith_ok A n c gs nx k a d.size hE (by unfold maxLen at hd; omega) W (hs.gr hg) hb
  have hl := hs.segs
  have hsz : (byG gs (fI gs k)).size ≤ 287 := by omega
  obtain ⟨b, o, rfl, hbl, -⟩ := hs.at_ (show 0 < n by omega)
  have HC := Lib.hid hHC
  have HK := Lib.hid (fun W (hg : Gr w W) => (hs.gr hg).seg (show fI gs k < n by omega))
  have HS := Lib.hid hs
  have hin : fI gs k < n := by omega
  have hn : n ≤ 10 := by omega
  have hr := rgB_iff.1 hR
  have hr1 := hr.1
  have hr2 := hr.2.1
  have hr3 := hr.2.2
  clear hE hE1 hR hs hb e2 e3 e4 e5 e6 hl hr hHC
  generalize fI gs k = i at *
  generalize nuG gs i = m at *
  generalize byG gs i = x at *
  have hi1 : (i : Int) < n := by omega
  have hle : a + d.size ≤ x.size := by omega
  have e1 := cut_j x a a rfl (by omega)
  have e2 := add_ss (x.extract 0 a) d (by rw [ByteArray.size_extract]; omega)
  have e0 : IntKind.i64.wrap ((a : Int) + d.size) = a + d.size := IntWalk.i64_in _ (by omega)
  have e3 := cut_i x (a + d.size) (a + d.size) (by omega) hle
  have e4 := add_ss (x.extract 0 a ++ d) (x.extract (a + d.size) x.size) (by simp only [ByteArray.size_append, ByteArray.size_extract]; omega)
  go_enter Try.func29, Try.ntmps29
  go_upto_region 5 with (((go_at_call 56; (with_reducible refine (HC.out _ (by repeat (first | (with_reducible exact Gr.refl _) | (with_reducible assumption) | (with_reducible refine Gr.alloc ?_ _) | (with_reducible refine Gr.drew ?_) | (with_reducible refine Gr.drewN ?_ _) | (with_reducible refine Gr.setCell ?_ (by simp <;> omega) _) | (with_reducible refine Gr.trans ?_ (by with_reducible assumption)) | exact Gr.refl _ | assumption | refine Gr.alloc ?_ _ | refine Gr.drew ?_ | refine Gr.drewN ?_ _ | refine Gr.setCell ?_ (by simp <;> omega) _ | refine Gr.trans ?_ (by assumption)))).mono ?_); rintro e w1 ⟨rfl, hb⟩; obtain ⟨hc, hf⟩ := gcells hb (w.heap.size + 3) (by first | exact hz | omega | (simp; done) | (simp; omega)); have hz : w.heap.size + 3 ≤ w1.heap.size := (by have h := hb.size; (try simp at h); omega); have hz0 : w.heap.size < w1.heap.size := (by omega)); obtain ⟨k0, k1⟩ := HK.out _ (show Gr w w1 from (by repeat (first | (with_reducible exact Gr.refl _) | (with_reducible assumption) | (with_reducible refine Gr.alloc ?_ _) | (with_reducible refine Gr.drew ?_) | (with_reducible refine Gr.drewN ?_ _) | (with_reducible refine Gr.setCell ?_ (by simp <;> omega) _) | (with_reducible refine Gr.trans ?_ (by with_reducible assumption)) | exact Gr.refl _ | assumption | refine Gr.alloc ?_ _ | refine Gr.drew ?_ | refine Gr.drewN ?_ _ | refine Gr.setCell ?_ (by simp <;> omega) _ | refine Gr.trans ?_ (by assumption)))); have hbl1 : b < w1.heap.size := World.block_lt_of_cell? w1 _ k0; have hzz1 : w.heap.size + 1 < w1.heap.size := (by omega)); have hzz2 : w.heap.size + 1 + 1 < w1.heap.size := (by omega))
  have b0 : w1.cell? ⟨w.heap.size, 0, none⟩ = some (.slice (some ⟨b, o, none⟩) n c) := by simp [go_sem, *]
  have b1 : w1.cell? ⟨w.heap.size, 1, none⟩ = some (.int .i64 nx) := by simp [go_sem, *]
  have b2 : w1.cell? ⟨w.heap.size + 1, 0, none⟩ = some (.int .i64 k) := by simp [go_sem, *]
  have b3 : w1.cell? ⟨w.heap.size + 1, 1, none⟩ = some (.int .i64 a) := by simp [go_sem, *]
  have r0 : w1.cell? ⟨w.heap.size + 1 + 1, 0, none⟩ = some (.slice none 0 0) := by simp [go_sem, *]
  have f0 : w1.frozen? ⟨w.heap.size + 1 + 1, 0, none⟩ = false := by simp [go_sem, *]
  have r1 : w1.cell? ⟨w.heap.size + 1 + 1, 1, none⟩ = some (.int .i64 0) := by simp [go_sem, *]
  have f1 : w1.frozen? ⟨w.heap.size + 1 + 1, 1, none⟩ = false := by simp [go_sem, *]
  have G1 := Lib.hid (show Gr w w1 from (by repeat (first | (with_reducible exact Gr.refl _) | (with_reducible assumption) | (with_reducible refine Gr.alloc ?_ _) | (with_reducible refine Gr.drew ?_) | (with_reducible refine Gr.drewN ?_ _) | (with_reducible refine Gr.setCell ?_ (by simp <;> omega) _) | (with_reducible refine Gr.trans ?_ (by with_reducible assumption)) | exact Gr.refl _ | assumption | refine Gr.alloc ?_ _ | refine Gr.drew ?_ | refine Gr.drewN ?_ _ | refine Gr.setCell ?_ (by simp <;> omega) _ | refine Gr.trans ?_ (by assumption))))
  have hq2 : w.heap.size + 1 + 1 < w1.heap.size := by omega
  have hq1 : w.heap.size + 1 < w1.heap.size := by omega
  have hq0 : w.heap.size < w1.heap.size := by omega
  clear hc hf hb hz hz0 hzz1 hzz2
  generalize w1 = W1 at *
  go_region_held3 (fun w' => w'.cell? ⟨w.heap.size, 0, none⟩ = some (.slice (some ⟨b, o, none⟩) n c) ∧ w'.cell? ⟨w.heap.size, 1, none⟩ = some (.int .i64 nx) ∧ w'.cell? ⟨w.heap.size + 1, 0, none⟩ = some (.int .i64 k) ∧ w'.cell? ⟨w.heap.size + 1, 1, none⟩ = some (.int .i64 a)) (((try go_split_ands); (repeat' apply And.intro) <;> ((try simp only [World.cell?_drew]); first | (with_reducible assumption) | (simp [go_sem]; done) | ((repeat (first | (refine keepFar ?_ (by first | (dsimp only; omega) | (simp; done) | (simp; omega))) | (refine (Gr.alloc (Gr.refl _) _).keep ?_))); (try simp only [World.cell?_drew]); first | (with_reducible assumption) | (refine hb.keep ?_; (try simp only [World.cell?_drew]); first | (with_reducible assumption) | (simp [go_sem]; done) | ((repeat (refine (Gr.alloc (Gr.refl _) _).keep ?_)); (try simp only [World.cell?_drew]); (with_reducible assumption))) | (simp [*, go_sem]; done)))))
    ((go_at_call 54; (with_reducible refine (withBytes_any (some ⟨b, o, none⟩) n c gs nx i (x.extract 0 a ++ d ++ x.extract (a + d.size) x.size) _ (HS.out.gr (G1.out.trans (by repeat (first | (with_reducible exact Gr.refl _) | (with_reducible assumption) | (with_reducible refine Gr.alloc ?_ _) | (with_reducible refine Gr.drew ?_) | (with_reducible refine Gr.drewN ?_ _) | (with_reducible refine Gr.setCell ?_ (by simp <;> omega) _) | (with_reducible refine Gr.trans ?_ (by with_reducible assumption)) | exact Gr.refl _ | assumption | refine Gr.alloc ?_ _ | refine Gr.drew ?_ | refine Gr.drewN ?_ _ | refine Gr.setCell ?_ (by simp <;> omega) _ | refine Gr.trans ?_ (by assumption))))) (by omega) hin).mono ?_); rintro e w4 ⟨A4, c4, rfl, hW, hb4⟩; have hb := hb4; have HW := Lib.hid hW; clear hW; have hz2 : w.heap.size + 1 + 1 < w4.heap.size := (by have h := hb.size; simp at h; omega); have hz3 : w.heap.size + 1 < w4.heap.size := (by omega); have hz4 : w.heap.size < w4.heap.size := (by omega); have g0 : w4.frozen? ⟨w.heap.size + 1 + 1, 0, none⟩ = false := (hb.cells.2 (w.heap.size + 1 + 1) 0 (by simp; omega)).trans (by simp [go_sem, *]); have d0 : w4.cell? ⟨w.heap.size + 1 + 1, 0, none⟩ = some (.slice none 0 0) := hb.keep (by simp [go_sem, *]); have g1 : w4.frozen? ⟨w.heap.size + 1 + 1, 1, none⟩ = false := (hb.cells.2 (w.heap.size + 1 + 1) 1 (by simp; omega)).trans (by simp [go_sem, *]); have d1 : w4.cell? ⟨w.heap.size + 1 + 1, 1, none⟩ = some (.int .i64 0) := hb.keep (by simp [go_sem, *])))
  all_goals
    go_wp2
    refine bodyPost_ret (v := .tuple #[.agg #[.slice A4 n c4, .int .i64 nx], .int .i64 0]) (by simp [results, Try.results29, go_sem, *]) rfl ⟨A4, c4, rfl, ((HW.out.setLow (by have := hb.size; simp at this ⊢; omega) _).setLow (by have := hb.size; simp at this ⊢; omega) _).mono (by have := hb.size; simp at this ⊢; omega), ?_⟩
    exact ((G1.out.trans (Gr.trans (by repeat (first | (with_reducible exact Gr.refl _) | (with_reducible assumption) | (with_reducible refine Gr.alloc ?_ _) | (with_reducible refine Gr.drew ?_) | (with_reducible refine Gr.drewN ?_ _) | (with_reducible refine Gr.setCell ?_ (by simp <;> omega) _) | (with_reducible refine Gr.trans ?_ (by with_reducible assumption)) | exact Gr.refl _ | assumption | refine Gr.alloc ?_ _ | refine Gr.drew ?_ | refine Gr.drewN ?_ _ | refine Gr.setCell ?_ (by simp <;> omega) _ | refine Gr.trans ?_ (by assumption))) hb)).setCell (by simp; omega) _).setCell (by simp; omega) _

set_option maxHeartbeats 4000000 in
set_option maxRecDepth 100000 in
theorem refWritten_yes (A : Option Addr) (n c : Nat) (gs : List (Int × ByteArray)) (nx k : Int) (a : Nat) (d : ByteArray) (hE : iwE nx gs k a d.size = 0) (w : World) (hs : Sv w A n c 2 (sg gs)) (hb : Sh gs) :
    Calls Try.prog 31 #[.agg #[.slice A n c, .int .i64 nx], .agg #[.int .i64 k, .int .i64 a], .string d] w (AnR (setG gs (fI gs k) (pS (byG gs (fI gs k)) a d)) n nx 0 ⟨#[]⟩ 0 w) := by
  obtain ⟨hE1, hR⟩ := iwE_zero hE
  obtain ⟨e2, e3, e4, e5, e6⟩ := seg_right hE1
  have hHC := fun W hg => reach_ok A n c gs nx k a d.size hE W (hs.gr hg) hb
  have hl := hs.segs
  have hsz : (byG gs (fI gs k)).size ≤ 287 := by omega
  obtain ⟨b, o, rfl, hbl, -⟩ := hs.at_ (show 0 < n by omega)
  have HC := Lib.hid hHC
  have HK := Lib.hid (fun W (hg : Gr w W) => (hs.gr hg).seg (show fI gs k < n by omega))
  have HS := Lib.hid hs
  have hin : fI gs k < n := by omega
  have hn : n ≤ 10 := by omega
  have hr := rgB_iff.1 hR
  have hr1 := hr.1
  have hr2 := hr.2.1
  have hr3 := hr.2.2
  clear hE hE1 hR hs hb e2 e3 e4 e5 e6 hl hr hHC
  generalize fI gs k = i at *
  generalize nuG gs i = m at *
  generalize byG gs i = x at *
  have hi1 : (i : Int) < n := by omega
  have hle : a + d.size ≤ x.size := by omega
  have hxm : x.size ≤ maxLen := by unfold maxLen; omega
  go_enter Try.func31, Try.ntmps31
  go_upto_region 4 with (((go_at_call 57; (with_reducible refine (HC.out _ (by repeat (first | (with_reducible exact Gr.refl _) | (with_reducible assumption) | (with_reducible refine Gr.alloc ?_ _) | (with_reducible refine Gr.drew ?_) | (with_reducible refine Gr.drewN ?_ _) | (with_reducible refine Gr.setCell ?_ (by simp <;> omega) _) | (with_reducible refine Gr.trans ?_ (by with_reducible assumption)) | exact Gr.refl _ | assumption | refine Gr.alloc ?_ _ | refine Gr.drew ?_ | refine Gr.drewN ?_ _ | refine Gr.setCell ?_ (by simp <;> omega) _ | refine Gr.trans ?_ (by assumption)))).mono ?_); rintro e w1 ⟨rfl, hb⟩; obtain ⟨hc, hf⟩ := gcells hb (w.heap.size + 3) (by first | exact hz | omega | (simp; done) | (simp; omega)); have hz : w.heap.size + 3 ≤ w1.heap.size := (by have h := hb.size; (try simp at h); omega); have hz0 : w.heap.size < w1.heap.size := (by omega)); obtain ⟨k0, k1⟩ := HK.out _ (show Gr w w1 from (by repeat (first | (with_reducible exact Gr.refl _) | (with_reducible assumption) | (with_reducible refine Gr.alloc ?_ _) | (with_reducible refine Gr.drew ?_) | (with_reducible refine Gr.drewN ?_ _) | (with_reducible refine Gr.setCell ?_ (by simp <;> omega) _) | (with_reducible refine Gr.trans ?_ (by with_reducible assumption)) | exact Gr.refl _ | assumption | refine Gr.alloc ?_ _ | refine Gr.drew ?_ | refine Gr.drewN ?_ _ | refine Gr.setCell ?_ (by simp <;> omega) _ | refine Gr.trans ?_ (by assumption)))); have hbl1 : b < w1.heap.size := World.block_lt_of_cell? w1 _ k0; have hzz1 : w.heap.size + 1 < w1.heap.size := (by omega)); have hzz2 : w.heap.size + 1 + 1 < w1.heap.size := (by omega))
  have b0 : w1.cell? ⟨w.heap.size, 0, none⟩ = some (.slice (some ⟨b, o, none⟩) n c) := by simp [go_sem, *]
  have b1 : w1.cell? ⟨w.heap.size, 1, none⟩ = some (.int .i64 nx) := by simp [go_sem, *]
  have b2 : w1.cell? ⟨w.heap.size + 1, 0, none⟩ = some (.int .i64 k) := by simp [go_sem, *]
  have b3 : w1.cell? ⟨w.heap.size + 1, 1, none⟩ = some (.int .i64 a) := by simp [go_sem, *]
  have r0 : w1.cell? ⟨w.heap.size + 1 + 1, 0, none⟩ = some (.slice none 0 0) := by simp [go_sem, *]
  have f0 : w1.frozen? ⟨w.heap.size + 1 + 1, 0, none⟩ = false := by simp [go_sem, *]
  have r1 : w1.cell? ⟨w.heap.size + 1 + 1, 1, none⟩ = some (.int .i64 0) := by simp [go_sem, *]
  have f1 : w1.frozen? ⟨w.heap.size + 1 + 1, 1, none⟩ = false := by simp [go_sem, *]
  have r2 : w1.cell? ⟨w.heap.size + 1 + 1, 2, none⟩ = some (.int .i64 0) := by simp [go_sem, *]
  have f2 : w1.frozen? ⟨w.heap.size + 1 + 1, 2, none⟩ = false := by simp [go_sem, *]
  have r3 : w1.cell? ⟨w.heap.size + 1 + 1, 3, none⟩ = some (.string ⟨#[]⟩) := by simp [go_sem, *]
  have f3 : w1.frozen? ⟨w.heap.size + 1 + 1, 3, none⟩ = false := by simp [go_sem, *]
  have r4 : w1.cell? ⟨w.heap.size + 1 + 1, 4, none⟩ = some (.int .i64 0) := by simp [go_sem, *]
  have f4 : w1.frozen? ⟨w.heap.size + 1 + 1, 4, none⟩ = false := by simp [go_sem, *]
  have G1 := Lib.hid (show Gr w w1 from (by repeat (first | (with_reducible exact Gr.refl _) | (with_reducible assumption) | (with_reducible refine Gr.alloc ?_ _) | (with_reducible refine Gr.drew ?_) | (with_reducible refine Gr.drewN ?_ _) | (with_reducible refine Gr.setCell ?_ (by simp <;> omega) _) | (with_reducible refine Gr.trans ?_ (by with_reducible assumption)) | exact Gr.refl _ | assumption | refine Gr.alloc ?_ _ | refine Gr.drew ?_ | refine Gr.drewN ?_ _ | refine Gr.setCell ?_ (by simp <;> omega) _ | refine Gr.trans ?_ (by assumption))))
  have hq2 : w.heap.size + 1 + 1 < w1.heap.size := by omega
  have hq1 : w.heap.size + 1 < w1.heap.size := by omega
  have hq0 : w.heap.size < w1.heap.size := by omega
  clear hc hf hb hz hz0 hzz1 hzz2
  generalize w1 = W1 at *
  go_region_held3 (fun w' => w'.cell? ⟨w.heap.size, 0, none⟩ = some (.slice (some ⟨b, o, none⟩) n c) ∧ w'.cell? ⟨w.heap.size, 1, none⟩ = some (.int .i64 nx) ∧ w'.cell? ⟨w.heap.size + 1, 0, none⟩ = some (.int .i64 k) ∧ w'.cell? ⟨w.heap.size + 1, 1, none⟩ = some (.int .i64 a) ∧ w'.cell? ⟨b, o + i * 2 + 1, none⟩ = some (.string x)) (((try go_split_ands); (repeat' apply And.intro) <;> ((try simp only [World.cell?_drew]); first | (with_reducible assumption) | (simp [go_sem]; done) | ((repeat (first | (refine keepFar ?_ (by first | (dsimp only; omega) | (simp; done) | (simp; omega))) | (refine (Gr.alloc (Gr.refl _) _).keep ?_))); (try simp only [World.cell?_drew]); first | (with_reducible assumption) | (refine hb.keep ?_; (try simp only [World.cell?_drew]); first | (with_reducible assumption) | (simp [go_sem]; done) | ((repeat (refine (Gr.alloc (Gr.refl _) _).keep ?_)); (try simp only [World.cell?_drew]); (with_reducible assumption))) | (simp [*, go_sem]; done)))))
    (first
      | (go_at_call 58; (with_reducible refine (Patched_any x a _ rfl d hle hxm _).mono ?_); rintro e w3 ⟨rfl, hb⟩; have hq3 : w.heap.size + 1 + 1 < w3.heap.size := (by have h := hb.size; simp at h; omega))
      | (go_at_call 55; (with_reducible refine (with_any (some ⟨b, o, none⟩) n c gs nx i (pS x a d) _ (HS.out.gr (G1.out.trans (by repeat (first | (with_reducible exact Gr.refl _) | (with_reducible assumption) | (with_reducible refine Gr.alloc ?_ _) | (with_reducible refine Gr.drew ?_) | (with_reducible refine Gr.drewN ?_ _) | (with_reducible refine Gr.setCell ?_ (by simp <;> omega) _) | (with_reducible refine Gr.trans ?_ (by with_reducible assumption)) | exact Gr.refl _ | assumption | refine Gr.alloc ?_ _ | refine Gr.drew ?_ | refine Gr.drewN ?_ _ | refine Gr.setCell ?_ (by simp <;> omega) _ | refine Gr.trans ?_ (by assumption))))) (by omega) hin).mono ?_); rintro e w4 ⟨A4, c4, rfl, hW, hb4⟩; have hb := hb.trans (Gr.trans (by repeat (first | (with_reducible exact Gr.refl _) | (with_reducible assumption) | (with_reducible refine Gr.alloc ?_ _) | (with_reducible refine Gr.drew ?_) | (with_reducible refine Gr.drewN ?_ _) | (with_reducible refine Gr.setCell ?_ (by simp <;> omega) _) | (with_reducible refine Gr.trans ?_ (by with_reducible assumption)) | exact Gr.refl _ | assumption | refine Gr.alloc ?_ _ | refine Gr.drew ?_ | refine Gr.drewN ?_ _ | refine Gr.setCell ?_ (by simp <;> omega) _ | refine Gr.trans ?_ (by assumption))) hb4); have HW := Lib.hid hW; clear hW; have hz2 : w.heap.size + 1 + 1 < w4.heap.size := (by have h := hb.size; simp at h; omega); have hz3 : w.heap.size + 1 < w4.heap.size := (by omega); have hz4 : w.heap.size < w4.heap.size := (by omega); have g0 : w4.frozen? ⟨w.heap.size + 1 + 1, 0, none⟩ = false := (hb.cells.2 (w.heap.size + 1 + 1) 0 (by simp; omega)).trans (by simp [go_sem, *]); have d0 : w4.cell? ⟨w.heap.size + 1 + 1, 0, none⟩ = some (.slice none 0 0) := hb.keep (by simp [go_sem, *]); have g1 : w4.frozen? ⟨w.heap.size + 1 + 1, 1, none⟩ = false := (hb.cells.2 (w.heap.size + 1 + 1) 1 (by simp; omega)).trans (by simp [go_sem, *]); have d1 : w4.cell? ⟨w.heap.size + 1 + 1, 1, none⟩ = some (.int .i64 0) := hb.keep (by simp [go_sem, *]); have g2 : w4.frozen? ⟨w.heap.size + 1 + 1, 2, none⟩ = false := (hb.cells.2 (w.heap.size + 1 + 1) 2 (by simp; omega)).trans (by simp [go_sem, *]); have d2 : w4.cell? ⟨w.heap.size + 1 + 1, 2, none⟩ = some (.int .i64 0) := hb.keep (by simp [go_sem, *]); have g3 : w4.frozen? ⟨w.heap.size + 1 + 1, 3, none⟩ = false := (hb.cells.2 (w.heap.size + 1 + 1) 3 (by simp; omega)).trans (by simp [go_sem, *]); have d3 : w4.cell? ⟨w.heap.size + 1 + 1, 3, none⟩ = some (.string ⟨#[]⟩) := hb.keep (by simp [go_sem, *]); have g4 : w4.frozen? ⟨w.heap.size + 1 + 1, 4, none⟩ = false := (hb.cells.2 (w.heap.size + 1 + 1) 4 (by simp; omega)).trans (by simp [go_sem, *]); have d4 : w4.cell? ⟨w.heap.size + 1 + 1, 4, none⟩ = some (.int .i64 0) := hb.keep (by simp [go_sem, *])))
  all_goals
    go_wp2
    refine bodyPost_ret (v := .agg #[.slice A4 n c4, .int .i64 nx, .int .i64 0, .string ⟨#[]⟩, .int .i64 0]) (by simp [results, Try.results31, go_sem, *]) rfl ⟨A4, c4, rfl, (((((HW.out.setLow (by have := hb.size; simp at this ⊢; omega) _).setLow (by have := hb.size; simp at this ⊢; omega) _).setLow (by have := hb.size; simp at this ⊢; omega) _).setLow (by have := hb.size; simp at this ⊢; omega) _).setLow (by have := hb.size; simp at this ⊢; omega) _).mono (by have := hb.size; simp at this ⊢; omega), ?_⟩
    exact (((((G1.out.trans (Gr.trans (by repeat (first | (with_reducible exact Gr.refl _) | (with_reducible assumption) | (with_reducible refine Gr.alloc ?_ _) | (with_reducible refine Gr.drew ?_) | (with_reducible refine Gr.drewN ?_ _) | (with_reducible refine Gr.setCell ?_ (by simp <;> omega) _) | (with_reducible refine Gr.trans ?_ (by with_reducible assumption)) | exact Gr.refl _ | assumption | refine Gr.alloc ?_ _ | refine Gr.drew ?_ | refine Gr.drewN ?_ _ | refine Gr.setCell ?_ (by simp <;> omega) _ | refine Gr.trans ?_ (by assumption))) hb)).setCell (by simp; omega) _).setCell (by simp; omega) _).setCell (by simp; omega) _).setCell (by simp; omega) _).setCell (by simp; omega) _
end Go.Proofs.Ytljminmfldejnaa
