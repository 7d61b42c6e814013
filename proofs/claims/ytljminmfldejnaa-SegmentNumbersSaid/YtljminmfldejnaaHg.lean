/- The program's Destroyed. -/
import Derived.Test.YtljminmfldejnaaHf
namespace Go.Proofs.Ytljminmfldejnaa
set_option linter.unusedSimpArgs false
set_option linter.unusedVariables false
open Go.RowKit

/-- The error of a store, or of a segment number of it; the index. -/
def ixE (nx : Int) (gs : List (Int × ByteArray)) (k : Int) : Int := if stE nx gs = 0 then nbE nx gs k else stE nx gs
def ixI (nx : Int) (gs : List (Int × ByteArray)) (k : Int) : Int := if stE nx gs = 0 then nbI gs k else 0
def knI (nx : Int) (gs : List (Int × ByteArray)) (k : Int) : Int := if stE nx gs = 0 then plI gs k else -1
theorem indexOf_is (A : Option Addr) (n c : Nat) (gs : List (Int × ByteArray)) (nx k I E : Int) (hI : ixI nx gs k = I) (hE : ixE nx gs k = E) (w : World) (hs : Sv w A n c 2 (sg gs)) (hb : Sh gs) :
    Calls Try.prog 49 #[.agg #[.slice A n c, .int .i64 nx], .int .i64 k] w fun e w' => e = .returned (.tuple #[.int .i64 I, .int .i64 E]) ∧ Gr w w' := by
  by_cases h : stE nx gs = 0
  · rw [ixI, if_pos h] at hI
    rw [ixE, if_pos h] at hE
    subst hI hE
    exact indexOf_yes A n c gs nx k h w hs hb
  · rw [ixI, if_neg h] at hI
    rw [ixE, if_neg h] at hE
    subst hI
    exact indexOf_no A n c gs nx k E hE (by rw [← hE]; exact h) w hs hb
theorem known_is (A : Option Addr) (n c : Nat) (gs : List (Int × ByteArray)) (nx k I E : Int) (hI : knI nx gs k = I) (hE : ixE nx gs k = E) (w : World) (hs : Sv w A n c 2 (sg gs)) (hb : Sh gs) :
    Calls Try.prog 53 #[.agg #[.slice A n c, .int .i64 nx], .int .i64 k] w fun e w' => e = .returned (.tuple #[.int .i64 I, .int .i64 E]) ∧ Gr w w' := by
  by_cases h : stE nx gs = 0
  · rw [knI, if_pos h] at hI
    rw [ixE, if_pos h] at hE
    subst hI hE
    exact known_yes A n c gs nx k h w hs hb
  · rw [knI, if_neg h] at hI
    rw [ixE, if_neg h] at hE
    subst hI
    exact known_no A n c gs nx k E hE (by rw [← hE]; exact h) w hs hb
theorem ix_zero {nx k : Int} {gs : List (Int × ByteArray)} (h : ixE nx gs k = 0) : stE nx gs = 0 ∧ fI gs k < gs.length ∧ nuG gs (fI gs k) = k ∧ ixI nx gs k = (fI gs k : Int) ∧ knI nx gs k = (fI gs k : Int) := by
  by_cases h1 : stE nx gs = 0
  · rw [ixE, if_pos h1] at h
    by_cases h2 : fI gs k < gs.length
    · refine ⟨h1, h2, ?_, ?_, ?_⟩
      · have := fB_bad (eqG gs k) gs.length 0 (by unfold fI at h2; omega)
        simpa [eqG, fI] using this
      · rw [ixI, if_pos h1, nbI, if_pos h2]
      · rw [knI, if_pos h1, plI, if_pos h2]
    · rw [nbE, if_neg h2] at h
      split at h <;> omega
  · rw [ixE, if_neg h1] at h
    exact absurd h h1

set_option maxHeartbeats 2000000 in
set_option maxRecDepth 100000 in
theorem Destroyed_no (A : Option Addr) (n c : Nat) (gs : List (Int × ByteArray)) (nx k E : Int) (hE : ixE nx gs k = E) (h0 : E ≠ 0) (w : World) (hs : Sv w A n c 2 (sg gs)) (hb : Sh gs) :
    Calls Try.prog 20 #[.agg #[.slice A n c, .int .i64 nx], .int .i64 k] w (St2R [] 0 E w) := by
  have h1 : (E != 0) = true := by simp [h0]
  obtain ⟨I, hI⟩ : ∃ I, ixI nx gs k = I := ⟨_, rfl⟩
  have HC := Lib.hid (fun W hg => indexOf_is A n c gs nx k I E hI hE W (hs.gr hg) hb)
  clear hE h0 hI hs hb
  go_enter Try.func20, Try.ntmps20
  go_wp2_with ((go_at_call 49; (with_reducible refine (HC.out _ (by repeat (first | (with_reducible exact Gr.refl _) | (with_reducible assumption) | (with_reducible refine Gr.alloc ?_ _) | (with_reducible refine Gr.drew ?_) | (with_reducible refine Gr.drewN ?_ _) | (with_reducible refine Gr.setCell ?_ (by simp <;> omega) _) | (with_reducible refine Gr.trans ?_ (by with_reducible assumption)) | exact Gr.refl _ | assumption | refine Gr.alloc ?_ _ | refine Gr.drew ?_ | refine Gr.drewN ?_ _ | refine Gr.setCell ?_ (by simp <;> omega) _ | refine Gr.trans ?_ (by assumption)))).mono ?_); rintro e w1 ⟨rfl, hb⟩; obtain ⟨hc, hf⟩ := gcells hb (w.heap.size + 2) (by first | exact hz | omega | (simp; done) | (simp; omega)); have hz : w.heap.size + 2 ≤ w1.heap.size := (by have h := hb.size; (try simp at h); omega); have hz0 : w.heap.size < w1.heap.size := (by omega)))
  refine bodyPost_ret (v := .tuple #[.agg #[.slice none 0 0, .int .i64 0], .int .i64 E]) (by simp [results, Try.results20, go_sem, *]) rfl ⟨none, 0, rfl, Wv.none _ _, (by repeat (first | (with_reducible exact Gr.refl _) | (with_reducible assumption) | (with_reducible refine Gr.alloc ?_ _) | (with_reducible refine Gr.drew ?_) | (with_reducible refine Gr.drewN ?_ _) | (with_reducible refine Gr.setCell ?_ (by simp <;> omega) _) | (with_reducible refine Gr.trans ?_ (by with_reducible assumption)) | exact Gr.refl _ | assumption | refine Gr.alloc ?_ _ | refine Gr.drew ?_ | refine Gr.drewN ?_ _ | refine Gr.setCell ?_ (by simp <;> omega) _ | refine Gr.trans ?_ (by assumption)))⟩

/-- A store without a segment. -/
def cutG (gs : List (Int × ByteArray)) (i : Nat) : List (Int × ByteArray) := gs.take i ++ gs.drop (i + 1)
theorem cutG_len {gs : List (Int × ByteArray)} {i : Nat} (h : i < gs.length) : (cutG gs i).length = gs.length - 1 := by
  unfold cutG
  rw [List.length_append, List.length_take, List.length_drop]
  omega

set_option maxHeartbeats 4000000 in
set_option maxRecDepth 100000 in
theorem Destroyed_yes (A : Option Addr) (n c : Nat) (gs : List (Int × ByteArray)) (nx k : Int) (hE : ixE nx gs k = 0) (w : World) (hs : Sv w A n c 2 (sg gs)) (hb : Sh gs) :
    Calls Try.prog 20 #[.agg #[.slice A n c, .int .i64 nx], .int .i64 k] w (St2R (cutG gs (fI gs k)) nx 0 w) := by
  obtain ⟨e1, e2, e3, e4, e5⟩ := ix_zero hE
  have hl := hs.segs
  have hn10 := (st_right e1).1
  have HC := Lib.hid (fun W hg => indexOf_is A n c gs nx k _ 0 e4 hE W (hs.gr hg) hb)
  clear e3 e5 hE hb e1 e4
  generalize fI gs k = i at *
  have hn : 0 < n := by omega
  have hin : i < n := by omega
  have hn1 : n ≤ 10 := by omega
  obtain ⟨b, o, rfl, hbl, -⟩ := hs.at_ hn
  have hc := hs.cap
  have hcm := hs.max'
  have r1 := run_take (some ⟨b, o, none⟩) n c i i rfl (by omega) hc
  obtain ⟨A2, hA2, s2⟩ := hs.dropS (k := i + 1) (by omega)
  have r2 := run_drop b o n c ((i : Int) + 1) (i + 1) (by omega) (by omega)
  have r2' := fun W => r2 W A2 hA2
  have S1 := Lib.hid (hs.take2 (k := i) (by omega))
  have S2 := Lib.hid s2
  have HL := Lib.hid (cutG_len e2)
  have HL2 := Lib.hid hl
  have hlen : (cutG gs i).length = i + (n - (i + 1)) := by rw [cutG_len e2]; omega
  have HLEN := Lib.hid hlen
  rw [sg_take] at S1
  rw [sg_drop] at S2
  clear hs s2 r2 hA2 hlen e2 hl
  go_enter Try.func20, Try.ntmps20
  go_upto_region 4 with ((go_at_call 49; (with_reducible refine (HC.out _ (by repeat (first | (with_reducible exact Gr.refl _) | (with_reducible assumption) | (with_reducible refine Gr.alloc ?_ _) | (with_reducible refine Gr.drew ?_) | (with_reducible refine Gr.drewN ?_ _) | (with_reducible refine Gr.setCell ?_ (by simp <;> omega) _) | (with_reducible refine Gr.trans ?_ (by with_reducible assumption)) | exact Gr.refl _ | assumption | refine Gr.alloc ?_ _ | refine Gr.drew ?_ | refine Gr.drewN ?_ _ | refine Gr.setCell ?_ (by simp <;> omega) _ | refine Gr.trans ?_ (by assumption)))).mono ?_); rintro e w1 ⟨rfl, hb⟩; obtain ⟨hc, hf⟩ := gcells hb (w.heap.size + 2) (by first | exact hz | omega | (simp; done) | (simp; omega)); have hz : w.heap.size + 2 ≤ w1.heap.size := (by have h := hb.size; (try simp at h); omega); have hz0 : w.heap.size < w1.heap.size := (by omega)))
  have b0 : w1.cell? ⟨w.heap.size, 0, none⟩ = some (.slice (some ⟨b, o, none⟩) n c) := by simp [go_sem, *]
  have b1 : w1.cell? ⟨w.heap.size, 1, none⟩ = some (.int .i64 nx) := by simp [go_sem, *]
  have b2 : w1.cell? ⟨w.heap.size + 1, 0, none⟩ = some (.slice none 0 0) := by simp [go_sem, *]
  have b3 : w1.cell? ⟨w.heap.size + 1, 1, none⟩ = some (.int .i64 0) := by simp [go_sem, *]
  have f0 : w1.frozen? ⟨w.heap.size + 1, 0, none⟩ = false := by simp [go_sem, *]
  have f1 : w1.frozen? ⟨w.heap.size + 1, 1, none⟩ = false := by simp [go_sem, *]
  have G1 := Lib.hid (show Gr w w1 from (by repeat (first | (with_reducible exact Gr.refl _) | (with_reducible assumption) | (with_reducible refine Gr.alloc ?_ _) | (with_reducible refine Gr.drew ?_) | (with_reducible refine Gr.drewN ?_ _) | (with_reducible refine Gr.setCell ?_ (by simp <;> omega) _) | (with_reducible refine Gr.trans ?_ (by with_reducible assumption)) | exact Gr.refl _ | assumption | refine Gr.alloc ?_ _ | refine Gr.drew ?_ | refine Gr.drewN ?_ _ | refine Gr.setCell ?_ (by simp <;> omega) _ | refine Gr.trans ?_ (by assumption))))
  have hz1 : w.heap.size + 1 < w1.heap.size := by omega
  clear hc hf hb
  generalize w1 = W1 at *
  have hr : IntKind.i64.wrap ((i : Int) + 1) = (i : Int) + 1 := IntWalk.i64_in _ (by omega)
  go_region_held3 (fun w' => w'.cell? ⟨w.heap.size, 0, none⟩ = some (.slice (some ⟨b, o, none⟩) n c) ∧ w'.cell? ⟨w.heap.size, 1, none⟩ = some (.int .i64 nx)) (((try go_split_ands); (repeat' apply And.intro) <;> ((try simp only [World.cell?_drew]); first | (with_reducible assumption) | (simp [go_sem]; done) | ((repeat (first | (refine keepFar ?_ (by first | (dsimp only; omega) | (simp; done) | (simp; omega))) | (refine (Gr.alloc (Gr.refl _) _).keep ?_))); (try simp only [World.cell?_drew]); first | (with_reducible assumption) | (refine hb.keep ?_; (try simp only [World.cell?_drew]); first | (with_reducible assumption) | (simp [go_sem]; done) | ((repeat (refine (Gr.alloc (Gr.refl _) _).keep ?_)); (try simp only [World.cell?_drew]); (with_reducible assumption))) | (simp [*, go_sem]; done)))))
    ((go_at_call 50; (with_reducible refine (Concat_any W1.heap.size (some ⟨b, o, none⟩) A2 i (n - (i + 1)) c (c - (i + 1)) _ (gs.take i) (gs.drop (i + 1)) _ (S1.out.gr (G1.out.trans (by repeat (first | (with_reducible exact Gr.refl _) | (with_reducible assumption) | (with_reducible refine Gr.alloc ?_ _) | (with_reducible refine Gr.drew ?_) | (with_reducible refine Gr.drewN ?_ _) | (with_reducible refine Gr.setCell ?_ (by simp <;> omega) _) | (with_reducible refine Gr.trans ?_ (by with_reducible assumption)) | exact Gr.refl _ | assumption | refine Gr.alloc ?_ _ | refine Gr.drew ?_ | refine Gr.drewN ?_ _ | refine Gr.setCell ?_ (by simp <;> omega) _ | refine Gr.trans ?_ (by assumption))))) (S2.out.gr (G1.out.trans (by repeat (first | (with_reducible exact Gr.refl _) | (with_reducible assumption) | (with_reducible refine Gr.alloc ?_ _) | (with_reducible refine Gr.drew ?_) | (with_reducible refine Gr.drewN ?_ _) | (with_reducible refine Gr.setCell ?_ (by simp <;> omega) _) | (with_reducible refine Gr.trans ?_ (by with_reducible assumption)) | exact Gr.refl _ | assumption | refine Gr.alloc ?_ _ | refine Gr.drew ?_ | refine Gr.drewN ?_ _ | refine Gr.setCell ?_ (by simp <;> omega) _ | refine Gr.trans ?_ (by assumption))))) (by omega) (by simp [go_sem]) (by simp [go_sem])).mono ?_); rintro e w2 ⟨A3, c3, rfl, hW, hb⟩; have HW := Lib.hid hW; clear hW; have hz2 : w.heap.size + 1 < w2.heap.size := (by have h := hb.size; simp at h; omega); have hz3 : w.heap.size < w2.heap.size := (by omega); have g0 : w2.frozen? ⟨w.heap.size + 1, 0, none⟩ = false := (hb.cells.2 (w.heap.size + 1) 0 (by simp; omega)).trans (by simp [go_sem, *]); have g1 : w2.frozen? ⟨w.heap.size + 1, 1, none⟩ = false := (hb.cells.2 (w.heap.size + 1) 1 (by simp; omega)).trans (by simp [go_sem, *]); have d2 : w2.cell? ⟨w.heap.size + 1, 0, none⟩ = some (.slice none 0 0) := hb.keep (by simp [go_sem, *]); have d3 : w2.cell? ⟨w.heap.size + 1, 1, none⟩ = some (.int .i64 0) := hb.keep (by simp [go_sem, *])))
  all_goals
    go_wp2
    refine bodyPost_ret (v := .tuple #[.agg #[.slice A3 (i + (n - (i + 1))) c3, .int .i64 nx], .int .i64 0]) (by simp [results, Try.results20, go_sem, *]) rfl ⟨A3, c3, by rw [HLEN.out], ?_, ?_⟩
    · rw [HLEN.out, show sg (cutG gs i) = sg (gs.take i) ++ sg (gs.drop (i + 1)) from sg_app _ _]
      exact ((HW.out.setLow (by simp; omega) _).setLow (by simp; omega) _).mono (by simp; omega)
    · exact ((G1.out.trans (Gr.trans ((Gr.refl _).alloc _).drew hb)).setCell (by simp) _).setCell (by simp) _
end Go.Proofs.Ytljminmfldejnaa
