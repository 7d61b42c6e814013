/- The program's Extended, Truncated. -/
import Derived.Test.YtljminmfldejnaaHm
namespace Go.Proofs.Ytljminmfldejnaa
set_option linter.unusedSimpArgs false
set_option linter.unusedVariables false
open Go.RowKit

theorem ixI_is {nx k : Int} {gs : List (Int × ByteArray)} (h : ixE nx gs k = 0) : ixI nx gs k = (fI gs k : Int) := (ix_zero h).2.2.2.1
/-- A segment of a right store. -/
theorem seg_right {nx k : Int} {gs : List (Int × ByteArray)} (h : ixE nx gs k = 0) : fI gs k < gs.length ∧ gs.length ≤ 10 ∧ (byG gs (fI gs k)).size % 32 = 0 ∧ 1 ≤ (byG gs (fI gs k)).size / 32 ∧ (byG gs (fI gs k)).size / 32 ≤ 8 := by
  obtain ⟨h1, h2, -⟩ := ix_zero h
  obtain ⟨h3, -, -, h4⟩ := st_right h1
  have := h4 _ h2
  exact ⟨h2, h3, this.2.2⟩

set_option maxHeartbeats 2000000 in
set_option maxRecDepth 100000 in
theorem Extended_no (A : Option Addr) (n c : Nat) (gs : List (Int × ByteArray)) (nx k p E : Int) (hE : ixE nx gs k = E) (h0 : E ≠ 0) (w : World) (hs : Sv w A n c 2 (sg gs)) (hb : Sh gs) :
    Calls Try.prog 24 #[.agg #[.slice A n c, .int .i64 nx], .int .i64 k, .int .i64 p] w (St2R [] 0 E w) := by
  have h1 : (E != 0) = true := by simp [h0]
  obtain ⟨I, hI⟩ : ∃ I, ixI nx gs k = I := ⟨_, rfl⟩
  have HC := Lib.hid (fun W hg => indexOf_is A n c gs nx k I E hI hE W (hs.gr hg) hb)
  clear hE h0 hI hs hb
  go_enter Try.func24, Try.ntmps24
  go_wp2_with ((go_at_call 49; (with_reducible refine (HC.out _ (by repeat (first | (with_reducible exact Gr.refl _) | (with_reducible assumption) | (with_reducible refine Gr.alloc ?_ _) | (with_reducible refine Gr.drew ?_) | (with_reducible refine Gr.drewN ?_ _) | (with_reducible refine Gr.setCell ?_ (by simp <;> omega) _) | (with_reducible refine Gr.trans ?_ (by with_reducible assumption)) | exact Gr.refl _ | assumption | refine Gr.alloc ?_ _ | refine Gr.drew ?_ | refine Gr.drewN ?_ _ | refine Gr.setCell ?_ (by simp <;> omega) _ | refine Gr.trans ?_ (by assumption)))).mono ?_); rintro e w1 ⟨rfl, hb⟩; obtain ⟨hc, hf⟩ := gcells hb (w.heap.size + 2) (by first | exact hz | omega | (simp; done) | (simp; omega)); have hz : w.heap.size + 2 ≤ w1.heap.size := (by have h := hb.size; (try simp at h); omega); have hz0 : w.heap.size < w1.heap.size := (by omega)))
  refine bodyPost_ret (v := .tuple #[.agg #[.slice none 0 0, .int .i64 0], .int .i64 E]) (by simp [results, Try.results24, go_sem, *]) rfl ⟨none, 0, rfl, Wv.none _ _, (by repeat (first | (with_reducible exact Gr.refl _) | (with_reducible assumption) | (with_reducible refine Gr.alloc ?_ _) | (with_reducible refine Gr.drew ?_) | (with_reducible refine Gr.drewN ?_ _) | (with_reducible refine Gr.setCell ?_ (by simp <;> omega) _) | (with_reducible refine Gr.trans ?_ (by with_reducible assumption)) | exact Gr.refl _ | assumption | refine Gr.alloc ?_ _ | refine Gr.drew ?_ | refine Gr.drewN ?_ _ | refine Gr.setCell ?_ (by simp <;> omega) _ | refine Gr.trans ?_ (by assumption)))⟩
set_option maxHeartbeats 2000000 in
set_option maxRecDepth 100000 in
theorem Truncated_no (A : Option Addr) (n c : Nat) (gs : List (Int × ByteArray)) (nx k p E : Int) (hE : ixE nx gs k = E) (h0 : E ≠ 0) (w : World) (hs : Sv w A n c 2 (sg gs)) (hb : Sh gs) :
    Calls Try.prog 25 #[.agg #[.slice A n c, .int .i64 nx], .int .i64 k, .int .i64 p] w (St2R [] 0 E w) := by
  have h1 : (E != 0) = true := by simp [h0]
  obtain ⟨I, hI⟩ : ∃ I, ixI nx gs k = I := ⟨_, rfl⟩
  have HC := Lib.hid (fun W hg => indexOf_is A n c gs nx k I E hI hE W (hs.gr hg) hb)
  clear hE h0 hI hs hb
  go_enter Try.func25, Try.ntmps25
  go_wp2_with ((go_at_call 49; (with_reducible refine (HC.out _ (by repeat (first | (with_reducible exact Gr.refl _) | (with_reducible assumption) | (with_reducible refine Gr.alloc ?_ _) | (with_reducible refine Gr.drew ?_) | (with_reducible refine Gr.drewN ?_ _) | (with_reducible refine Gr.setCell ?_ (by simp <;> omega) _) | (with_reducible refine Gr.trans ?_ (by with_reducible assumption)) | exact Gr.refl _ | assumption | refine Gr.alloc ?_ _ | refine Gr.drew ?_ | refine Gr.drewN ?_ _ | refine Gr.setCell ?_ (by simp <;> omega) _ | refine Gr.trans ?_ (by assumption)))).mono ?_); rintro e w1 ⟨rfl, hb⟩; obtain ⟨hc, hf⟩ := gcells hb (w.heap.size + 2) (by first | exact hz | omega | (simp; done) | (simp; omega)); have hz : w.heap.size + 2 ≤ w1.heap.size := (by have h := hb.size; (try simp at h); omega); have hz0 : w.heap.size < w1.heap.size := (by omega)))
  refine bodyPost_ret (v := .tuple #[.agg #[.slice none 0 0, .int .i64 0], .int .i64 E]) (by simp [results, Try.results25, go_sem, *]) rfl ⟨none, 0, rfl, Wv.none _ _, (by repeat (first | (with_reducible exact Gr.refl _) | (with_reducible assumption) | (with_reducible refine Gr.alloc ?_ _) | (with_reducible refine Gr.drew ?_) | (with_reducible refine Gr.drewN ?_ _) | (with_reducible refine Gr.setCell ?_ (by simp <;> omega) _) | (with_reducible refine Gr.trans ?_ (by with_reducible assumption)) | exact Gr.refl _ | assumption | refine Gr.alloc ?_ _ | refine Gr.drew ?_ | refine Gr.drewN ?_ _ | refine Gr.setCell ?_ (by simp <;> omega) _ | refine Gr.trans ?_ (by assumption)))⟩
set_option maxHeartbeats 2000000 in
set_option maxRecDepth 100000 in
theorem Extended_range (A : Option Addr) (n c : Nat) (gs : List (Int × ByteArray)) (nx k p : Int) (hE : ixE nx gs k = 0) (hp : wiB p 1 8 = false) (w : World) (hs : Sv w A n c 2 (sg gs)) (hb : Sh gs) :
    Calls Try.prog 24 #[.agg #[.slice A n c, .int .i64 nx], .int .i64 k, .int .i64 p] w (St2R [] 0 3 w) := by
  have HC := Lib.hid (fun W hg => indexOf_is A n c gs nx k _ 0 rfl hE W (hs.gr hg) hb)
  have HP := Lib.hid hp
  clear hE hs hb hp
  generalize ixI nx gs k = I at *
  go_enter Try.func24, Try.ntmps24
  go_wp2_with (first | (go_at_call 49; (with_reducible refine (HC.out _ (by repeat (first | (with_reducible exact Gr.refl _) | (with_reducible assumption) | (with_reducible refine Gr.alloc ?_ _) | (with_reducible refine Gr.drew ?_) | (with_reducible refine Gr.drewN ?_ _) | (with_reducible refine Gr.setCell ?_ (by simp <;> omega) _) | (with_reducible refine Gr.trans ?_ (by with_reducible assumption)) | exact Gr.refl _ | assumption | refine Gr.alloc ?_ _ | refine Gr.drew ?_ | refine Gr.drewN ?_ _ | refine Gr.setCell ?_ (by simp <;> omega) _ | refine Gr.trans ?_ (by assumption)))).mono ?_); rintro e w1 ⟨rfl, hb⟩; obtain ⟨hc, hf⟩ := gcells hb (w.heap.size + 2) (by first | exact hz | omega | (simp; done) | (simp; omega)); have hz : w.heap.size + 2 ≤ w1.heap.size := (by have h := hb.size; (try simp at h); omega); have hz0 : w.heap.size < w1.heap.size := (by omega)) | (go_at_call 43; (with_reducible refine (isFromOne_is _ _ _ HP.out _).mono ?_); rintro e w1 ⟨rfl, rfl⟩))
  refine bodyPost_ret (v := .tuple #[.agg #[.slice none 0 0, .int .i64 0], .int .i64 3]) (by simp [results, Try.results24, go_sem, *]) rfl ⟨none, 0, rfl, Wv.none _ _, (by repeat (first | (with_reducible exact Gr.refl _) | (with_reducible assumption) | (with_reducible refine Gr.alloc ?_ _) | (with_reducible refine Gr.drew ?_) | (with_reducible refine Gr.drewN ?_ _) | (with_reducible refine Gr.setCell ?_ (by simp <;> omega) _) | (with_reducible refine Gr.trans ?_ (by with_reducible assumption)) | exact Gr.refl _ | assumption | refine Gr.alloc ?_ _ | refine Gr.drew ?_ | refine Gr.drewN ?_ _ | refine Gr.setCell ?_ (by simp <;> omega) _ | refine Gr.trans ?_ (by assumption)))⟩

set_option maxHeartbeats 2000000 in
set_option maxRecDepth 100000 in
theorem Extended_full (A : Option Addr) (n c : Nat) (gs : List (Int × ByteArray)) (nx k p : Int) (hE : ixE nx gs k = 0) (hp : wiB p 1 8 = true) (hf : 8 < pgs (byG gs (fI gs k)) + p) (w : World) (hs : Sv w A n c 2 (sg gs)) (hb : Sh gs) :
    Calls Try.prog 24 #[.agg #[.slice A n c, .int .i64 nx], .int .i64 k, .int .i64 p] w (St2R [] 0 30 w) := by
  obtain ⟨e2, e3, e4, e5, e6⟩ := seg_right hE
  have HC := Lib.hid (fun W hg => indexOf_is A n c gs nx k _ 0 (ixI_is hE) hE W (hs.gr hg) hb)
  have HP := Lib.hid hp
  have hpp := wiB_iff.1 hp
  have hl := hs.segs
  have hxs := hb _ e2
  obtain ⟨b, o, rfl, hbl, -⟩ := hs.at_ (show 0 < n by omega)
  have HK := Lib.hid (fun W (hg : Gr w W) => (hs.gr hg).seg (show fI gs k < n by omega))
  have hin : fI gs k < n := by omega
  have hpg : 1 ≤ pgs (byG gs (fI gs k)) ∧ pgs (byG gs (fI gs k)) ≤ 8 := by unfold pgs; omega
  have HPG := Lib.hid (fun W => pagesOf_any (nuG gs (fI gs k)) (byG gs (fI gs k)) hxs W)
  clear hE hs hb hp e2 e3 e4 e5 e6 hl hxs
  generalize fI gs k = i at *
  generalize nuG gs i = m at *
  generalize byG gs i = x at *
  generalize pgs x = P at *
  have hi1 : (i : Int) < n := by omega
  have hwr : IntKind.i64.wrap (P + p) = P + p := IntWalk.i64_in _ (by omega)
  have hp8 := hpp.2
  have hp1 := hpp.1
  go_enter Try.func24, Try.ntmps24
  go_wp2_with (first | ((go_at_call 49; (with_reducible refine (HC.out _ (by repeat (first | (with_reducible exact Gr.refl _) | (with_reducible assumption) | (with_reducible refine Gr.alloc ?_ _) | (with_reducible refine Gr.drew ?_) | (with_reducible refine Gr.drewN ?_ _) | (with_reducible refine Gr.setCell ?_ (by simp <;> omega) _) | (with_reducible refine Gr.trans ?_ (by with_reducible assumption)) | exact Gr.refl _ | assumption | refine Gr.alloc ?_ _ | refine Gr.drew ?_ | refine Gr.drewN ?_ _ | refine Gr.setCell ?_ (by simp <;> omega) _ | refine Gr.trans ?_ (by assumption)))).mono ?_); rintro e w1 ⟨rfl, hb⟩; obtain ⟨hc, hf⟩ := gcells hb (w.heap.size + 2) (by first | exact hz | omega | (simp; done) | (simp; omega)); have hz : w.heap.size + 2 ≤ w1.heap.size := (by have h := hb.size; (try simp at h); omega); have hz0 : w.heap.size < w1.heap.size := (by omega)); obtain ⟨k0, k1⟩ := HK.out _ (show Gr w w1 from (by repeat (first | (with_reducible exact Gr.refl _) | (with_reducible assumption) | (with_reducible refine Gr.alloc ?_ _) | (with_reducible refine Gr.drew ?_) | (with_reducible refine Gr.drewN ?_ _) | (with_reducible refine Gr.setCell ?_ (by simp <;> omega) _) | (with_reducible refine Gr.trans ?_ (by with_reducible assumption)) | exact Gr.refl _ | assumption | refine Gr.alloc ?_ _ | refine Gr.drew ?_ | refine Gr.drewN ?_ _ | refine Gr.setCell ?_ (by simp <;> omega) _ | refine Gr.trans ?_ (by assumption)))); have hbl1 : b < w1.heap.size := World.block_lt_of_cell? w1 _ k0; have hzz1 : w.heap.size + 1 < w1.heap.size := (by omega)) | (go_at_call 43; (with_reducible refine (isFromOne_is _ _ _ HP.out _).mono ?_); rintro e w1 ⟨rfl, rfl⟩) | (go_at_call 45; (with_reducible refine (HPG.out _).mono ?_); rintro e w2 ⟨rfl, hb2⟩; obtain ⟨hc, hf⟩ := gcells hb2 (w.heap.size + 2) (by first | exact hz | (simp; done) | (simp; omega) | omega); have hz : w.heap.size + 2 ≤ w2.heap.size := (by have h := Gr.size hb2; (try simp at h); omega); have hz0 : w.heap.size < w2.heap.size := (by omega); have hz1 : w.heap.size + 1 < w2.heap.size := (by omega)))
  refine bodyPost_ret (v := .tuple #[.agg #[.slice none 0 0, .int .i64 0], .int .i64 30]) (by simp [results, Try.results24, go_sem, *]) rfl ⟨none, 0, rfl, Wv.none _ _, (by repeat (first | (with_reducible exact Gr.refl _) | (with_reducible assumption) | (with_reducible refine Gr.alloc ?_ _) | (with_reducible refine Gr.drew ?_) | (with_reducible refine Gr.drewN ?_ _) | (with_reducible refine Gr.setCell ?_ (by simp <;> omega) _) | (with_reducible refine Gr.trans ?_ (by with_reducible assumption)) | exact Gr.refl _ | assumption | refine Gr.alloc ?_ _ | refine Gr.drew ?_ | refine Gr.drewN ?_ _ | refine Gr.setCell ?_ (by simp <;> omega) _ | refine Gr.trans ?_ (by assumption)))⟩
end Go.Proofs.Ytljminmfldejnaa
