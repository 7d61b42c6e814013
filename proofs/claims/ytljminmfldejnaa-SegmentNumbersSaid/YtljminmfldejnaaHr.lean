/- Bytes by addresses: ReadAt of both sides; errors of Written. -/
import Derived.Test.YtljminmfldejnaaHq
namespace Go.Proofs.Ytljminmfldejnaa
set_option linter.unusedSimpArgs false
set_option linter.unusedVariables false
open Go.RowKit

set_option maxHeartbeats 2000000 in
set_option maxRecDepth 100000 in
theorem ReadAt_no (A : Option Addr) (n c : Nat) (gs : List (Int × ByteArray)) (nx k a l E : Int) (hE : iwE nx gs k a l = E) (h0 : E ≠ 0) (hm : l ≤ 9223372036854775807) (w : World) (hs : Sv w A n c 2 (sg gs)) (hb : Sh gs) :
    Calls Try.prog 28 #[.agg #[.slice A n c, .int .i64 nx], .agg #[.int .i64 k, .int .i64 a], .int .i64 l] w fun e w' => e = .returned (.tuple #[.string ⟨#[]⟩, .int .i64 E]) ∧ Gr w w' := by
  have h1 : (E != 0) = true := by simp [h0]
  have HC := Lib.hid (fun W hg => indexWith_bad A n c gs nx k a l E hE h0 hm W (hs.gr hg) hb)
  clear hE h0 hs hb
  go_enter Try.func28, Try.ntmps28
  go_wp2_with ((go_at_call 56; (with_reducible refine (HC.out _ (by repeat (first | (with_reducible exact Gr.refl _) | (with_reducible assumption) | (with_reducible refine Gr.alloc ?_ _) | (with_reducible refine Gr.drew ?_) | (with_reducible refine Gr.drewN ?_ _) | (with_reducible refine Gr.setCell ?_ (by simp <;> omega) _) | (with_reducible refine Gr.trans ?_ (by with_reducible assumption)) | exact Gr.refl _ | assumption | refine Gr.alloc ?_ _ | refine Gr.drew ?_ | refine Gr.drewN ?_ _ | refine Gr.setCell ?_ (by simp <;> omega) _ | refine Gr.trans ?_ (by assumption)))).mono ?_); rintro e w1 ⟨rfl, hb⟩; obtain ⟨hc, hf⟩ := gcells hb (w.heap.size + 2) (by first | exact hz | omega | (simp; done) | (simp; omega)); have hz : w.heap.size + 2 ≤ w1.heap.size := (by have h := hb.size; (try simp at h); omega); have hz0 : w.heap.size < w1.heap.size := (by omega)))
  go_ret2
  exact ⟨rfl, (by repeat (first | (with_reducible exact Gr.refl _) | (with_reducible assumption) | (with_reducible refine Gr.alloc ?_ _) | (with_reducible refine Gr.drew ?_) | (with_reducible refine Gr.drewN ?_ _) | (with_reducible refine Gr.setCell ?_ (by simp <;> omega) _) | (with_reducible refine Gr.trans ?_ (by with_reducible assumption)) | exact Gr.refl _ | assumption | refine Gr.alloc ?_ _ | refine Gr.drew ?_ | refine Gr.drewN ?_ _ | refine Gr.setCell ?_ (by simp <;> omega) _ | refine Gr.trans ?_ (by assumption)))⟩
set_option maxHeartbeats 2000000 in
set_option maxRecDepth 100000 in
theorem Written_no (A : Option Addr) (n c : Nat) (gs : List (Int × ByteArray)) (nx k a E : Int) (d : ByteArray) (hd : d.size ≤ maxLen) (hE : iwE nx gs k a d.size = E) (h0 : E ≠ 0) (w : World) (hs : Sv w A n c 2 (sg gs)) (hb : Sh gs) :
    Calls Try.prog 29 #[.agg #[.slice A n c, .int .i64 nx], .agg #[.int .i64 k, .int .i64 a], .string d] w (St2R [] 0 E w) := by
  have h1 : (E != 0) = true := by simp [h0]
  have HC := Lib.hid (fun W hg => indexWith_bad A n c gs nx k a d.size E hE h0 (by unfold maxLen at hd; omega) W (hs.gr hg) hb)
  clear hE h0 hs hb
  go_enter Try.func29, Try.ntmps29
  go_wp2_with ((go_at_call 56; (with_reducible refine (HC.out _ (by repeat (first | (with_reducible exact Gr.refl _) | (with_reducible assumption) | (with_reducible refine Gr.alloc ?_ _) | (with_reducible refine Gr.drew ?_) | (with_reducible refine Gr.drewN ?_ _) | (with_reducible refine Gr.setCell ?_ (by simp <;> omega) _) | (with_reducible refine Gr.trans ?_ (by with_reducible assumption)) | exact Gr.refl _ | assumption | refine Gr.alloc ?_ _ | refine Gr.drew ?_ | refine Gr.drewN ?_ _ | refine Gr.setCell ?_ (by simp <;> omega) _ | refine Gr.trans ?_ (by assumption)))).mono ?_); rintro e w1 ⟨rfl, hb⟩; obtain ⟨hc, hf⟩ := gcells hb (w.heap.size + 3) (by first | exact hz | omega | (simp; done) | (simp; omega)); have hz : w.heap.size + 3 ≤ w1.heap.size := (by have h := hb.size; (try simp at h); omega); have hz0 : w.heap.size < w1.heap.size := (by omega)); have hzz1 : w.heap.size + 1 < w1.heap.size := (by omega); have hzz2 : w.heap.size + 1 + 1 < w1.heap.size := (by omega))
  refine bodyPost_ret (v := .tuple #[.agg #[.slice none 0 0, .int .i64 0], .int .i64 E]) (by simp [results, Try.results29, go_sem, *]) rfl ⟨none, 0, rfl, Wv.none _ _, (by repeat (first | (with_reducible exact Gr.refl _) | (with_reducible assumption) | (with_reducible refine Gr.alloc ?_ _) | (with_reducible refine Gr.drew ?_) | (with_reducible refine Gr.drewN ?_ _) | (with_reducible refine Gr.setCell ?_ (by simp <;> omega) _) | (with_reducible refine Gr.trans ?_ (by with_reducible assumption)) | exact Gr.refl _ | assumption | refine Gr.alloc ?_ _ | refine Gr.drew ?_ | refine Gr.drewN ?_ _ | refine Gr.setCell ?_ (by simp <;> omega) _ | refine Gr.trans ?_ (by assumption)))⟩
set_option maxHeartbeats 2000000 in
set_option maxRecDepth 100000 in
theorem refReadAt_no (A : Option Addr) (n c : Nat) (gs : List (Int × ByteArray)) (nx k a l E : Int) (hE : iwE nx gs k a l = E) (h0 : E ≠ 0) (w : World) (hs : Sv w A n c 2 (sg gs)) (hb : Sh gs) :
    Calls Try.prog 30 #[.agg #[.slice A n c, .int .i64 nx], .agg #[.int .i64 k, .int .i64 a], .int .i64 l] w (AnR [] 0 0 0 ⟨#[]⟩ E w) := by
  have h1 : (E != 0) = true := by simp [h0]
  have HC := Lib.hid (fun W hg => reach_bad A n c gs nx k a l E hE h0 W (hs.gr hg) hb)
  clear hE h0 hs hb
  go_enter Try.func30, Try.ntmps30
  go_wp2_with (go_at_call 57; (with_reducible refine (HC.out _ (by repeat (first | (with_reducible exact Gr.refl _) | (with_reducible assumption) | (with_reducible refine Gr.alloc ?_ _) | (with_reducible refine Gr.drew ?_) | (with_reducible refine Gr.drewN ?_ _) | (with_reducible refine Gr.setCell ?_ (by simp <;> omega) _) | (with_reducible refine Gr.trans ?_ (by with_reducible assumption)) | exact Gr.refl _ | assumption | refine Gr.alloc ?_ _ | refine Gr.drew ?_ | refine Gr.drewN ?_ _ | refine Gr.setCell ?_ (by simp <;> omega) _ | refine Gr.trans ?_ (by assumption)))).mono ?_); rintro e w1 ⟨I, rfl, hb⟩; obtain ⟨hc, hf⟩ := gcells hb (w.heap.size + 3) (by simp); have hz : w.heap.size + 3 ≤ w1.heap.size := (by have h := hb.size; simp at h; omega); have hzz1 : w.heap.size + 1 < w1.heap.size := (by omega); have hzz2 : w.heap.size + 1 + 1 < w1.heap.size := (by omega); have hz0 : w.heap.size < w1.heap.size := (by omega))
  refine bodyPost_ret (v := .agg #[.slice none 0 0, .int .i64 0, .int .i64 0, .string ⟨#[]⟩, .int .i64 E]) (by simp [results, Try.results30, go_sem, *]) rfl ⟨none, 0, rfl, Wv.none _ _, (by repeat (first | (with_reducible exact Gr.refl _) | (with_reducible assumption) | (with_reducible refine Gr.alloc ?_ _) | (with_reducible refine Gr.drew ?_) | (with_reducible refine Gr.drewN ?_ _) | (with_reducible refine Gr.setCell ?_ (by simp <;> omega) _) | (with_reducible refine Gr.trans ?_ (by with_reducible assumption)) | exact Gr.refl _ | assumption | refine Gr.alloc ?_ _ | refine Gr.drew ?_ | refine Gr.drewN ?_ _ | refine Gr.setCell ?_ (by simp <;> omega) _ | refine Gr.trans ?_ (by assumption)))⟩
set_option maxHeartbeats 2000000 in
set_option maxRecDepth 100000 in
theorem refWritten_no (A : Option Addr) (n c : Nat) (gs : List (Int × ByteArray)) (nx k a E : Int) (d : ByteArray) (hd : d.size ≤ maxLen) (hE : iwE nx gs k a d.size = E) (h0 : E ≠ 0) (w : World) (hs : Sv w A n c 2 (sg gs)) (hb : Sh gs) :
    Calls Try.prog 31 #[.agg #[.slice A n c, .int .i64 nx], .agg #[.int .i64 k, .int .i64 a], .string d] w (AnR [] 0 0 0 ⟨#[]⟩ E w) := by
  have h1 : (E != 0) = true := by simp [h0]
  have HC := Lib.hid (fun W hg => reach_bad A n c gs nx k a d.size E hE h0 W (hs.gr hg) hb)
  clear hE h0 hs hb
  go_enter Try.func31, Try.ntmps31
  go_wp2_with (go_at_call 57; (with_reducible refine (HC.out _ (by repeat (first | (with_reducible exact Gr.refl _) | (with_reducible assumption) | (with_reducible refine Gr.alloc ?_ _) | (with_reducible refine Gr.drew ?_) | (with_reducible refine Gr.drewN ?_ _) | (with_reducible refine Gr.setCell ?_ (by simp <;> omega) _) | (with_reducible refine Gr.trans ?_ (by with_reducible assumption)) | exact Gr.refl _ | assumption | refine Gr.alloc ?_ _ | refine Gr.drew ?_ | refine Gr.drewN ?_ _ | refine Gr.setCell ?_ (by simp <;> omega) _ | refine Gr.trans ?_ (by assumption)))).mono ?_); rintro e w1 ⟨I, rfl, hb⟩; obtain ⟨hc, hf⟩ := gcells hb (w.heap.size + 3) (by simp); have hz : w.heap.size + 3 ≤ w1.heap.size := (by have h := hb.size; simp at h; omega); have hzz1 : w.heap.size + 1 < w1.heap.size := (by omega); have hzz2 : w.heap.size + 1 + 1 < w1.heap.size := (by omega); have hz0 : w.heap.size < w1.heap.size := (by omega))
  refine bodyPost_ret (v := .agg #[.slice none 0 0, .int .i64 0, .int .i64 0, .string ⟨#[]⟩, .int .i64 E]) (by simp [results, Try.results31, go_sem, *]) rfl ⟨none, 0, rfl, Wv.none _ _, (by repeat (first | (with_reducible exact Gr.refl _) | (with_reducible assumption) | (with_reducible refine Gr.alloc ?_ _) | (with_reducible refine Gr.drew ?_) | (with_reducible refine Gr.drewN ?_ _) | (with_reducible refine Gr.setCell ?_ (by simp <;> omega) _) | (with_reducible refine Gr.trans ?_ (by with_reducible assumption)) | exact Gr.refl _ | assumption | refine Gr.alloc ?_ _ | refine Gr.drew ?_ | refine Gr.drewN ?_ _ | refine Gr.setCell ?_ (by simp <;> omega) _ | refine Gr.trans ?_ (by assumption)))⟩

set_option maxHeartbeats 4000000 in
set_option maxRecDepth 100000 in
theorem ReadAt_yes (A : Option Addr) (n c : Nat) (gs : List (Int × ByteArray)) (nx k : Int) (a l : Nat) (hE : iwE nx gs k a l = 0) (hm : (l : Int) ≤ 9223372036854775807) (w : World) (hs : Sv w A n c 2 (sg gs)) (hb : Sh gs) :
    Calls Try.prog 28 #[.agg #[.slice A n c, .int .i64 nx], .agg #[.int .i64 k, .int .i64 a], .int .i64 l] w fun e w' => e = .returned (.tuple #[.string ((byG gs (fI gs k)).extract a (a + l)), .int .i64 0]) ∧ Gr w w' := by
  obtain ⟨hE1, hR⟩ := iwE_zero hE
  obtain ⟨e2, e3, e4, e5, e6⟩ := seg_right hE1
  have hHC := fun W hg => indexWith_ok A n c gs nx k a l hE hm W (hs.gr hg) hb
  have hl := hs.segs
  have hsz : (byG gs (fI gs k)).size ≤ 287 := by omega
  obtain ⟨b, o, rfl, hbl, -⟩ := hs.at_ (show 0 < n by omega)
  have HC := Lib.hid hHC
  have HK := Lib.hid (fun W (hg : Gr w W) => (hs.gr hg).seg (show fI gs k < n by omega))
  have HS := Lib.hid hs
  have hin : fI gs k < n := by omega
  have hn : n ≤ 10 := by omega
  have hr := rgB_iff.1 hR
  have hr1 := hr.1
  have hr2 := hr.2.1
  have hr3 := hr.2.2
  clear hE hE1 hR hs hb e2 e3 e4 e5 e6 hl hr hHC
  generalize fI gs k = i at *
  generalize nuG gs i = m at *
  generalize byG gs i = x at *
  have hi1 : (i : Int) < n := by omega
  have hadd : IntKind.i64.wrap ((a : Int) + l) = (a : Int) + l := IntWalk.i64_in _ (by omega)
  have hsl := cut_ij x a ((a : Int) + l) a (a + l) rfl (by omega) (by omega) (by omega)
  go_enter Try.func28, Try.ntmps28
  go_upto_region 4 with (((go_at_call 56; (with_reducible refine (HC.out _ (by repeat (first | (with_reducible exact Gr.refl _) | (with_reducible assumption) | (with_reducible refine Gr.alloc ?_ _) | (with_reducible refine Gr.drew ?_) | (with_reducible refine Gr.drewN ?_ _) | (with_reducible refine Gr.setCell ?_ (by simp <;> omega) _) | (with_reducible refine Gr.trans ?_ (by with_reducible assumption)) | exact Gr.refl _ | assumption | refine Gr.alloc ?_ _ | refine Gr.drew ?_ | refine Gr.drewN ?_ _ | refine Gr.setCell ?_ (by simp <;> omega) _ | refine Gr.trans ?_ (by assumption)))).mono ?_); rintro e w1 ⟨rfl, hb⟩; obtain ⟨hc, hf⟩ := gcells hb (w.heap.size + 2) (by first | exact hz | omega | (simp; done) | (simp; omega)); have hz : w.heap.size + 2 ≤ w1.heap.size := (by have h := hb.size; (try simp at h); omega); have hz0 : w.heap.size < w1.heap.size := (by omega)); obtain ⟨k0, k1⟩ := HK.out _ (show Gr w w1 from (by repeat (first | (with_reducible exact Gr.refl _) | (with_reducible assumption) | (with_reducible refine Gr.alloc ?_ _) | (with_reducible refine Gr.drew ?_) | (with_reducible refine Gr.drewN ?_ _) | (with_reducible refine Gr.setCell ?_ (by simp <;> omega) _) | (with_reducible refine Gr.trans ?_ (by with_reducible assumption)) | exact Gr.refl _ | assumption | refine Gr.alloc ?_ _ | refine Gr.drew ?_ | refine Gr.drewN ?_ _ | refine Gr.setCell ?_ (by simp <;> omega) _ | refine Gr.trans ?_ (by assumption)))); have hbl1 : b < w1.heap.size := World.block_lt_of_cell? w1 _ k0; have hzz1 : w.heap.size + 1 < w1.heap.size := (by omega)))
  go_quiet (fail)
  go_wp2
  go_ret2
  exact ⟨rfl, (by repeat (first | (with_reducible exact Gr.refl _) | (with_reducible assumption) | (with_reducible refine Gr.alloc ?_ _) | (with_reducible refine Gr.drew ?_) | (with_reducible refine Gr.drewN ?_ _) | (with_reducible refine Gr.setCell ?_ (by simp <;> omega) _) | (with_reducible refine Gr.trans ?_ (by with_reducible assumption)) | exact Gr.refl _ | assumption | refine Gr.alloc ?_ _ | refine Gr.drew ?_ | refine Gr.drewN ?_ _ | refine Gr.setCell ?_ (by simp <;> omega) _ | refine Gr.trans ?_ (by assumption)))⟩
set_option maxHeartbeats 4000000 in
set_option maxRecDepth 100000 in
theorem refReadAt_yes (A : Option Addr) (n c : Nat) (gs : List (Int × ByteArray)) (nx k : Int) (a l : Nat) (hE : iwE nx gs k a l = 0) (w : World) (hs : Sv w A n c 2 (sg gs)) (hb : Sh gs) :
    Calls Try.prog 30 #[.agg #[.slice A n c, .int .i64 nx], .agg #[.int .i64 k, .int .i64 a], .int .i64 l] w (AnR [] 0 0 0 ((byG gs (fI gs k)).extract a (a + l)) 0 w) := by
  obtain ⟨hE1, hR⟩ := iwE_zero hE
  obtain ⟨e2, e3, e4, e5, e6⟩ := seg_right hE1
  have hHC := fun W hg => reach_ok A n c gs nx k a l hE W (hs.gr hg) hb
  have hl := hs.segs
  have hsz : (byG gs (fI gs k)).size ≤ 287 := by omega
  obtain ⟨b, o, rfl, hbl, -⟩ := hs.at_ (show 0 < n by omega)
  have HC := Lib.hid hHC
  have HK := Lib.hid (fun W (hg : Gr w W) => (hs.gr hg).seg (show fI gs k < n by omega))
  have HS := Lib.hid hs
  have hin : fI gs k < n := by omega
  have hn : n ≤ 10 := by omega
  have hr := rgB_iff.1 hR
  have hr1 := hr.1
  have hr2 := hr.2.1
  have hr3 := hr.2.2
  clear hE hE1 hR hs hb e2 e3 e4 e5 e6 hl hr hHC
  generalize fI gs k = i at *
  generalize nuG gs i = m at *
  generalize byG gs i = x at *
  have hi1 : (i : Int) < n := by omega
  have hadd : IntKind.i64.wrap ((a : Int) + l) = (a : Int) + l := IntWalk.i64_in _ (by omega)
  have hsl := cut_ij x a ((a : Int) + l) a (a + l) rfl (by omega) (by omega) (by omega)
  go_enter Try.func30, Try.ntmps30
  go_upto_region 4 with (((go_at_call 57; (with_reducible refine (HC.out _ (by repeat (first | (with_reducible exact Gr.refl _) | (with_reducible assumption) | (with_reducible refine Gr.alloc ?_ _) | (with_reducible refine Gr.drew ?_) | (with_reducible refine Gr.drewN ?_ _) | (with_reducible refine Gr.setCell ?_ (by simp <;> omega) _) | (with_reducible refine Gr.trans ?_ (by with_reducible assumption)) | exact Gr.refl _ | assumption | refine Gr.alloc ?_ _ | refine Gr.drew ?_ | refine Gr.drewN ?_ _ | refine Gr.setCell ?_ (by simp <;> omega) _ | refine Gr.trans ?_ (by assumption)))).mono ?_); rintro e w1 ⟨rfl, hb⟩; obtain ⟨hc, hf⟩ := gcells hb (w.heap.size + 3) (by first | exact hz | omega | (simp; done) | (simp; omega)); have hz : w.heap.size + 3 ≤ w1.heap.size := (by have h := hb.size; (try simp at h); omega); have hz0 : w.heap.size < w1.heap.size := (by omega)); obtain ⟨k0, k1⟩ := HK.out _ (show Gr w w1 from (by repeat (first | (with_reducible exact Gr.refl _) | (with_reducible assumption) | (with_reducible refine Gr.alloc ?_ _) | (with_reducible refine Gr.drew ?_) | (with_reducible refine Gr.drewN ?_ _) | (with_reducible refine Gr.setCell ?_ (by simp <;> omega) _) | (with_reducible refine Gr.trans ?_ (by with_reducible assumption)) | exact Gr.refl _ | assumption | refine Gr.alloc ?_ _ | refine Gr.drew ?_ | refine Gr.drewN ?_ _ | refine Gr.setCell ?_ (by simp <;> omega) _ | refine Gr.trans ?_ (by assumption)))); have hbl1 : b < w1.heap.size := World.block_lt_of_cell? w1 _ k0; have hzz1 : w.heap.size + 1 < w1.heap.size := (by omega)); have hzz2 : w.heap.size + 1 + 1 < w1.heap.size := (by omega))
  go_region
  all_goals
    go_wp2
    refine bodyPost_ret (v := .agg #[.slice none 0 0, .int .i64 0, .int .i64 0, .string (x.extract a (a + l)), .int .i64 0]) (by simp [results, Try.results30, go_sem, *]) rfl ⟨none, 0, rfl, Wv.none _ _, (by repeat (first | (with_reducible exact Gr.refl _) | (with_reducible assumption) | (with_reducible refine Gr.alloc ?_ _) | (with_reducible refine Gr.drew ?_) | (with_reducible refine Gr.drewN ?_ _) | (with_reducible refine Gr.setCell ?_ (by simp <;> omega) _) | (with_reducible refine Gr.trans ?_ (by with_reducible assumption)) | exact Gr.refl _ | assumption | refine Gr.alloc ?_ _ | refine Gr.drew ?_ | refine Gr.drewN ?_ _ | refine Gr.setCell ?_ (by simp <;> omega) _ | refine Gr.trans ?_ (by assumption)))⟩
end Go.Proofs.Ytljminmfldejnaa
