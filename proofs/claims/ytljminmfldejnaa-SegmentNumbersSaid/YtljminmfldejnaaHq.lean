/- Bytes by addresses: the program's indexWith, ReadAt; the reference's reach, ReadAt. -/
import Derived.Test.YtljminmfldejnaaHp
namespace Go.Proofs.Ytljminmfldejnaa
set_option linter.unusedSimpArgs false
set_option linter.unusedVariables false
open Go.RowKit

/-- So many bytes lie from an offset on. -/
def rgB (x : ByteArray) (a m : Int) : Bool := decide (0 ≤ a) && decide (0 ≤ m) && decide (a ≤ x.size - m)
theorem rgB_iff {x : ByteArray} {a m : Int} : rgB x a m = true ↔ 0 ≤ a ∧ 0 ≤ m ∧ a ≤ x.size - m := by simp [rgB, and_assoc]
def rgE (x : ByteArray) (a l : Int) : Int := if rgB x a l = true then 0 else 3
def rgI (x : ByteArray) (a l : Int) (i : Nat) : Int := if rgB x a l = true then i else 0
theorem rg_yes {x : ByteArray} {a l : Int} (h : rgB x a l = true) (i : Nat) : rgE x a l = 0 ∧ rgI x a l i = i := ⟨by rw [rgE, if_pos h], by rw [rgI, if_pos h]⟩
theorem rg_no {x : ByteArray} {a l : Int} (h : ¬ rgB x a l = true) (i : Nat) : rgE x a l = 3 ∧ rgI x a l i = 0 := ⟨by rw [rgE, if_neg h], by rw [rgI, if_neg h]⟩
/-- The error of some bytes. -/
def iwE (nx : Int) (gs : List (Int × ByteArray)) (k a m : Int) : Int := if ixE nx gs k ≠ 0 then ixE nx gs k else if rgB (byG gs (fI gs k)) a m = true then 0 else 3
theorem iwE_no {nx k a m : Int} {gs : List (Int × ByteArray)} (h : ixE nx gs k ≠ 0) : iwE nx gs k a m = ixE nx gs k := by rw [iwE, if_pos h]
theorem iwE_range {nx k a m : Int} {gs : List (Int × ByteArray)} (h : ixE nx gs k = 0) (h2 : rgB (byG gs (fI gs k)) a m = false) : iwE nx gs k a m = 3 := by rw [iwE, if_neg (by simp [h]), if_neg (by simp [h2])]
theorem iwE_yes {nx k a m : Int} {gs : List (Int × ByteArray)} (h : ixE nx gs k = 0) (h2 : rgB (byG gs (fI gs k)) a m = true) : iwE nx gs k a m = 0 := by rw [iwE, if_neg (by simp [h]), if_pos h2]

set_option maxHeartbeats 2000000 in
set_option maxRecDepth 100000 in
theorem indexWith_no (A : Option Addr) (n c : Nat) (gs : List (Int × ByteArray)) (nx k a l E : Int) (hE : ixE nx gs k = E) (h0 : E ≠ 0) (w : World) (hs : Sv w A n c 2 (sg gs)) (hb : Sh gs) :
    Calls Try.prog 56 #[.agg #[.slice A n c, .int .i64 nx], .agg #[.int .i64 k, .int .i64 a], .int .i64 l] w fun e w' => e = .returned (.tuple #[.int .i64 0, .int .i64 E]) ∧ Gr w w' := by
  have h1 : (E != 0) = true := by simp [h0]
  obtain ⟨I, hI⟩ : ∃ I, ixI nx gs k = I := ⟨_, rfl⟩
  have HC := Lib.hid (fun W hg => indexOf_is A n c gs nx k I E hI hE W (hs.gr hg) hb)
  clear hE h0 hI hs hb
  go_enter Try.func56, Try.ntmps56
  go_wp2_with ((go_at_call 49; (with_reducible refine (HC.out _ (by repeat (first | (with_reducible exact Gr.refl _) | (with_reducible assumption) | (with_reducible refine Gr.alloc ?_ _) | (with_reducible refine Gr.drew ?_) | (with_reducible refine Gr.drewN ?_ _) | (with_reducible refine Gr.setCell ?_ (by simp <;> omega) _) | (with_reducible refine Gr.trans ?_ (by with_reducible assumption)) | exact Gr.refl _ | assumption | refine Gr.alloc ?_ _ | refine Gr.drew ?_ | refine Gr.drewN ?_ _ | refine Gr.setCell ?_ (by simp <;> omega) _ | refine Gr.trans ?_ (by assumption)))).mono ?_); rintro e w1 ⟨rfl, hb⟩; obtain ⟨hc, hf⟩ := gcells hb (w.heap.size + 2) (by first | exact hz | omega | (simp; done) | (simp; omega)); have hz : w.heap.size + 2 ≤ w1.heap.size := (by have h := hb.size; (try simp at h); omega); have hz0 : w.heap.size < w1.heap.size := (by omega)))
  go_ret2
  exact ⟨rfl, (by repeat (first | (with_reducible exact Gr.refl _) | (with_reducible assumption) | (with_reducible refine Gr.alloc ?_ _) | (with_reducible refine Gr.drew ?_) | (with_reducible refine Gr.drewN ?_ _) | (with_reducible refine Gr.setCell ?_ (by simp <;> omega) _) | (with_reducible refine Gr.trans ?_ (by with_reducible assumption)) | exact Gr.refl _ | assumption | refine Gr.alloc ?_ _ | refine Gr.drew ?_ | refine Gr.drewN ?_ _ | refine Gr.setCell ?_ (by simp <;> omega) _ | refine Gr.trans ?_ (by assumption)))⟩
set_option maxHeartbeats 2000000 in
set_option maxRecDepth 100000 in
theorem reach_no (A : Option Addr) (n c : Nat) (gs : List (Int × ByteArray)) (nx k a l E : Int) (hE : ixE nx gs k = E) (h0 : E ≠ 0) (w : World) (hs : Sv w A n c 2 (sg gs)) (hb : Sh gs) :
    Calls Try.prog 57 #[.agg #[.slice A n c, .int .i64 nx], .agg #[.int .i64 k, .int .i64 a], .int .i64 l] w fun e w' => ∃ I, e = .returned (.tuple #[.int .i64 I, .int .i64 E]) ∧ Gr w w' := by
  have h1 : (E != 0) = true := by simp [h0]
  obtain ⟨I, hI⟩ : ∃ I, knI nx gs k = I := ⟨_, rfl⟩
  have HC := Lib.hid (fun W hg => known_is A n c gs nx k I E hI hE W (hs.gr hg) hb)
  clear hE h0 hI hs hb
  go_enter Try.func57, Try.ntmps57
  go_wp2_with ((go_at_call 53; (with_reducible refine (HC.out _ (by repeat (first | (with_reducible exact Gr.refl _) | (with_reducible assumption) | (with_reducible refine Gr.alloc ?_ _) | (with_reducible refine Gr.drew ?_) | (with_reducible refine Gr.drewN ?_ _) | (with_reducible refine Gr.setCell ?_ (by simp <;> omega) _) | (with_reducible refine Gr.trans ?_ (by with_reducible assumption)) | exact Gr.refl _ | assumption | refine Gr.alloc ?_ _ | refine Gr.drew ?_ | refine Gr.drewN ?_ _ | refine Gr.setCell ?_ (by simp <;> omega) _ | refine Gr.trans ?_ (by assumption)))).mono ?_); rintro e w1 ⟨rfl, hb⟩; obtain ⟨hc, hf⟩ := gcells hb (w.heap.size + 2) (by first | exact hz | omega | (simp; done) | (simp; omega)); have hz : w.heap.size + 2 ≤ w1.heap.size := (by have h := hb.size; (try simp at h); omega); have hz0 : w.heap.size < w1.heap.size := (by omega)))
  go_ret2
  exact ⟨I, rfl, (by repeat (first | (with_reducible exact Gr.refl _) | (with_reducible assumption) | (with_reducible refine Gr.alloc ?_ _) | (with_reducible refine Gr.drew ?_) | (with_reducible refine Gr.drewN ?_ _) | (with_reducible refine Gr.setCell ?_ (by simp <;> omega) _) | (with_reducible refine Gr.trans ?_ (by with_reducible assumption)) | exact Gr.refl _ | assumption | refine Gr.alloc ?_ _ | refine Gr.drew ?_ | refine Gr.drewN ?_ _ | refine Gr.setCell ?_ (by simp <;> omega) _ | refine Gr.trans ?_ (by assumption)))⟩

set_option maxHeartbeats 4000000 in
set_option maxRecDepth 100000 in
theorem indexWith_good (A : Option Addr) (n c : Nat) (gs : List (Int × ByteArray)) (nx k a l : Int) (hE : ixE nx gs k = 0) (hm : l ≤ 9223372036854775807) (w : World) (hs : Sv w A n c 2 (sg gs)) (hb : Sh gs) :
    Calls Try.prog 56 #[.agg #[.slice A n c, .int .i64 nx], .agg #[.int .i64 k, .int .i64 a], .int .i64 l] w fun e w' => e = .returned (.tuple #[.int .i64 (rgI (byG gs (fI gs k)) a l (fI gs k)), .int .i64 (rgE (byG gs (fI gs k)) a l)]) ∧ Gr w w' := by
  obtain ⟨e2, e3, e4, e5, e6⟩ := seg_right hE
  have HC := Lib.hid (fun W hg => indexOf_is A n c gs nx k _ 0 (ixI_is hE) hE W (hs.gr hg) hb)
  have hl := hs.segs
  have hxs := hb _ e2
  have hsz : (byG gs (fI gs k)).size ≤ 287 := by omega
  obtain ⟨b, o, rfl, hbl, -⟩ := hs.at_ (show 0 < n by omega)
  have HK := Lib.hid (fun W (hg : Gr w W) => (hs.gr hg).seg (show fI gs k < n by omega))
  have HS := Lib.hid hs
  have hin : fI gs k < n := by omega
  have hn : n ≤ 10 := by omega
  have hpg : 1 ≤ pgs (byG gs (fI gs k)) ∧ pgs (byG gs (fI gs k)) ≤ 8 := by unfold pgs; omega
  have HPG := Lib.hid (fun W => pagesOf_any (nuG gs (fI gs k)) (byG gs (fI gs k)) hxs W)
  clear HPG hpg
  clear hE hs hb e2 e3 e4 e5 e6 hl hxs
  generalize fI gs k = i at *
  generalize nuG gs i = m at *
  generalize byG gs i = x at *
  have hi1 : (i : Int) < n := by omega
  by_cases ha : a < 0
  · have HR := Lib.hid (show rgB x a l = false by unfold rgB; rw [decide_eq_false (by omega)]; rfl)
    go_enter Try.func56, Try.ntmps56
    go_upto_region 4 with (((go_at_call 49; (with_reducible refine (HC.out _ (by repeat (first | (with_reducible exact Gr.refl _) | (with_reducible assumption) | (with_reducible refine Gr.alloc ?_ _) | (with_reducible refine Gr.drew ?_) | (with_reducible refine Gr.drewN ?_ _) | (with_reducible refine Gr.setCell ?_ (by simp <;> omega) _) | (with_reducible refine Gr.trans ?_ (by with_reducible assumption)) | exact Gr.refl _ | assumption | refine Gr.alloc ?_ _ | refine Gr.drew ?_ | refine Gr.drewN ?_ _ | refine Gr.setCell ?_ (by simp <;> omega) _ | refine Gr.trans ?_ (by assumption)))).mono ?_); rintro e w1 ⟨rfl, hb⟩; obtain ⟨hc, hf⟩ := gcells hb (w.heap.size + 2) (by first | exact hz | omega | (simp; done) | (simp; omega)); have hz : w.heap.size + 2 ≤ w1.heap.size := (by have h := hb.size; (try simp at h); omega); have hz0 : w.heap.size < w1.heap.size := (by omega)); obtain ⟨k0, k1⟩ := HK.out _ (show Gr w w1 from (by repeat (first | (with_reducible exact Gr.refl _) | (with_reducible assumption) | (with_reducible refine Gr.alloc ?_ _) | (with_reducible refine Gr.drew ?_) | (with_reducible refine Gr.drewN ?_ _) | (with_reducible refine Gr.setCell ?_ (by simp <;> omega) _) | (with_reducible refine Gr.trans ?_ (by with_reducible assumption)) | exact Gr.refl _ | assumption | refine Gr.alloc ?_ _ | refine Gr.drew ?_ | refine Gr.drewN ?_ _ | refine Gr.setCell ?_ (by simp <;> omega) _ | refine Gr.trans ?_ (by assumption)))); have hbl1 : b < w1.heap.size := World.block_lt_of_cell? w1 _ k0; have hzz1 : w.heap.size + 1 < w1.heap.size := (by omega)))
    go_quiet (fail)
    go_wp2
    go_ret2
    exact ⟨by rw [(rg_no (by simp [HR.out]) i).1, (rg_no (by simp [HR.out]) i).2] <;> rfl, (by repeat (first | (with_reducible exact Gr.refl _) | (with_reducible assumption) | (with_reducible refine Gr.alloc ?_ _) | (with_reducible refine Gr.drew ?_) | (with_reducible refine Gr.drewN ?_ _) | (with_reducible refine Gr.setCell ?_ (by simp <;> omega) _) | (with_reducible refine Gr.trans ?_ (by with_reducible assumption)) | exact Gr.refl _ | assumption | refine Gr.alloc ?_ _ | refine Gr.drew ?_ | refine Gr.drewN ?_ _ | refine Gr.setCell ?_ (by simp <;> omega) _ | refine Gr.trans ?_ (by assumption)))⟩
  have ha' : decide (a < 0) = false := by simpa using ha
  have ha2 : 0 ≤ a := by omega
  clear ha
  by_cases hm0 : l < 0
  · have HR := Lib.hid (show rgB x a l = false by unfold rgB; rw [decide_eq_false (p := 0 ≤ l) (by omega)]; simp)
    go_enter Try.func56, Try.ntmps56
    go_upto_region 4 with (((go_at_call 49; (with_reducible refine (HC.out _ (by repeat (first | (with_reducible exact Gr.refl _) | (with_reducible assumption) | (with_reducible refine Gr.alloc ?_ _) | (with_reducible refine Gr.drew ?_) | (with_reducible refine Gr.drewN ?_ _) | (with_reducible refine Gr.setCell ?_ (by simp <;> omega) _) | (with_reducible refine Gr.trans ?_ (by with_reducible assumption)) | exact Gr.refl _ | assumption | refine Gr.alloc ?_ _ | refine Gr.drew ?_ | refine Gr.drewN ?_ _ | refine Gr.setCell ?_ (by simp <;> omega) _ | refine Gr.trans ?_ (by assumption)))).mono ?_); rintro e w1 ⟨rfl, hb⟩; obtain ⟨hc, hf⟩ := gcells hb (w.heap.size + 2) (by first | exact hz | omega | (simp; done) | (simp; omega)); have hz : w.heap.size + 2 ≤ w1.heap.size := (by have h := hb.size; (try simp at h); omega); have hz0 : w.heap.size < w1.heap.size := (by omega)); obtain ⟨k0, k1⟩ := HK.out _ (show Gr w w1 from (by repeat (first | (with_reducible exact Gr.refl _) | (with_reducible assumption) | (with_reducible refine Gr.alloc ?_ _) | (with_reducible refine Gr.drew ?_) | (with_reducible refine Gr.drewN ?_ _) | (with_reducible refine Gr.setCell ?_ (by simp <;> omega) _) | (with_reducible refine Gr.trans ?_ (by with_reducible assumption)) | exact Gr.refl _ | assumption | refine Gr.alloc ?_ _ | refine Gr.drew ?_ | refine Gr.drewN ?_ _ | refine Gr.setCell ?_ (by simp <;> omega) _ | refine Gr.trans ?_ (by assumption)))); have hbl1 : b < w1.heap.size := World.block_lt_of_cell? w1 _ k0; have hzz1 : w.heap.size + 1 < w1.heap.size := (by omega)))
    go_quiet (fail)
    go_wp2
    go_ret2
    exact ⟨by rw [(rg_no (by simp [HR.out]) i).1, (rg_no (by simp [HR.out]) i).2] <;> rfl, (by repeat (first | (with_reducible exact Gr.refl _) | (with_reducible assumption) | (with_reducible refine Gr.alloc ?_ _) | (with_reducible refine Gr.drew ?_) | (with_reducible refine Gr.drewN ?_ _) | (with_reducible refine Gr.setCell ?_ (by simp <;> omega) _) | (with_reducible refine Gr.trans ?_ (by with_reducible assumption)) | exact Gr.refl _ | assumption | refine Gr.alloc ?_ _ | refine Gr.drew ?_ | refine Gr.drewN ?_ _ | refine Gr.setCell ?_ (by simp <;> omega) _ | refine Gr.trans ?_ (by assumption)))⟩
  have hm' : decide (l < 0) = false := by simpa using hm0
  have hm2 : 0 ≤ l := by omega
  clear hm0
  have hsub : IntKind.i64.wrap ((x.size : Int) - l) = (x.size : Int) - l := IntWalk.i64_in _ (by omega)
  by_cases hg : (x.size : Int) - l < a
  · have HR := Lib.hid (show rgB x a l = false by unfold rgB; rw [decide_eq_false (p := a ≤ (x.size : Int) - l) (by omega)]; simp)
    go_enter Try.func56, Try.ntmps56
    go_upto_region 4 with (((go_at_call 49; (with_reducible refine (HC.out _ (by repeat (first | (with_reducible exact Gr.refl _) | (with_reducible assumption) | (with_reducible refine Gr.alloc ?_ _) | (with_reducible refine Gr.drew ?_) | (with_reducible refine Gr.drewN ?_ _) | (with_reducible refine Gr.setCell ?_ (by simp <;> omega) _) | (with_reducible refine Gr.trans ?_ (by with_reducible assumption)) | exact Gr.refl _ | assumption | refine Gr.alloc ?_ _ | refine Gr.drew ?_ | refine Gr.drewN ?_ _ | refine Gr.setCell ?_ (by simp <;> omega) _ | refine Gr.trans ?_ (by assumption)))).mono ?_); rintro e w1 ⟨rfl, hb⟩; obtain ⟨hc, hf⟩ := gcells hb (w.heap.size + 2) (by first | exact hz | omega | (simp; done) | (simp; omega)); have hz : w.heap.size + 2 ≤ w1.heap.size := (by have h := hb.size; (try simp at h); omega); have hz0 : w.heap.size < w1.heap.size := (by omega)); obtain ⟨k0, k1⟩ := HK.out _ (show Gr w w1 from (by repeat (first | (with_reducible exact Gr.refl _) | (with_reducible assumption) | (with_reducible refine Gr.alloc ?_ _) | (with_reducible refine Gr.drew ?_) | (with_reducible refine Gr.drewN ?_ _) | (with_reducible refine Gr.setCell ?_ (by simp <;> omega) _) | (with_reducible refine Gr.trans ?_ (by with_reducible assumption)) | exact Gr.refl _ | assumption | refine Gr.alloc ?_ _ | refine Gr.drew ?_ | refine Gr.drewN ?_ _ | refine Gr.setCell ?_ (by simp <;> omega) _ | refine Gr.trans ?_ (by assumption)))); have hbl1 : b < w1.heap.size := World.block_lt_of_cell? w1 _ k0; have hzz1 : w.heap.size + 1 < w1.heap.size := (by omega)))
    go_quiet (fail)
    go_wp2
    go_ret2
    exact ⟨by rw [(rg_no (by simp [HR.out]) i).1, (rg_no (by simp [HR.out]) i).2] <;> rfl, (by repeat (first | (with_reducible exact Gr.refl _) | (with_reducible assumption) | (with_reducible refine Gr.alloc ?_ _) | (with_reducible refine Gr.drew ?_) | (with_reducible refine Gr.drewN ?_ _) | (with_reducible refine Gr.setCell ?_ (by simp <;> omega) _) | (with_reducible refine Gr.trans ?_ (by with_reducible assumption)) | exact Gr.refl _ | assumption | refine Gr.alloc ?_ _ | refine Gr.drew ?_ | refine Gr.drewN ?_ _ | refine Gr.setCell ?_ (by simp <;> omega) _ | refine Gr.trans ?_ (by assumption)))⟩
  · have HR := Lib.hid (show rgB x a l = true by unfold rgB; rw [decide_eq_true ha2, decide_eq_true hm2, decide_eq_true (show a ≤ (x.size : Int) - l by omega)]; rfl)
    go_enter Try.func56, Try.ntmps56
    go_upto_region 4 with (((go_at_call 49; (with_reducible refine (HC.out _ (by repeat (first | (with_reducible exact Gr.refl _) | (with_reducible assumption) | (with_reducible refine Gr.alloc ?_ _) | (with_reducible refine Gr.drew ?_) | (with_reducible refine Gr.drewN ?_ _) | (with_reducible refine Gr.setCell ?_ (by simp <;> omega) _) | (with_reducible refine Gr.trans ?_ (by with_reducible assumption)) | exact Gr.refl _ | assumption | refine Gr.alloc ?_ _ | refine Gr.drew ?_ | refine Gr.drewN ?_ _ | refine Gr.setCell ?_ (by simp <;> omega) _ | refine Gr.trans ?_ (by assumption)))).mono ?_); rintro e w1 ⟨rfl, hb⟩; obtain ⟨hc, hf⟩ := gcells hb (w.heap.size + 2) (by first | exact hz | omega | (simp; done) | (simp; omega)); have hz : w.heap.size + 2 ≤ w1.heap.size := (by have h := hb.size; (try simp at h); omega); have hz0 : w.heap.size < w1.heap.size := (by omega)); obtain ⟨k0, k1⟩ := HK.out _ (show Gr w w1 from (by repeat (first | (with_reducible exact Gr.refl _) | (with_reducible assumption) | (with_reducible refine Gr.alloc ?_ _) | (with_reducible refine Gr.drew ?_) | (with_reducible refine Gr.drewN ?_ _) | (with_reducible refine Gr.setCell ?_ (by simp <;> omega) _) | (with_reducible refine Gr.trans ?_ (by with_reducible assumption)) | exact Gr.refl _ | assumption | refine Gr.alloc ?_ _ | refine Gr.drew ?_ | refine Gr.drewN ?_ _ | refine Gr.setCell ?_ (by simp <;> omega) _ | refine Gr.trans ?_ (by assumption)))); have hbl1 : b < w1.heap.size := World.block_lt_of_cell? w1 _ k0; have hzz1 : w.heap.size + 1 < w1.heap.size := (by omega)))
    go_quiet (fail)
    go_wp2
    go_ret2
    exact ⟨by rw [(rg_yes HR.out i).1, (rg_yes HR.out i).2] <;> rfl, (by repeat (first | (with_reducible exact Gr.refl _) | (with_reducible assumption) | (with_reducible refine Gr.alloc ?_ _) | (with_reducible refine Gr.drew ?_) | (with_reducible refine Gr.drewN ?_ _) | (with_reducible refine Gr.setCell ?_ (by simp <;> omega) _) | (with_reducible refine Gr.trans ?_ (by with_reducible assumption)) | exact Gr.refl _ | assumption | refine Gr.alloc ?_ _ | refine Gr.drew ?_ | refine Gr.drewN ?_ _ | refine Gr.setCell ?_ (by simp <;> omega) _ | refine Gr.trans ?_ (by assumption)))⟩

set_option maxHeartbeats 4000000 in
set_option maxRecDepth 100000 in
theorem reach_good (A : Option Addr) (n c : Nat) (gs : List (Int × ByteArray)) (nx k a l : Int) (hE : ixE nx gs k = 0) (w : World) (hs : Sv w A n c 2 (sg gs)) (hb : Sh gs) :
    Calls Try.prog 57 #[.agg #[.slice A n c, .int .i64 nx], .agg #[.int .i64 k, .int .i64 a], .int .i64 l] w fun e w' => e = .returned (.tuple #[.int .i64 (fI gs k), .int .i64 (rgE (byG gs (fI gs k)) a l)]) ∧ Gr w w' := by
  obtain ⟨e2, e3, e4, e5, e6⟩ := seg_right hE
  have HC := Lib.hid (fun W hg => known_is A n c gs nx k _ 0 ((fun h => (ix_zero h).2.2.2.2) hE) hE W (hs.gr hg) hb)
  have hl := hs.segs
  have hxs := hb _ e2
  have hsz : (byG gs (fI gs k)).size ≤ 287 := by omega
  obtain ⟨b, o, rfl, hbl, -⟩ := hs.at_ (show 0 < n by omega)
  have HK := Lib.hid (fun W (hg : Gr w W) => (hs.gr hg).seg (show fI gs k < n by omega))
  have HS := Lib.hid hs
  have hin : fI gs k < n := by omega
  have hn : n ≤ 10 := by omega
  have hpg : 1 ≤ pgs (byG gs (fI gs k)) ∧ pgs (byG gs (fI gs k)) ≤ 8 := by unfold pgs; omega
  have HPG := Lib.hid (fun W => Pages_any (byG gs (fI gs k)) hxs W)
  clear HPG hpg
  clear hE hs hb e2 e3 e4 e5 e6 hl hxs
  generalize fI gs k = i at *
  generalize nuG gs i = m at *
  generalize byG gs i = x at *
  have hi1 : (i : Int) < n := by omega
  rcases Bool.eq_false_or_eq_true (wiB a 0 x.size) with h1 | h1
  rotate_left
  · have HR := Lib.hid (show ¬ rgB x a l = true by intro h; have := rgB_iff.1 h; rw [wiB_yes (by omega) (by omega)] at h1; cases h1)
    have H1 := Lib.hid h1
    go_enter Try.func57, Try.ntmps57
    go_wp2_with (first | ((go_at_call 53; (with_reducible refine (HC.out _ (by repeat (first | (with_reducible exact Gr.refl _) | (with_reducible assumption) | (with_reducible refine Gr.alloc ?_ _) | (with_reducible refine Gr.drew ?_) | (with_reducible refine Gr.drewN ?_ _) | (with_reducible refine Gr.setCell ?_ (by simp <;> omega) _) | (with_reducible refine Gr.trans ?_ (by with_reducible assumption)) | exact Gr.refl _ | assumption | refine Gr.alloc ?_ _ | refine Gr.drew ?_ | refine Gr.drewN ?_ _ | refine Gr.setCell ?_ (by simp <;> omega) _ | refine Gr.trans ?_ (by assumption)))).mono ?_); rintro e w1 ⟨rfl, hb⟩; obtain ⟨hc, hf⟩ := gcells hb (w.heap.size + 2) (by first | exact hz | omega | (simp; done) | (simp; omega)); have hz : w.heap.size + 2 ≤ w1.heap.size := (by have h := hb.size; (try simp at h); omega); have hz0 : w.heap.size < w1.heap.size := (by omega)); obtain ⟨k0, k1⟩ := HK.out _ (show Gr w w1 from (by repeat (first | (with_reducible exact Gr.refl _) | (with_reducible assumption) | (with_reducible refine Gr.alloc ?_ _) | (with_reducible refine Gr.drew ?_) | (with_reducible refine Gr.drewN ?_ _) | (with_reducible refine Gr.setCell ?_ (by simp <;> omega) _) | (with_reducible refine Gr.trans ?_ (by with_reducible assumption)) | exact Gr.refl _ | assumption | refine Gr.alloc ?_ _ | refine Gr.drew ?_ | refine Gr.drewN ?_ _ | refine Gr.setCell ?_ (by simp <;> omega) _ | refine Gr.trans ?_ (by assumption)))); have hbl1 : b < w1.heap.size := World.block_lt_of_cell? w1 _ k0; have hzz1 : w.heap.size + 1 < w1.heap.size := (by omega)) | (go_at_call 42; (with_reducible refine (Within_is _ _ _ _ H1.out _).mono ?_); rintro e w1 ⟨rfl, rfl⟩))
    go_ret2
    exact ⟨by rw [(rg_no HR.out i).1] <;> rfl, (by repeat (first | (with_reducible exact Gr.refl _) | (with_reducible assumption) | (with_reducible refine Gr.alloc ?_ _) | (with_reducible refine Gr.drew ?_) | (with_reducible refine Gr.drewN ?_ _) | (with_reducible refine Gr.setCell ?_ (by simp <;> omega) _) | (with_reducible refine Gr.trans ?_ (by with_reducible assumption)) | exact Gr.refl _ | assumption | refine Gr.alloc ?_ _ | refine Gr.drew ?_ | refine Gr.drewN ?_ _ | refine Gr.setCell ?_ (by simp <;> omega) _ | refine Gr.trans ?_ (by assumption)))⟩
  have ha := wiB_iff.1 h1
  have ha0 := ha.1
  have ha1 := ha.2
  have H1 := Lib.hid h1
  have hsub : IntKind.i64.wrap ((x.size : Int) - a) = (x.size : Int) - a := IntWalk.i64_in _ (by omega)
  rcases Bool.eq_false_or_eq_true (wiB l 0 ((x.size : Int) - a)) with h2 | h2
  · have HR := Lib.hid (show rgB x a l = true by have := wiB_iff.1 h2; exact rgB_iff.2 (by omega))
    have H2 := Lib.hid h2
    clear h1 h2 ha
    go_enter Try.func57, Try.ntmps57
    go_wp2_with (first | ((go_at_call 53; (with_reducible refine (HC.out _ (by repeat (first | (with_reducible exact Gr.refl _) | (with_reducible assumption) | (with_reducible refine Gr.alloc ?_ _) | (with_reducible refine Gr.drew ?_) | (with_reducible refine Gr.drewN ?_ _) | (with_reducible refine Gr.setCell ?_ (by simp <;> omega) _) | (with_reducible refine Gr.trans ?_ (by with_reducible assumption)) | exact Gr.refl _ | assumption | refine Gr.alloc ?_ _ | refine Gr.drew ?_ | refine Gr.drewN ?_ _ | refine Gr.setCell ?_ (by simp <;> omega) _ | refine Gr.trans ?_ (by assumption)))).mono ?_); rintro e w1 ⟨rfl, hb⟩; obtain ⟨hc, hf⟩ := gcells hb (w.heap.size + 2) (by first | exact hz | omega | (simp; done) | (simp; omega)); have hz : w.heap.size + 2 ≤ w1.heap.size := (by have h := hb.size; (try simp at h); omega); have hz0 : w.heap.size < w1.heap.size := (by omega)); obtain ⟨k0, k1⟩ := HK.out _ (show Gr w w1 from (by repeat (first | (with_reducible exact Gr.refl _) | (with_reducible assumption) | (with_reducible refine Gr.alloc ?_ _) | (with_reducible refine Gr.drew ?_) | (with_reducible refine Gr.drewN ?_ _) | (with_reducible refine Gr.setCell ?_ (by simp <;> omega) _) | (with_reducible refine Gr.trans ?_ (by with_reducible assumption)) | exact Gr.refl _ | assumption | refine Gr.alloc ?_ _ | refine Gr.drew ?_ | refine Gr.drewN ?_ _ | refine Gr.setCell ?_ (by simp <;> omega) _ | refine Gr.trans ?_ (by assumption)))); have hbl1 : b < w1.heap.size := World.block_lt_of_cell? w1 _ k0; have hzz1 : w.heap.size + 1 < w1.heap.size := (by omega)) | (go_at_call 42; (with_reducible refine (Within_is _ _ _ _ H1.out _).mono ?_); rintro e w1 ⟨rfl, rfl⟩) | (go_at_call 42; (with_reducible refine (Within_is _ _ _ _ H2.out _).mono ?_); rintro e w1 ⟨rfl, rfl⟩))
    go_ret2
    exact ⟨by rw [(rg_yes HR.out i).1] <;> rfl, (by repeat (first | (with_reducible exact Gr.refl _) | (with_reducible assumption) | (with_reducible refine Gr.alloc ?_ _) | (with_reducible refine Gr.drew ?_) | (with_reducible refine Gr.drewN ?_ _) | (with_reducible refine Gr.setCell ?_ (by simp <;> omega) _) | (with_reducible refine Gr.trans ?_ (by with_reducible assumption)) | exact Gr.refl _ | assumption | refine Gr.alloc ?_ _ | refine Gr.drew ?_ | refine Gr.drewN ?_ _ | refine Gr.setCell ?_ (by simp <;> omega) _ | refine Gr.trans ?_ (by assumption)))⟩
  · have HR := Lib.hid (show ¬ rgB x a l = true by intro h; have := rgB_iff.1 h; rw [wiB_yes (by omega) (by omega)] at h2; cases h2)
    have H2 := Lib.hid h2
    clear h1 h2 ha
    go_enter Try.func57, Try.ntmps57
    go_wp2_with (first | ((go_at_call 53; (with_reducible refine (HC.out _ (by repeat (first | (with_reducible exact Gr.refl _) | (with_reducible assumption) | (with_reducible refine Gr.alloc ?_ _) | (with_reducible refine Gr.drew ?_) | (with_reducible refine Gr.drewN ?_ _) | (with_reducible refine Gr.setCell ?_ (by simp <;> omega) _) | (with_reducible refine Gr.trans ?_ (by with_reducible assumption)) | exact Gr.refl _ | assumption | refine Gr.alloc ?_ _ | refine Gr.drew ?_ | refine Gr.drewN ?_ _ | refine Gr.setCell ?_ (by simp <;> omega) _ | refine Gr.trans ?_ (by assumption)))).mono ?_); rintro e w1 ⟨rfl, hb⟩; obtain ⟨hc, hf⟩ := gcells hb (w.heap.size + 2) (by first | exact hz | omega | (simp; done) | (simp; omega)); have hz : w.heap.size + 2 ≤ w1.heap.size := (by have h := hb.size; (try simp at h); omega); have hz0 : w.heap.size < w1.heap.size := (by omega)); obtain ⟨k0, k1⟩ := HK.out _ (show Gr w w1 from (by repeat (first | (with_reducible exact Gr.refl _) | (with_reducible assumption) | (with_reducible refine Gr.alloc ?_ _) | (with_reducible refine Gr.drew ?_) | (with_reducible refine Gr.drewN ?_ _) | (with_reducible refine Gr.setCell ?_ (by simp <;> omega) _) | (with_reducible refine Gr.trans ?_ (by with_reducible assumption)) | exact Gr.refl _ | assumption | refine Gr.alloc ?_ _ | refine Gr.drew ?_ | refine Gr.drewN ?_ _ | refine Gr.setCell ?_ (by simp <;> omega) _ | refine Gr.trans ?_ (by assumption)))); have hbl1 : b < w1.heap.size := World.block_lt_of_cell? w1 _ k0; have hzz1 : w.heap.size + 1 < w1.heap.size := (by omega)) | (go_at_call 42; (with_reducible refine (Within_is _ _ _ _ H1.out _).mono ?_); rintro e w1 ⟨rfl, rfl⟩) | (go_at_call 42; (with_reducible refine (Within_is _ _ _ _ H2.out _).mono ?_); rintro e w1 ⟨rfl, rfl⟩))
    go_ret2
    exact ⟨by rw [(rg_no HR.out i).1] <;> rfl, (by repeat (first | (with_reducible exact Gr.refl _) | (with_reducible assumption) | (with_reducible refine Gr.alloc ?_ _) | (with_reducible refine Gr.drew ?_) | (with_reducible refine Gr.drewN ?_ _) | (with_reducible refine Gr.setCell ?_ (by simp <;> omega) _) | (with_reducible refine Gr.trans ?_ (by with_reducible assumption)) | exact Gr.refl _ | assumption | refine Gr.alloc ?_ _ | refine Gr.drew ?_ | refine Gr.drewN ?_ _ | refine Gr.setCell ?_ (by simp <;> omega) _ | refine Gr.trans ?_ (by assumption)))⟩

theorem iwE_zero {nx k a l : Int} {gs : List (Int × ByteArray)} (h : iwE nx gs k a l = 0) : ixE nx gs k = 0 ∧ rgB (byG gs (fI gs k)) a l = true := by
  by_cases h1 : ixE nx gs k = 0
  · refine ⟨h1, ?_⟩
    rcases Bool.eq_false_or_eq_true (rgB (byG gs (fI gs k)) a l) with h2 | h2
    · exact h2
    · rw [iwE_range h1 h2] at h; omega
  · rw [iwE_no h1] at h; exact absurd h h1
theorem indexWith_bad (A : Option Addr) (n c : Nat) (gs : List (Int × ByteArray)) (nx k a l E : Int) (hE : iwE nx gs k a l = E) (h0 : E ≠ 0) (hm : l ≤ 9223372036854775807) (w : World) (hs : Sv w A n c 2 (sg gs)) (hb : Sh gs) :
    Calls Try.prog 56 #[.agg #[.slice A n c, .int .i64 nx], .agg #[.int .i64 k, .int .i64 a], .int .i64 l] w fun e w' => e = .returned (.tuple #[.int .i64 0, .int .i64 E]) ∧ Gr w w' := by
  by_cases h1 : ixE nx gs k = 0
  · rcases Bool.eq_false_or_eq_true (rgB (byG gs (fI gs k)) a l) with h2 | h2
    · rw [iwE_yes h1 h2] at hE; exact absurd hE.symm h0
    · rw [iwE_range h1 h2] at hE
      have hr := rg_no (x := byG gs (fI gs k)) (a := a) (l := l) (by simp [h2]) (fI gs k)
      have := indexWith_good A n c gs nx k a l h1 hm w hs hb
      rw [hr.1, hr.2, hE] at this
      exact this
  · rw [iwE_no h1] at hE
    exact indexWith_no A n c gs nx k a l E hE h0 w hs hb
theorem reach_bad (A : Option Addr) (n c : Nat) (gs : List (Int × ByteArray)) (nx k a l E : Int) (hE : iwE nx gs k a l = E) (h0 : E ≠ 0) (w : World) (hs : Sv w A n c 2 (sg gs)) (hb : Sh gs) :
    Calls Try.prog 57 #[.agg #[.slice A n c, .int .i64 nx], .agg #[.int .i64 k, .int .i64 a], .int .i64 l] w fun e w' => ∃ I, e = .returned (.tuple #[.int .i64 I, .int .i64 E]) ∧ Gr w w' := by
  by_cases h1 : ixE nx gs k = 0
  · rcases Bool.eq_false_or_eq_true (rgB (byG gs (fI gs k)) a l) with h2 | h2
    · rw [iwE_yes h1 h2] at hE; exact absurd hE.symm h0
    · rw [iwE_range h1 h2] at hE
      have hr := rg_no (x := byG gs (fI gs k)) (a := a) (l := l) (by simp [h2]) (fI gs k)
      have := reach_good A n c gs nx k a l h1 w hs hb
      rw [hr.1, hE] at this
      exact this.mono fun e w' h => ⟨_, h⟩
  · rw [iwE_no h1] at hE
    exact reach_no A n c gs nx k a l E hE h0 w hs hb
theorem indexWith_ok (A : Option Addr) (n c : Nat) (gs : List (Int × ByteArray)) (nx k a l : Int) (hE : iwE nx gs k a l = 0) (hm : l ≤ 9223372036854775807) (w : World) (hs : Sv w A n c 2 (sg gs)) (hb : Sh gs) :
    Calls Try.prog 56 #[.agg #[.slice A n c, .int .i64 nx], .agg #[.int .i64 k, .int .i64 a], .int .i64 l] w fun e w' => e = .returned (.tuple #[.int .i64 (fI gs k), .int .i64 0]) ∧ Gr w w' := by
  obtain ⟨h1, h2⟩ := iwE_zero hE
  have hr := rg_yes h2 (fI gs k)
  have := indexWith_good A n c gs nx k a l h1 hm w hs hb
  rw [hr.1, hr.2] at this
  exact this
theorem reach_ok (A : Option Addr) (n c : Nat) (gs : List (Int × ByteArray)) (nx k a l : Int) (hE : iwE nx gs k a l = 0) (w : World) (hs : Sv w A n c 2 (sg gs)) (hb : Sh gs) :
    Calls Try.prog 57 #[.agg #[.slice A n c, .int .i64 nx], .agg #[.int .i64 k, .int .i64 a], .int .i64 l] w fun e w' => e = .returned (.tuple #[.int .i64 (fI gs k), .int .i64 0]) ∧ Gr w w' := by
  obtain ⟨h1, h2⟩ := iwE_zero hE
  have hr := rg_yes h2 (fI gs k)
  have := reach_good A n c gs nx k a l h1 w hs hb
  rw [hr.1] at this
  exact this
end Go.Proofs.Ytljminmfldejnaa
