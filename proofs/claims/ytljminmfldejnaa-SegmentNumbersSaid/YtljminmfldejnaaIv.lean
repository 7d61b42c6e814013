/- The program's Undo. -/
import Derived.Test.YtljminmfldejnaaIu
namespace Go.Proofs.Ytljminmfldejnaa
set_option linter.unusedSimpArgs false
set_option linter.unusedVariables false
open Go.RowKit

/-- What Undo returns. -/
def UnR (l : List (Int × Int × Int × Int × ByteArray)) (E : Int) (w : World) (e : Ending) (w' : World) : Prop :=
  ∃ A c, e = .returned (.tuple #[.slice A l.length c, .int .i64 E]) ∧ Sv w' A l.length c 5 (oc l) ∧ Gr w w'
/-- The operations that lead back. -/
def unL (gs : List (Int × ByteArray)) (kd sn o pg : Int) (b : ByteArray) : List (Int × Int × Int × Int × ByteArray) :=
  if kd = 1 then [(2, sn, 0, pgs (byG gs (fI gs sn)), ⟨#[]⟩)] else if kd = 2 then pbL sn (byG gs (fI gs sn)) pg.toNat else bbL sn (byG gs (fI gs sn)) o.toNat b
def HAp (n : Nat) (nx : Int) (L : Nat) (kd sn o pg : Int) (b : ByteArray) (g' : List (Int × ByteArray)) (x' N' E' : Int) (A : Option Addr) (c : Nat) (w : World) : Prop :=
  ∀ W B cb, Sv W B 1 cb 5 [.int .i64 kd, .int .i64 sn, .int .i64 o, .int .i64 pg, .string b] → Gr w W → Calls Try.prog 33 #[.agg #[.slice A n c, .int .i64 nx], .slice B 1 cb] W fun e w' =>
    ∃ A c, e = .returned (.tuple #[.agg #[.slice A g'.length c, .int .i64 x'], .int .i64 N', .int .i64 E']) ∧ Sv w' A g'.length c 2 (sg g') ∧ (∀ a, A = some a → 0 < g'.length → W.heap.size ≤ a.block) ∧ Gr W w'
theorem hAp (A : Option Addr) (n c : Nat) (gs : List (Int × ByteArray)) (nx kd sn o pg : Int) (b : ByteArray) (hd : b.size ≤ maxLen) (w : World) (hs : Sv w A n c 2 (sg gs)) (hb : Sh gs) (g' : List (Int × ByteArray)) (x' N' E' : Int) (hr : alR nx gs [(kd, sn, o, pg, b)] = (g', x', N', E')) : HAp n nx 1 kd sn o pg b g' x' N' E' A c w := fun W B cb hB hg => by
  have h := (al_both A B n c 1 cb gs nx [(kd, sn, o, pg, b)] W (hs.gr hg) hb hB (fun i hi => by
    obtain rfl : i = 0 := by simpa using hi
    exact hd)).1
  rw [hr] at h
  exact h

set_option maxHeartbeats 2000000 in
set_option maxRecDepth 100000 in
theorem Undo_err (A : Option Addr) (n c : Nat) (nx kd sn o pg : Int) (b : ByteArray) (g' : List (Int × ByteArray)) (x' N' E' : Int) (h0 : E' ≠ 0) (w : World) (HA : HAp n nx 1 kd sn o pg b g' x' N' E' A c w) :
    Calls Try.prog 36 #[.agg #[.slice A n c, .int .i64 nx], .agg #[.int .i64 kd, .int .i64 sn, .int .i64 o, .int .i64 pg, .string b]] w (UnR [] E' w) := by
  have h1 : (E' != 0) = true := by simp [h0]
  unfold HAp at HA
  have HA := Lib.hid HA
  clear h0
  go_enter Try.func36, Try.ntmps36
  go_wp2_with (go_at_call 33; (with_reducible refine (HA.out _ (some ⟨w.heap.size + 1 + 1, 0, none⟩) 1 (by have h := Sv.new5 ((w.alloc (.cells #[.slice A n c, .int .i64 nx] 24)).alloc (.cells #[(.int .i64 kd), .int .i64 sn, .int .i64 o, .int .i64 pg, .string b] 62)) (.int .i64 kd) (.int .i64 sn) (.int .i64 o) (.int .i64 pg) (.string b) 62; simp only [World.size_alloc] at h; exact h) (by repeat (first | (with_reducible exact Gr.refl _) | (with_reducible assumption) | (with_reducible refine Gr.alloc ?_ _) | (with_reducible refine Gr.drew ?_) | (with_reducible refine Gr.drewN ?_ _) | (with_reducible refine Gr.setCell ?_ (by simp <;> omega) _) | (with_reducible refine Gr.trans ?_ (by with_reducible assumption)) | exact Gr.refl _ | assumption | refine Gr.alloc ?_ _ | refine Gr.drew ?_ | refine Gr.drewN ?_ _ | refine Gr.setCell ?_ (by simp <;> omega) _ | refine Gr.trans ?_ (by assumption)))).mono ?_); rintro e w1 ⟨A1, c1, rfl, hV1, hne1, hb⟩; clear hV1 hne1; obtain ⟨hc, hf⟩ := gcells hb (w.heap.size + 2) (by first | exact hz | (simp; done) | (simp; omega) | omega); have hz : w.heap.size + 2 ≤ w1.heap.size := (by have h := Gr.size hb; (try simp at h); omega); have hz0 : w.heap.size < w1.heap.size := (by omega); have hz1 : w.heap.size + 1 < w1.heap.size := (by omega))
  go_ret2
  exact ⟨none, 0, rfl, Sv.nil _ _, (by repeat (first | (with_reducible exact Gr.refl _) | (with_reducible assumption) | (with_reducible refine Gr.alloc ?_ _) | (with_reducible refine Gr.drew ?_) | (with_reducible refine Gr.drewN ?_ _) | (with_reducible refine Gr.setCell ?_ (by simp <;> omega) _) | (with_reducible refine Gr.trans ?_ (by with_reducible assumption)) | exact Gr.refl _ | assumption | refine Gr.alloc ?_ _ | refine Gr.drew ?_ | refine Gr.drewN ?_ _ | refine Gr.setCell ?_ (by simp <;> omega) _ | refine Gr.trans ?_ (by assumption)))⟩
set_option maxHeartbeats 2000000 in
set_option maxRecDepth 100000 in
theorem Undo_ref (A : Option Addr) (n c : Nat) (nx kd sn o pg : Int) (b : ByteArray) (g' : List (Int × ByteArray)) (x' N' : Int) (hk : kd = 0 ∨ kd = 3) (w : World) (HA : HAp n nx 1 kd sn o pg b g' x' N' 0 A c w) :
    Calls Try.prog 36 #[.agg #[.slice A n c, .int .i64 nx], .agg #[.int .i64 kd, .int .i64 sn, .int .i64 o, .int .i64 pg, .string b]] w (UnR [] 39 w) := by
  unfold HAp at HA
  have HA := Lib.hid HA
  rcases hk with rfl | rfl
  · go_enter Try.func36, Try.ntmps36
    go_wp2_with (go_at_call 33; (with_reducible refine (HA.out _ (some ⟨w.heap.size + 1 + 1, 0, none⟩) 1 (by have h := Sv.new5 ((w.alloc (.cells #[.slice A n c, .int .i64 nx] 24)).alloc (.cells #[(.int .i64 0), .int .i64 sn, .int .i64 o, .int .i64 pg, .string b] 62)) (.int .i64 0) (.int .i64 sn) (.int .i64 o) (.int .i64 pg) (.string b) 62; simp only [World.size_alloc] at h; exact h) (by repeat (first | (with_reducible exact Gr.refl _) | (with_reducible assumption) | (with_reducible refine Gr.alloc ?_ _) | (with_reducible refine Gr.drew ?_) | (with_reducible refine Gr.drewN ?_ _) | (with_reducible refine Gr.setCell ?_ (by simp <;> omega) _) | (with_reducible refine Gr.trans ?_ (by with_reducible assumption)) | exact Gr.refl _ | assumption | refine Gr.alloc ?_ _ | refine Gr.drew ?_ | refine Gr.drewN ?_ _ | refine Gr.setCell ?_ (by simp <;> omega) _ | refine Gr.trans ?_ (by assumption)))).mono ?_); rintro e w1 ⟨A1, c1, rfl, hV1, hne1, hb⟩; clear hV1 hne1; obtain ⟨hc, hf⟩ := gcells hb (w.heap.size + 2) (by first | exact hz | (simp; done) | (simp; omega) | omega); have hz : w.heap.size + 2 ≤ w1.heap.size := (by have h := Gr.size hb; (try simp at h); omega); have hz0 : w.heap.size < w1.heap.size := (by omega); have hz1 : w.heap.size + 1 < w1.heap.size := (by omega))
    go_ret2
    exact ⟨none, 0, rfl, Sv.nil _ _, (by repeat (first | (with_reducible exact Gr.refl _) | (with_reducible assumption) | (with_reducible refine Gr.alloc ?_ _) | (with_reducible refine Gr.drew ?_) | (with_reducible refine Gr.drewN ?_ _) | (with_reducible refine Gr.setCell ?_ (by simp <;> omega) _) | (with_reducible refine Gr.trans ?_ (by with_reducible assumption)) | exact Gr.refl _ | assumption | refine Gr.alloc ?_ _ | refine Gr.drew ?_ | refine Gr.drewN ?_ _ | refine Gr.setCell ?_ (by simp <;> omega) _ | refine Gr.trans ?_ (by assumption)))⟩
  · go_enter Try.func36, Try.ntmps36
    go_wp2_with (go_at_call 33; (with_reducible refine (HA.out _ (some ⟨w.heap.size + 1 + 1, 0, none⟩) 1 (by have h := Sv.new5 ((w.alloc (.cells #[.slice A n c, .int .i64 nx] 24)).alloc (.cells #[(.int .i64 3), .int .i64 sn, .int .i64 o, .int .i64 pg, .string b] 62)) (.int .i64 3) (.int .i64 sn) (.int .i64 o) (.int .i64 pg) (.string b) 62; simp only [World.size_alloc] at h; exact h) (by repeat (first | (with_reducible exact Gr.refl _) | (with_reducible assumption) | (with_reducible refine Gr.alloc ?_ _) | (with_reducible refine Gr.drew ?_) | (with_reducible refine Gr.drewN ?_ _) | (with_reducible refine Gr.setCell ?_ (by simp <;> omega) _) | (with_reducible refine Gr.trans ?_ (by with_reducible assumption)) | exact Gr.refl _ | assumption | refine Gr.alloc ?_ _ | refine Gr.drew ?_ | refine Gr.drewN ?_ _ | refine Gr.setCell ?_ (by simp <;> omega) _ | refine Gr.trans ?_ (by assumption)))).mono ?_); rintro e w1 ⟨A1, c1, rfl, hV1, hne1, hb⟩; clear hV1 hne1; obtain ⟨hc, hf⟩ := gcells hb (w.heap.size + 2) (by first | exact hz | (simp; done) | (simp; omega) | omega); have hz : w.heap.size + 2 ≤ w1.heap.size := (by have h := Gr.size hb; (try simp at h); omega); have hz0 : w.heap.size < w1.heap.size := (by omega); have hz1 : w.heap.size + 1 < w1.heap.size := (by omega))
    go_ret2
    exact ⟨none, 0, rfl, Sv.nil _ _, (by repeat (first | (with_reducible exact Gr.refl _) | (with_reducible assumption) | (with_reducible refine Gr.alloc ?_ _) | (with_reducible refine Gr.drew ?_) | (with_reducible refine Gr.drewN ?_ _) | (with_reducible refine Gr.setCell ?_ (by simp <;> omega) _) | (with_reducible refine Gr.trans ?_ (by with_reducible assumption)) | exact Gr.refl _ | assumption | refine Gr.alloc ?_ _ | refine Gr.drew ?_ | refine Gr.drewN ?_ _ | refine Gr.setCell ?_ (by simp <;> omega) _ | refine Gr.trans ?_ (by assumption)))⟩

set_option maxHeartbeats 4000000 in
set_option maxRecDepth 100000 in
theorem Undo_ok (A : Option Addr) (n c : Nat) (gs : List (Int × ByteArray)) (nx kd sn o pg : Int) (b : ByteArray) (g' : List (Int × ByteArray)) (x' N' : Int) (hk0 : (kd == 0) = false) (hk3 : (kd == 3) = false) (hE : ixE nx gs sn = 0) (l : List (Int × Int × Int × Int × ByteArray)) (w : World) (hs : Sv w A n c 2 (sg gs)) (hb : Sh gs) (HA : HAp n nx 1 kd sn o pg b g' x' N' 0 A c w)
    (HB : ∀ W, Calls Try.prog 61 #[.agg #[.int .i64 sn, .string (byG gs (fI gs sn))], .agg #[.int .i64 kd, .int .i64 sn, .int .i64 o, .int .i64 pg, .string b]] W (OpsR l W)) :
    Calls Try.prog 36 #[.agg #[.slice A n c, .int .i64 nx], .agg #[.int .i64 kd, .int .i64 sn, .int .i64 o, .int .i64 pg, .string b]] w (UnR l 0 w) := by
  obtain ⟨e1, e2, e3, e4, e5⟩ := ix_zero hE
  have hl := hs.segs
  have hn10 := (st_right e1).1
  obtain ⟨ob, oo, rfl, hbl, -⟩ := hs.at_ (show 0 < n by omega)
  unfold HAp at HA
  have HA := Lib.hid HA
  have HB' := Lib.hid HB
  have HC := Lib.hid (fun W hg => indexOf_is (some ⟨ob, oo, none⟩) n c gs nx sn _ 0 e4 hE W (hs.gr hg) hb)
  have HK := Lib.hid (fun W (hg : Gr w W) => (hs.gr hg).seg (show fI gs sn < n by omega))
  rw [e3] at HK
  have hin : fI gs sn < n := by omega
  have hn : n ≤ 10 := by omega
  clear hE hs hb e1 e2 e3 e4 e5 hl HB
  generalize fI gs sn = i at *
  generalize byG gs i = x at *
  have hi1 : (i : Int) < n := by omega
  go_enter Try.func36, Try.ntmps36
  go_upto_region 7 with (first | (go_at_call 33; (with_reducible refine (HA.out _ (some ⟨w.heap.size + 1 + 1, 0, none⟩) 1 (by have h := Sv.new5 ((w.alloc (.cells #[.slice (some ⟨ob, oo, none⟩) n c, .int .i64 nx] 24)).alloc (.cells #[(.int .i64 kd), .int .i64 sn, .int .i64 o, .int .i64 pg, .string b] 62)) (.int .i64 kd) (.int .i64 sn) (.int .i64 o) (.int .i64 pg) (.string b) 62; simp only [World.size_alloc] at h; exact h) (by repeat (first | (with_reducible exact Gr.refl _) | (with_reducible assumption) | (with_reducible refine Gr.alloc ?_ _) | (with_reducible refine Gr.drew ?_) | (with_reducible refine Gr.drewN ?_ _) | (with_reducible refine Gr.setCell ?_ (by simp <;> omega) _) | (with_reducible refine Gr.trans ?_ (by with_reducible assumption)) | exact Gr.refl _ | assumption | refine Gr.alloc ?_ _ | refine Gr.drew ?_ | refine Gr.drewN ?_ _ | refine Gr.setCell ?_ (by simp <;> omega) _ | refine Gr.trans ?_ (by assumption)))).mono ?_); rintro e w1 ⟨A1, c1, rfl, hV1, hne1, hb⟩; clear hV1 hne1; obtain ⟨hc, hf⟩ := gcells hb (w.heap.size + 2) (by first | exact hz | (simp; done) | (simp; omega) | omega); have hz : w.heap.size + 2 ≤ w1.heap.size := (by have h := Gr.size hb; (try simp at h); omega); have hz0 : w.heap.size < w1.heap.size := (by omega); have hz1 : w.heap.size + 1 < w1.heap.size := (by omega)) | (go_at_call 49; (with_reducible refine (HC.out _ (by repeat (first | (with_reducible exact Gr.refl _) | (with_reducible assumption) | (with_reducible refine Gr.alloc ?_ _) | (with_reducible refine Gr.drew ?_) | (with_reducible refine Gr.drewN ?_ _) | (with_reducible refine Gr.setCell ?_ (by simp <;> omega) _) | (with_reducible refine Gr.trans ?_ (by with_reducible assumption)) | exact Gr.refl _ | assumption | refine Gr.alloc ?_ _ | refine Gr.drew ?_ | refine Gr.drewN ?_ _ | refine Gr.setCell ?_ (by simp <;> omega) _ | refine Gr.trans ?_ (by assumption)))).mono ?_); rintro e w2 ⟨rfl, hb⟩; obtain ⟨hc, hf⟩ := gcells hb (w.heap.size + 2) (by first | exact hz | (simp; done) | (simp; omega) | omega); have hz : w.heap.size + 2 ≤ w2.heap.size := (by have h := Gr.size hb; (try simp at h); omega); have hz0 : w.heap.size < w2.heap.size := (by omega); have hz1 : w.heap.size + 1 < w2.heap.size := (by omega)))
  have b0 : w2.cell? ⟨w.heap.size, 0, none⟩ = some (.slice (some ⟨ob, oo, none⟩) n c) := by simp [go_sem, *]
  have b1 : w2.cell? ⟨w.heap.size, 1, none⟩ = some (.int .i64 nx) := by simp [go_sem, *]
  have q0 : w2.cell? ⟨w.heap.size + 1, 0, none⟩ = some (.int .i64 kd) := by simp [go_sem, *]
  have q1 : w2.cell? ⟨w.heap.size + 1, 1, none⟩ = some (.int .i64 sn) := by simp [go_sem, *]
  have q2 : w2.cell? ⟨w.heap.size + 1, 2, none⟩ = some (.int .i64 o) := by simp [go_sem, *]
  have q3 : w2.cell? ⟨w.heap.size + 1, 3, none⟩ = some (.int .i64 pg) := by simp [go_sem, *]
  have q4 : w2.cell? ⟨w.heap.size + 1, 4, none⟩ = some (.string b) := by simp [go_sem, *]
  have G2 := Lib.hid (show Gr w w2 from (by repeat (first | (with_reducible exact Gr.refl _) | (with_reducible assumption) | (with_reducible refine Gr.alloc ?_ _) | (with_reducible refine Gr.drew ?_) | (with_reducible refine Gr.drewN ?_ _) | (with_reducible refine Gr.setCell ?_ (by simp <;> omega) _) | (with_reducible refine Gr.trans ?_ (by with_reducible assumption)) | exact Gr.refl _ | assumption | refine Gr.alloc ?_ _ | refine Gr.drew ?_ | refine Gr.drewN ?_ _ | refine Gr.setCell ?_ (by simp <;> omega) _ | refine Gr.trans ?_ (by assumption))))
  obtain ⟨k0, k1⟩ := HK.out _ G2.out
  clear hc hf hb HA HC HK
  generalize w2 = W2 at *
  go_region_held3 (fun w' => w'.cell? ⟨w.heap.size, 0, none⟩ = some (.slice (some ⟨ob, oo, none⟩) n c) ∧ w'.cell? ⟨w.heap.size, 1, none⟩ = some (.int .i64 nx) ∧ w'.cell? ⟨w.heap.size + 1, 0, none⟩ = some (.int .i64 kd) ∧ w'.cell? ⟨w.heap.size + 1, 1, none⟩ = some (.int .i64 sn) ∧ w'.cell? ⟨w.heap.size + 1, 2, none⟩ = some (.int .i64 o) ∧ w'.cell? ⟨w.heap.size + 1, 3, none⟩ = some (.int .i64 pg) ∧ w'.cell? ⟨w.heap.size + 1, 4, none⟩ = some (.string b) ∧ w'.cell? ⟨ob, oo + i * 2, none⟩ = some (.int .i64 sn) ∧ w'.cell? ⟨ob, oo + i * 2 + 1, none⟩ = some (.string x)) (((try go_split_ands); (repeat' apply And.intro) <;> ((try simp only [World.cell?_drew]); first | (with_reducible assumption) | (simp [go_sem]; done) | ((repeat (first | (refine keepFar ?_ (by first | (dsimp only; omega) | (simp; done) | (simp; omega))) | (refine (Gr.alloc (Gr.refl _) _).keep ?_))); (try simp only [World.cell?_drew]); first | (with_reducible assumption) | (refine hb.keep ?_; (try simp only [World.cell?_drew]); first | (with_reducible assumption) | (simp [go_sem]; done) | ((repeat (refine (Gr.alloc (Gr.refl _) _).keep ?_)); (try simp only [World.cell?_drew]); (with_reducible assumption))) | (simp [*, go_sem]; done)))))
    ((go_at_call 61; (with_reducible refine (HB'.out _).mono ?_); rintro e w4 ⟨A4, c4, rfl, hV, hb⟩))
  all_goals
    go_wp2
    go_ret2
    exact ⟨A4, c4, rfl, hV, G2.out.trans (by repeat (first | (with_reducible exact Gr.refl _) | (with_reducible assumption) | (with_reducible refine Gr.alloc ?_ _) | (with_reducible refine Gr.drew ?_) | (with_reducible refine Gr.drewN ?_ _) | (with_reducible refine Gr.setCell ?_ (by simp <;> omega) _) | (with_reducible refine Gr.trans ?_ (by with_reducible assumption)) | exact Gr.refl _ | assumption | refine Gr.alloc ?_ _ | refine Gr.drew ?_ | refine Gr.drewN ?_ _ | refine Gr.setCell ?_ (by simp <;> omega) _ | refine Gr.trans ?_ (by assumption)))⟩
end Go.Proofs.Ytljminmfldejnaa
