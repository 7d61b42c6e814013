/- The reference's Undo of a truncation. -/
import Derived.Test.YthbinjoiljddkaaJb
namespace Go.Proofs.Ythbinjoiljddkaa
set_option linter.unusedSimpArgs false
set_option linter.unusedVariables false
open Go.RowKit
set_option maxHeartbeats 4000000 in
set_option maxRecDepth 100000 in
theorem refUndo_2a (A : Option Addr) (n c : Nat) (gs : List (Int × ByteArray)) (nx sn o : Int) (q r : Nat) (b y z : ByteArray) (g' : List (Int × ByteArray)) (x' N' : Int) (hE : ixE nx gs sn = 0) (hx : (byG gs (fI gs sn)).size ≤ 100000) (hq : 32 * q + 32 * r = (byG gs (fI gs sn)).size) (hr : r ≤ 100) (hy : (byG gs (fI gs sn)).extract (32 * q) (byG gs (fI gs sn)).size = y) (hz : zP r = z) (hys : y.size = 32 * r)
    (hem : y.toList.isEmpty = true) (hem2 : (y.toList == ([] : List UInt8)) = true) (hem3 : (([] : List UInt8) == y.toList) = true) (hyz : (y.toList == z.toList) = true) (w : World) (hs : Sv w A n c 2 (sg gs)) (hb : Sh gs) (HA : HRp n nx 2 sn o q b g' x' N' 0 A c w) :
    Calls Try.prog 37 #[.agg #[.slice A n c, .int .i64 nx], .agg #[.int .i64 2, .int .i64 sn, .int .i64 o, .int .i64 q, .string b]] w (UnR [] 0 w) := by
  obtain ⟨e1, e2, e3, -, -⟩ := ix_zero hE
  have hl := hs.segs
  have hn10 := (st_right e1).1
  have hp : plI gs sn = (fI gs sn : Int) := pl_yes e2 rfl
  obtain ⟨ob, oo, rfl, hbl, -⟩ := hs.at_ (show 0 < n by omega)
  unfold HRp at HA
  have HA := Lib.hid HA
  have HS := Lib.hid hs
  have HP := Lib.hid hp
  have HK := Lib.hid (fun W (hg : Gr w W) => ((hs.gr hg).seg (show fI gs sn < n by omega)).2)
  have hin : fI gs sn < n := by omega
  have hn : n ≤ 10 := by omega
  obtain ⟨i0, hi, iz0, iz1, iz2⟩ := info_parts infoOp
  clear hE hs hb e1 e2 e3 hl hp hn10
  generalize fI gs sn = i at *
  generalize byG gs i = x at *
  have hi1 : (i : Int) < n := by omega
  have hwm : IntKind.i64.wrap ((q : Int) * 32) = (q : Int) * 32 := IntWalk.i64_in _ (by omega)
  have hsl := cut_i x ((q : Int) * 32) (32 * q) (by omega) (by omega)
  rw [hy] at hsl
  have HPG := fun W => Pages_any y (by unfold maxLen; omega) W
  have hpy : pgs y = (r : Int) := by unfold pgs; omega
  rw [hpy] at HPG
  have HPG := Lib.hid HPG
  have HZ := fun W => Zeros_any r (y.size : Int) (by rw [hys]) hr W
  rw [hz] at HZ
  have HZ := Lib.hid HZ
  clear hy hz hx hq hr hys hpy
  go_enter Try.func37, Try.ntmps37
  go_upto_region 6 with (go_at_call 35; (with_reducible refine (HA.out _ (some ⟨w.heap.size + 1 + 1, 0, none⟩) 1 (by have h := Sv.new5 ((w.alloc (.cells #[.slice (some ⟨ob, oo, none⟩) n c, .int .i64 nx] 24)).alloc (.cells #[(.int .i64 2), .int .i64 sn, .int .i64 o, .int .i64 q, .string b] 62)) (.int .i64 2) (.int .i64 sn) (.int .i64 o) (.int .i64 q) (.string b) 62; simp only [World.size_alloc] at h; exact h) (by repeat (first | (with_reducible exact Gr.refl _) | (with_reducible assumption) | (with_reducible refine Gr.alloc ?_ _) | (with_reducible refine Gr.drew ?_) | (with_reducible refine Gr.drewN ?_ _) | (with_reducible refine Gr.setCell ?_ (by simp <;> omega) _) | (with_reducible refine Gr.trans ?_ (by with_reducible assumption)) | exact Gr.refl _ | assumption | refine Gr.alloc ?_ _ | refine Gr.drew ?_ | refine Gr.drewN ?_ _ | refine Gr.setCell ?_ (by simp <;> omega) _ | refine Gr.trans ?_ (by assumption)))).mono ?_); rintro e w1 ⟨A1, c1, rfl, hV1, hb⟩; clear hV1; obtain ⟨hc, hf⟩ := gcells hb (w.heap.size + 2) (by first | exact hz | (simp; done) | (simp; omega) | omega); have hz : w.heap.size + 2 ≤ w1.heap.size := (by have h := Gr.size hb; (try simp at h); omega); have hz0 : w.heap.size < w1.heap.size := (by omega); have hz1 : w.heap.size + 1 < w1.heap.size := (by omega))
  have b0 : w1.cell? ⟨w.heap.size, 0, none⟩ = some (.slice (some ⟨ob, oo, none⟩) n c) := by simp [go_sem, *]
  have b1 : w1.cell? ⟨w.heap.size, 1, none⟩ = some (.int .i64 nx) := by simp [go_sem, *]
  have q0 : w1.cell? ⟨w.heap.size + 1, 0, none⟩ = some (.int .i64 2) := by simp [go_sem, *]
  have q1 : w1.cell? ⟨w.heap.size + 1, 1, none⟩ = some (.int .i64 sn) := by simp [go_sem, *]
  have q2 : w1.cell? ⟨w.heap.size + 1, 2, none⟩ = some (.int .i64 o) := by simp [go_sem, *]
  have q3 : w1.cell? ⟨w.heap.size + 1, 3, none⟩ = some (.int .i64 q) := by simp [go_sem, *]
  have q4 : w1.cell? ⟨w.heap.size + 1, 4, none⟩ = some (.string b) := by simp [go_sem, *]
  have hbX := (Gr.refl w1).alloc (.cells #[.slice A1 g'.length c1, .int .i64 x', .int .i64 N', .string ⟨#[]⟩, .int .i64 0] 39)
  have G1 := Lib.hid (show Gr w (w1.alloc (.cells #[.slice A1 g'.length c1, .int .i64 x', .int .i64 N', .string ⟨#[]⟩, .int .i64 0] 39)) from (by repeat (first | (with_reducible exact Gr.refl _) | (with_reducible assumption) | (with_reducible refine Gr.alloc ?_ _) | (with_reducible refine Gr.drew ?_) | (with_reducible refine Gr.drewN ?_ _) | (with_reducible refine Gr.setCell ?_ (by simp <;> omega) _) | (with_reducible refine Gr.trans ?_ (by with_reducible assumption)) | exact Gr.refl _ | assumption | refine Gr.alloc ?_ _ | refine Gr.drew ?_ | refine Gr.drewN ?_ _ | refine Gr.setCell ?_ (by simp <;> omega) _ | refine Gr.trans ?_ (by assumption))))
  have q0 := hbX.keep q0
  have q1 := hbX.keep q1
  have q2 := hbX.keep q2
  have q3 := hbX.keep q3
  have q4 := hbX.keep q4
  have b0 := hbX.keep b0
  have b1 := hbX.keep b1
  have k1 := HK.out _ G1.out
  have hz := World.block_lt_of_cell? _ _ b0
  have hz1 := World.block_lt_of_cell? _ _ q0
  clear hc hf hb HA HK hz0 hbX
  generalize w1.alloc (.cells #[.slice A1 g'.length c1, .int .i64 x', .int .i64 N', .string ⟨#[]⟩, .int .i64 0] 39) = W1 at *
  go_cut [7] (fun s7 wx => RuC W1 x s7 wx)
  case first =>
    go_region_held3 (fun w' => w'.cell? ⟨w.heap.size, 0, none⟩ = some (.slice (some ⟨ob, oo, none⟩) n c) ∧ w'.cell? ⟨w.heap.size, 1, none⟩ = some (.int .i64 nx) ∧ w'.cell? ⟨w.heap.size + 1, 0, none⟩ = some (.int .i64 2) ∧ w'.cell? ⟨w.heap.size + 1, 1, none⟩ = some (.int .i64 sn) ∧ w'.cell? ⟨w.heap.size + 1, 2, none⟩ = some (.int .i64 o) ∧ w'.cell? ⟨w.heap.size + 1, 3, none⟩ = some (.int .i64 q) ∧ w'.cell? ⟨w.heap.size + 1, 4, none⟩ = some (.string b) ∧ w'.cell? ⟨ob, oo + i * 2 + 1, none⟩ = some (.string x)) (((try go_split_ands); (repeat' apply And.intro) <;> ((try simp only [World.cell?_drew]); first | (with_reducible assumption) | (simp [go_sem]; done) | ((repeat (first | (refine keepFar ?_ (by first | (dsimp only; omega) | (simp; done) | (simp; omega))) | (refine (Gr.alloc (Gr.refl _) _).keep ?_))); (try simp only [World.cell?_drew]); first | (with_reducible assumption) | (refine hb.keep ?_; (try simp only [World.cell?_drew]); first | (with_reducible assumption) | (simp [go_sem]; done) | ((repeat (refine (Gr.alloc (Gr.refl _) _).keep ?_)); (try simp only [World.cell?_drew]); (with_reducible assumption))) | (simp [*, go_sem]; done)))))
      ((go_at_call 62; (with_reducible refine (Place_is (some ⟨ob, oo, none⟩) n c gs nx sn i HP.out _ (HS.out.gr (G1.out.trans (by repeat (first | (with_reducible exact Gr.refl _) | (with_reducible assumption) | (with_reducible refine Gr.alloc ?_ _) | (with_reducible refine Gr.drew ?_) | (with_reducible refine Gr.drewN ?_ _) | (with_reducible refine Gr.setCell ?_ (by simp <;> omega) _) | (with_reducible refine Gr.trans ?_ (by with_reducible assumption)) | exact Gr.refl _ | assumption | refine Gr.alloc ?_ _ | refine Gr.drew ?_ | refine Gr.drewN ?_ _ | refine Gr.setCell ?_ (by simp <;> omega) _ | refine Gr.trans ?_ (by assumption)))))).mono ?_); rintro e w3 ⟨rfl, hb⟩))
    all_goals
      go_wp2_with fail
      go_meet
      exact ⟨rfl, (by repeat (first | (with_reducible exact Gr.refl _) | (with_reducible assumption) | (with_reducible refine Gr.alloc ?_ _) | (with_reducible refine Gr.drew ?_) | (with_reducible refine Gr.drewN ?_ _) | (with_reducible refine Gr.setCell ?_ (by simp <;> omega) _) | (with_reducible refine Gr.trans ?_ (by with_reducible assumption)) | exact Gr.refl _ | assumption | refine Gr.alloc ?_ _ | refine Gr.drew ?_ | refine Gr.drewN ?_ _ | refine Gr.setCell ?_ (by simp <;> omega) _ | refine Gr.trans ?_ (by assumption)))⟩
  case rest =>
    obtain ⟨rfl, hG⟩ := hcut
    have q0 := hG.keep q0
    have q1 := hG.keep q1
    have q2 := hG.keep q2
    have q3 := hG.keep q3
    have q4 := hG.keep q4
    have hz1 := World.block_lt_of_cell? _ _ q0
    have hz : w.heap.size < w.heap.size + 1 := Nat.lt_succ_self _
    rename World => wx
    have HG := Lib.hid (G1.out.trans hG)
    have hgx := Lib.hid (Nat.le_refl wx.heap.size)
    clear b0 b1 k1 G1 HS HP
    go_wp2_with (go_at_call 52; (with_reducible refine (HZ.out _).mono ?_); rintro e w7 ⟨rfl, hb7⟩; obtain ⟨hc, hf⟩ := hb7.cells; have hz7 := Gr.size hb7; (try simp at hz7); have hz8 : w.heap.size + 1 < w7.heap.size := (by omega))
    go_ret2
    exact ⟨none, 0, rfl, Sv.nil _ _, HG.out.trans (by repeat (first | (with_reducible exact Gr.refl _) | (with_reducible assumption) | (with_reducible refine Gr.alloc ?_ _) | (with_reducible refine Gr.drew ?_) | (with_reducible refine Gr.drewN ?_ _) | (with_reducible refine Gr.setCell ?_ (by simp <;> omega) _) | (with_reducible refine Gr.trans ?_ (by with_reducible assumption)) | exact Gr.refl _ | assumption | refine Gr.alloc ?_ _ | refine Gr.drew ?_ | refine Gr.drewN ?_ _ | refine Gr.setCell ?_ (by simp <;> omega) _ | refine Gr.trans ?_ (by assumption)))⟩
set_option maxHeartbeats 4000000 in
set_option maxRecDepth 100000 in
theorem refUndo_2b (A : Option Addr) (n c : Nat) (gs : List (Int × ByteArray)) (nx sn o : Int) (q r : Nat) (b y z : ByteArray) (g' : List (Int × ByteArray)) (x' N' : Int) (hE : ixE nx gs sn = 0) (hx : (byG gs (fI gs sn)).size ≤ 100000) (hq : 32 * q + 32 * r = (byG gs (fI gs sn)).size) (hr : r ≤ 100) (hy : (byG gs (fI gs sn)).extract (32 * q) (byG gs (fI gs sn)).size = y) (hz : zP r = z) (hys : y.size = 32 * r)
    (hem : y.toList.isEmpty = false) (hem2 : (y.toList == ([] : List UInt8)) = false) (hem3 : (([] : List UInt8) == y.toList) = false) (hyz : (y.toList == z.toList) = true) (w : World) (hs : Sv w A n c 2 (sg gs)) (hb : Sh gs) (HA : HRp n nx 2 sn o q b g' x' N' 0 A c w) :
    Calls Try.prog 37 #[.agg #[.slice A n c, .int .i64 nx], .agg #[.int .i64 2, .int .i64 sn, .int .i64 o, .int .i64 q, .string b]] w (UnR [(1, sn, 0, (r : Int), ⟨#[]⟩)] 0 w) := by
  obtain ⟨e1, e2, e3, -, -⟩ := ix_zero hE
  have hl := hs.segs
  have hn10 := (st_right e1).1
  have hp : plI gs sn = (fI gs sn : Int) := pl_yes e2 rfl
  obtain ⟨ob, oo, rfl, hbl, -⟩ := hs.at_ (show 0 < n by omega)
  unfold HRp at HA
  have HA := Lib.hid HA
  have HS := Lib.hid hs
  have HP := Lib.hid hp
  have HK := Lib.hid (fun W (hg : Gr w W) => ((hs.gr hg).seg (show fI gs sn < n by omega)).2)
  have hin : fI gs sn < n := by omega
  have hn : n ≤ 10 := by omega
  obtain ⟨i0, hi, iz0, iz1, iz2⟩ := info_parts infoOp
  clear hE hs hb e1 e2 e3 hl hp hn10
  generalize fI gs sn = i at *
  generalize byG gs i = x at *
  have hi1 : (i : Int) < n := by omega
  have hwm : IntKind.i64.wrap ((q : Int) * 32) = (q : Int) * 32 := IntWalk.i64_in _ (by omega)
  have hsl := cut_i x ((q : Int) * 32) (32 * q) (by omega) (by omega)
  rw [hy] at hsl
  have HPG := fun W => Pages_any y (by unfold maxLen; omega) W
  have hpy : pgs y = (r : Int) := by unfold pgs; omega
  rw [hpy] at HPG
  have HPG := Lib.hid HPG
  have HZ := fun W => Zeros_any r (y.size : Int) (by rw [hys]) hr W
  rw [hz] at HZ
  have HZ := Lib.hid HZ
  clear hy hz hx hq hr hys hpy
  go_enter Try.func37, Try.ntmps37
  go_upto_region 6 with (go_at_call 35; (with_reducible refine (HA.out _ (some ⟨w.heap.size + 1 + 1, 0, none⟩) 1 (by have h := Sv.new5 ((w.alloc (.cells #[.slice (some ⟨ob, oo, none⟩) n c, .int .i64 nx] 24)).alloc (.cells #[(.int .i64 2), .int .i64 sn, .int .i64 o, .int .i64 q, .string b] 62)) (.int .i64 2) (.int .i64 sn) (.int .i64 o) (.int .i64 q) (.string b) 62; simp only [World.size_alloc] at h; exact h) (by repeat (first | (with_reducible exact Gr.refl _) | (with_reducible assumption) | (with_reducible refine Gr.alloc ?_ _) | (with_reducible refine Gr.drew ?_) | (with_reducible refine Gr.drewN ?_ _) | (with_reducible refine Gr.setCell ?_ (by simp <;> omega) _) | (with_reducible refine Gr.trans ?_ (by with_reducible assumption)) | exact Gr.refl _ | assumption | refine Gr.alloc ?_ _ | refine Gr.drew ?_ | refine Gr.drewN ?_ _ | refine Gr.setCell ?_ (by simp <;> omega) _ | refine Gr.trans ?_ (by assumption)))).mono ?_); rintro e w1 ⟨A1, c1, rfl, hV1, hb⟩; clear hV1; obtain ⟨hc, hf⟩ := gcells hb (w.heap.size + 2) (by first | exact hz | (simp; done) | (simp; omega) | omega); have hz : w.heap.size + 2 ≤ w1.heap.size := (by have h := Gr.size hb; (try simp at h); omega); have hz0 : w.heap.size < w1.heap.size := (by omega); have hz1 : w.heap.size + 1 < w1.heap.size := (by omega))
  have b0 : w1.cell? ⟨w.heap.size, 0, none⟩ = some (.slice (some ⟨ob, oo, none⟩) n c) := by simp [go_sem, *]
  have b1 : w1.cell? ⟨w.heap.size, 1, none⟩ = some (.int .i64 nx) := by simp [go_sem, *]
  have q0 : w1.cell? ⟨w.heap.size + 1, 0, none⟩ = some (.int .i64 2) := by simp [go_sem, *]
  have q1 : w1.cell? ⟨w.heap.size + 1, 1, none⟩ = some (.int .i64 sn) := by simp [go_sem, *]
  have q2 : w1.cell? ⟨w.heap.size + 1, 2, none⟩ = some (.int .i64 o) := by simp [go_sem, *]
  have q3 : w1.cell? ⟨w.heap.size + 1, 3, none⟩ = some (.int .i64 q) := by simp [go_sem, *]
  have q4 : w1.cell? ⟨w.heap.size + 1, 4, none⟩ = some (.string b) := by simp [go_sem, *]
  have hbX := (Gr.refl w1).alloc (.cells #[.slice A1 g'.length c1, .int .i64 x', .int .i64 N', .string ⟨#[]⟩, .int .i64 0] 39)
  have G1 := Lib.hid (show Gr w (w1.alloc (.cells #[.slice A1 g'.length c1, .int .i64 x', .int .i64 N', .string ⟨#[]⟩, .int .i64 0] 39)) from (by repeat (first | (with_reducible exact Gr.refl _) | (with_reducible assumption) | (with_reducible refine Gr.alloc ?_ _) | (with_reducible refine Gr.drew ?_) | (with_reducible refine Gr.drewN ?_ _) | (with_reducible refine Gr.setCell ?_ (by simp <;> omega) _) | (with_reducible refine Gr.trans ?_ (by with_reducible assumption)) | exact Gr.refl _ | assumption | refine Gr.alloc ?_ _ | refine Gr.drew ?_ | refine Gr.drewN ?_ _ | refine Gr.setCell ?_ (by simp <;> omega) _ | refine Gr.trans ?_ (by assumption))))
  have q0 := hbX.keep q0
  have q1 := hbX.keep q1
  have q2 := hbX.keep q2
  have q3 := hbX.keep q3
  have q4 := hbX.keep q4
  have b0 := hbX.keep b0
  have b1 := hbX.keep b1
  have k1 := HK.out _ G1.out
  have hz := World.block_lt_of_cell? _ _ b0
  have hz1 := World.block_lt_of_cell? _ _ q0
  clear hc hf hb HA HK hz0 hbX
  generalize w1.alloc (.cells #[.slice A1 g'.length c1, .int .i64 x', .int .i64 N', .string ⟨#[]⟩, .int .i64 0] 39) = W1 at *
  go_cut [7] (fun s7 wx => RuC W1 x s7 wx)
  case first =>
    go_region_held3 (fun w' => w'.cell? ⟨w.heap.size, 0, none⟩ = some (.slice (some ⟨ob, oo, none⟩) n c) ∧ w'.cell? ⟨w.heap.size, 1, none⟩ = some (.int .i64 nx) ∧ w'.cell? ⟨w.heap.size + 1, 0, none⟩ = some (.int .i64 2) ∧ w'.cell? ⟨w.heap.size + 1, 1, none⟩ = some (.int .i64 sn) ∧ w'.cell? ⟨w.heap.size + 1, 2, none⟩ = some (.int .i64 o) ∧ w'.cell? ⟨w.heap.size + 1, 3, none⟩ = some (.int .i64 q) ∧ w'.cell? ⟨w.heap.size + 1, 4, none⟩ = some (.string b) ∧ w'.cell? ⟨ob, oo + i * 2 + 1, none⟩ = some (.string x)) (((try go_split_ands); (repeat' apply And.intro) <;> ((try simp only [World.cell?_drew]); first | (with_reducible assumption) | (simp [go_sem]; done) | ((repeat (first | (refine keepFar ?_ (by first | (dsimp only; omega) | (simp; done) | (simp; omega))) | (refine (Gr.alloc (Gr.refl _) _).keep ?_))); (try simp only [World.cell?_drew]); first | (with_reducible assumption) | (refine hb.keep ?_; (try simp only [World.cell?_drew]); first | (with_reducible assumption) | (simp [go_sem]; done) | ((repeat (refine (Gr.alloc (Gr.refl _) _).keep ?_)); (try simp only [World.cell?_drew]); (with_reducible assumption))) | (simp [*, go_sem]; done)))))
      ((go_at_call 62; (with_reducible refine (Place_is (some ⟨ob, oo, none⟩) n c gs nx sn i HP.out _ (HS.out.gr (G1.out.trans (by repeat (first | (with_reducible exact Gr.refl _) | (with_reducible assumption) | (with_reducible refine Gr.alloc ?_ _) | (with_reducible refine Gr.drew ?_) | (with_reducible refine Gr.drewN ?_ _) | (with_reducible refine Gr.setCell ?_ (by simp <;> omega) _) | (with_reducible refine Gr.trans ?_ (by with_reducible assumption)) | exact Gr.refl _ | assumption | refine Gr.alloc ?_ _ | refine Gr.drew ?_ | refine Gr.drewN ?_ _ | refine Gr.setCell ?_ (by simp <;> omega) _ | refine Gr.trans ?_ (by assumption)))))).mono ?_); rintro e w3 ⟨rfl, hb⟩))
    all_goals
      go_wp2_with fail
      go_meet
      exact ⟨rfl, (by repeat (first | (with_reducible exact Gr.refl _) | (with_reducible assumption) | (with_reducible refine Gr.alloc ?_ _) | (with_reducible refine Gr.drew ?_) | (with_reducible refine Gr.drewN ?_ _) | (with_reducible refine Gr.setCell ?_ (by simp <;> omega) _) | (with_reducible refine Gr.trans ?_ (by with_reducible assumption)) | exact Gr.refl _ | assumption | refine Gr.alloc ?_ _ | refine Gr.drew ?_ | refine Gr.drewN ?_ _ | refine Gr.setCell ?_ (by simp <;> omega) _ | refine Gr.trans ?_ (by assumption)))⟩
  case rest =>
    obtain ⟨rfl, hG⟩ := hcut
    have q0 := hG.keep q0
    have q1 := hG.keep q1
    have q2 := hG.keep q2
    have q3 := hG.keep q3
    have q4 := hG.keep q4
    have hz1 := World.block_lt_of_cell? _ _ q0
    have hz : w.heap.size < w.heap.size + 1 := Nat.lt_succ_self _
    rename World => wx
    have HG := Lib.hid (G1.out.trans hG)
    have hgx := Lib.hid (Nat.le_refl wx.heap.size)
    clear b0 b1 k1 G1 HS HP
    go_upto_region 14 with (fail)
    go_region_held3 (fun w' => w'.cell? ⟨w.heap.size + 1, 1, none⟩ = some (.int .i64 sn) ∧ w'.cell? ⟨w.heap.size + 1, 3, none⟩ = some (.int .i64 q)) (((try go_split_ands); (repeat' apply And.intro) <;> ((try simp only [World.cell?_drew]); first | (with_reducible assumption) | (simp [go_sem]; done) | ((repeat (first | (refine keepFar ?_ (by first | (dsimp only; omega) | (simp; done) | (simp; omega))) | (refine (Gr.alloc (Gr.refl _) _).keep ?_))); (try simp only [World.cell?_drew]); first | (with_reducible assumption) | (refine hb.keep ?_; (try simp only [World.cell?_drew]); first | (with_reducible assumption) | (simp [go_sem]; done) | ((repeat (refine (Gr.alloc (Gr.refl _) _).keep ?_)); (try simp only [World.cell?_drew]); (with_reducible assumption))) | (simp [*, go_sem]; done)))))
      (first
        | (go_at_call 46; (with_reducible refine (HPG.out _).mono ?_); rintro e w4 ⟨rfl, hb⟩)
        | (refine step_append_sv _ (by rfl) _ _ 55 62 (by rfl) i0 (.agg #[.int .i64 0, .int .i64 0, .int .i64 0, .int .i64 0, .string ⟨#[]⟩]) 5 48 Try.underlying55 hi iz0 iz1 iz2 rfl (by omega) wx.heap.size (.slice none 0 0) 0 [] (by rfl) (World.ownsRow_nil _ _ _ _) _ 1 1 (oc [(1, sn, 0, r, ⟨#[]⟩)]) (by rfl) (by first | exact Sv.new5 _ _ _ _ _ _ _ | exact (Sv.new5 _ _ _ _ _ _ _).gr ((Gr.refl _).drew)) (oc_one _) (by unfold maxLen; omega) (by omega) (by have h2 := Gr.size hb; (try simp at h2); (try simp); omega) ?_; intro v6 w6 hO6 hB6 hG6; have hb := Gr.and_below (show Gr wx _ from (by repeat (first | (with_reducible exact Gr.refl _) | (with_reducible assumption) | (with_reducible refine Gr.alloc ?_ _) | (with_reducible refine Gr.drew ?_) | (with_reducible refine Gr.drewN ?_ _) | (with_reducible refine Gr.setCell ?_ (by simp <;> omega) _) | (with_reducible refine Gr.trans ?_ (by with_reducible assumption)) | exact Gr.refl _ | assumption | refine Gr.alloc ?_ _ | refine Gr.drew ?_ | refine Gr.drewN ?_ _ | refine Gr.setCell ?_ (by simp <;> omega) _ | refine Gr.trans ?_ (by assumption)))) hB6 (Nat.le_refl _)))
    all_goals
      simp only [Nat.zero_add, List.nil_append] at hO6
      have q1 := hb.keep q1
      have q3 := hb.keep q3
      have hz1 := World.block_lt_of_cell? _ _ q1
      have hz6 := Gr.size hb
      go_wp2_with (go_at_call 52; (with_reducible refine (HZ.out _).mono ?_); rintro e w7 ⟨rfl, hb7⟩; obtain ⟨hc, hf⟩ := hb7.cells; have hz7 := Gr.size hb7; (try simp at hz7); have hz8 : w.heap.size + 1 < w7.heap.size := (by omega))
      go_ret2
      obtain ⟨A', c', rfl, hW⟩ := wv_of_own hO6
      exact ⟨A', c', rfl, (hW.gr (by repeat (first | (with_reducible exact Gr.refl _) | (with_reducible assumption) | (with_reducible refine Gr.alloc ?_ _) | (with_reducible refine Gr.drew ?_) | (with_reducible refine Gr.drewN ?_ _) | (with_reducible refine Gr.setCell ?_ (by simp <;> omega) _) | (with_reducible refine Gr.trans ?_ (by with_reducible assumption)) | exact Gr.refl _ | assumption | refine Gr.alloc ?_ _ | refine Gr.drew ?_ | refine Gr.drewN ?_ _ | refine Gr.setCell ?_ (by simp <;> omega) _ | refine Gr.trans ?_ (by assumption)))).sv, HG.out.trans (by repeat (first | (with_reducible exact Gr.refl _) | (with_reducible assumption) | (with_reducible refine Gr.alloc ?_ _) | (with_reducible refine Gr.drew ?_) | (with_reducible refine Gr.drewN ?_ _) | (with_reducible refine Gr.setCell ?_ (by simp <;> omega) _) | (with_reducible refine Gr.trans ?_ (by with_reducible assumption)) | exact Gr.refl _ | assumption | refine Gr.alloc ?_ _ | refine Gr.drew ?_ | refine Gr.drewN ?_ _ | refine Gr.setCell ?_ (by simp <;> omega) _ | refine Gr.trans ?_ (by assumption)))⟩
set_option maxHeartbeats 4000000 in
set_option maxRecDepth 100000 in
theorem refUndo_2c (A : Option Addr) (n c : Nat) (gs : List (Int × ByteArray)) (nx sn o : Int) (q r : Nat) (b y z : ByteArray) (g' : List (Int × ByteArray)) (x' N' : Int) (hE : ixE nx gs sn = 0) (hx : (byG gs (fI gs sn)).size ≤ 100000) (hq : 32 * q + 32 * r = (byG gs (fI gs sn)).size) (hr : r ≤ 100) (hy : (byG gs (fI gs sn)).extract (32 * q) (byG gs (fI gs sn)).size = y) (hz : zP r = z) (hys : y.size = 32 * r)
    (hem : y.toList.isEmpty = false) (hem2 : (y.toList == ([] : List UInt8)) = false) (hem3 : (([] : List UInt8) == y.toList) = false) (hyz : (y.toList == z.toList) = false) (w : World) (hs : Sv w A n c 2 (sg gs)) (hb : Sh gs) (HA : HRp n nx 2 sn o q b g' x' N' 0 A c w) :
    Calls Try.prog 37 #[.agg #[.slice A n c, .int .i64 nx], .agg #[.int .i64 2, .int .i64 sn, .int .i64 o, .int .i64 q, .string b]] w (UnR [(1, sn, 0, (r : Int), ⟨#[]⟩), (4, sn, (q : Int) * 32, 0, y)] 0 w) := by
  obtain ⟨e1, e2, e3, -, -⟩ := ix_zero hE
  have hl := hs.segs
  have hn10 := (st_right e1).1
  have hp : plI gs sn = (fI gs sn : Int) := pl_yes e2 rfl
  obtain ⟨ob, oo, rfl, hbl, -⟩ := hs.at_ (show 0 < n by omega)
  unfold HRp at HA
  have HA := Lib.hid HA
  have HS := Lib.hid hs
  have HP := Lib.hid hp
  have HK := Lib.hid (fun W (hg : Gr w W) => ((hs.gr hg).seg (show fI gs sn < n by omega)).2)
  have hin : fI gs sn < n := by omega
  have hn : n ≤ 10 := by omega
  obtain ⟨i0, hi, iz0, iz1, iz2⟩ := info_parts infoOp
  clear hE hs hb e1 e2 e3 hl hp hn10
  generalize fI gs sn = i at *
  generalize byG gs i = x at *
  have hi1 : (i : Int) < n := by omega
  have hwm : IntKind.i64.wrap ((q : Int) * 32) = (q : Int) * 32 := IntWalk.i64_in _ (by omega)
  have hsl := cut_i x ((q : Int) * 32) (32 * q) (by omega) (by omega)
  rw [hy] at hsl
  have HPG := fun W => Pages_any y (by unfold maxLen; omega) W
  have hpy : pgs y = (r : Int) := by unfold pgs; omega
  rw [hpy] at HPG
  have HPG := Lib.hid HPG
  have HZ := fun W => Zeros_any r (y.size : Int) (by rw [hys]) hr W
  rw [hz] at HZ
  have HZ := Lib.hid HZ
  clear hy hz hx hq hr hys hpy
  go_enter Try.func37, Try.ntmps37
  go_upto_region 6 with (go_at_call 35; (with_reducible refine (HA.out _ (some ⟨w.heap.size + 1 + 1, 0, none⟩) 1 (by have h := Sv.new5 ((w.alloc (.cells #[.slice (some ⟨ob, oo, none⟩) n c, .int .i64 nx] 24)).alloc (.cells #[(.int .i64 2), .int .i64 sn, .int .i64 o, .int .i64 q, .string b] 62)) (.int .i64 2) (.int .i64 sn) (.int .i64 o) (.int .i64 q) (.string b) 62; simp only [World.size_alloc] at h; exact h) (by repeat (first | (with_reducible exact Gr.refl _) | (with_reducible assumption) | (with_reducible refine Gr.alloc ?_ _) | (with_reducible refine Gr.drew ?_) | (with_reducible refine Gr.drewN ?_ _) | (with_reducible refine Gr.setCell ?_ (by simp <;> omega) _) | (with_reducible refine Gr.trans ?_ (by with_reducible assumption)) | exact Gr.refl _ | assumption | refine Gr.alloc ?_ _ | refine Gr.drew ?_ | refine Gr.drewN ?_ _ | refine Gr.setCell ?_ (by simp <;> omega) _ | refine Gr.trans ?_ (by assumption)))).mono ?_); rintro e w1 ⟨A1, c1, rfl, hV1, hb⟩; clear hV1; obtain ⟨hc, hf⟩ := gcells hb (w.heap.size + 2) (by first | exact hz | (simp; done) | (simp; omega) | omega); have hz : w.heap.size + 2 ≤ w1.heap.size := (by have h := Gr.size hb; (try simp at h); omega); have hz0 : w.heap.size < w1.heap.size := (by omega); have hz1 : w.heap.size + 1 < w1.heap.size := (by omega))
  have b0 : w1.cell? ⟨w.heap.size, 0, none⟩ = some (.slice (some ⟨ob, oo, none⟩) n c) := by simp [go_sem, *]
  have b1 : w1.cell? ⟨w.heap.size, 1, none⟩ = some (.int .i64 nx) := by simp [go_sem, *]
  have q0 : w1.cell? ⟨w.heap.size + 1, 0, none⟩ = some (.int .i64 2) := by simp [go_sem, *]
  have q1 : w1.cell? ⟨w.heap.size + 1, 1, none⟩ = some (.int .i64 sn) := by simp [go_sem, *]
  have q2 : w1.cell? ⟨w.heap.size + 1, 2, none⟩ = some (.int .i64 o) := by simp [go_sem, *]
  have q3 : w1.cell? ⟨w.heap.size + 1, 3, none⟩ = some (.int .i64 q) := by simp [go_sem, *]
  have q4 : w1.cell? ⟨w.heap.size + 1, 4, none⟩ = some (.string b) := by simp [go_sem, *]
  have hbX := (Gr.refl w1).alloc (.cells #[.slice A1 g'.length c1, .int .i64 x', .int .i64 N', .string ⟨#[]⟩, .int .i64 0] 39)
  have G1 := Lib.hid (show Gr w (w1.alloc (.cells #[.slice A1 g'.length c1, .int .i64 x', .int .i64 N', .string ⟨#[]⟩, .int .i64 0] 39)) from (by repeat (first | (with_reducible exact Gr.refl _) | (with_reducible assumption) | (with_reducible refine Gr.alloc ?_ _) | (with_reducible refine Gr.drew ?_) | (with_reducible refine Gr.drewN ?_ _) | (with_reducible refine Gr.setCell ?_ (by simp <;> omega) _) | (with_reducible refine Gr.trans ?_ (by with_reducible assumption)) | exact Gr.refl _ | assumption | refine Gr.alloc ?_ _ | refine Gr.drew ?_ | refine Gr.drewN ?_ _ | refine Gr.setCell ?_ (by simp <;> omega) _ | refine Gr.trans ?_ (by assumption))))
  have q0 := hbX.keep q0
  have q1 := hbX.keep q1
  have q2 := hbX.keep q2
  have q3 := hbX.keep q3
  have q4 := hbX.keep q4
  have b0 := hbX.keep b0
  have b1 := hbX.keep b1
  have k1 := HK.out _ G1.out
  have hz := World.block_lt_of_cell? _ _ b0
  have hz1 := World.block_lt_of_cell? _ _ q0
  clear hc hf hb HA HK hz0 hbX
  generalize w1.alloc (.cells #[.slice A1 g'.length c1, .int .i64 x', .int .i64 N', .string ⟨#[]⟩, .int .i64 0] 39) = W1 at *
  go_cut [7] (fun s7 wx => RuC W1 x s7 wx)
  case first =>
    go_region_held3 (fun w' => w'.cell? ⟨w.heap.size, 0, none⟩ = some (.slice (some ⟨ob, oo, none⟩) n c) ∧ w'.cell? ⟨w.heap.size, 1, none⟩ = some (.int .i64 nx) ∧ w'.cell? ⟨w.heap.size + 1, 0, none⟩ = some (.int .i64 2) ∧ w'.cell? ⟨w.heap.size + 1, 1, none⟩ = some (.int .i64 sn) ∧ w'.cell? ⟨w.heap.size + 1, 2, none⟩ = some (.int .i64 o) ∧ w'.cell? ⟨w.heap.size + 1, 3, none⟩ = some (.int .i64 q) ∧ w'.cell? ⟨w.heap.size + 1, 4, none⟩ = some (.string b) ∧ w'.cell? ⟨ob, oo + i * 2 + 1, none⟩ = some (.string x)) (((try go_split_ands); (repeat' apply And.intro) <;> ((try simp only [World.cell?_drew]); first | (with_reducible assumption) | (simp [go_sem]; done) | ((repeat (first | (refine keepFar ?_ (by first | (dsimp only; omega) | (simp; done) | (simp; omega))) | (refine (Gr.alloc (Gr.refl _) _).keep ?_))); (try simp only [World.cell?_drew]); first | (with_reducible assumption) | (refine hb.keep ?_; (try simp only [World.cell?_drew]); first | (with_reducible assumption) | (simp [go_sem]; done) | ((repeat (refine (Gr.alloc (Gr.refl _) _).keep ?_)); (try simp only [World.cell?_drew]); (with_reducible assumption))) | (simp [*, go_sem]; done)))))
      ((go_at_call 62; (with_reducible refine (Place_is (some ⟨ob, oo, none⟩) n c gs nx sn i HP.out _ (HS.out.gr (G1.out.trans (by repeat (first | (with_reducible exact Gr.refl _) | (with_reducible assumption) | (with_reducible refine Gr.alloc ?_ _) | (with_reducible refine Gr.drew ?_) | (with_reducible refine Gr.drewN ?_ _) | (with_reducible refine Gr.setCell ?_ (by simp <;> omega) _) | (with_reducible refine Gr.trans ?_ (by with_reducible assumption)) | exact Gr.refl _ | assumption | refine Gr.alloc ?_ _ | refine Gr.drew ?_ | refine Gr.drewN ?_ _ | refine Gr.setCell ?_ (by simp <;> omega) _ | refine Gr.trans ?_ (by assumption)))))).mono ?_); rintro e w3 ⟨rfl, hb⟩))
    all_goals
      go_wp2_with fail
      go_meet
      exact ⟨rfl, (by repeat (first | (with_reducible exact Gr.refl _) | (with_reducible assumption) | (with_reducible refine Gr.alloc ?_ _) | (with_reducible refine Gr.drew ?_) | (with_reducible refine Gr.drewN ?_ _) | (with_reducible refine Gr.setCell ?_ (by simp <;> omega) _) | (with_reducible refine Gr.trans ?_ (by with_reducible assumption)) | exact Gr.refl _ | assumption | refine Gr.alloc ?_ _ | refine Gr.drew ?_ | refine Gr.drewN ?_ _ | refine Gr.setCell ?_ (by simp <;> omega) _ | refine Gr.trans ?_ (by assumption)))⟩
  case rest =>
    obtain ⟨rfl, hG⟩ := hcut
    have q0 := hG.keep q0
    have q1 := hG.keep q1
    have q2 := hG.keep q2
    have q3 := hG.keep q3
    have q4 := hG.keep q4
    have hz1 := World.block_lt_of_cell? _ _ q0
    have hz : w.heap.size < w.heap.size + 1 := Nat.lt_succ_self _
    rename World => wx
    have HG := Lib.hid (G1.out.trans hG)
    have hgx := Lib.hid (Nat.le_refl wx.heap.size)
    clear b0 b1 k1 G1 HS HP
    go_upto_region 14 with (fail)
    go_region_held3 (fun w' => w'.cell? ⟨w.heap.size + 1, 1, none⟩ = some (.int .i64 sn) ∧ w'.cell? ⟨w.heap.size + 1, 3, none⟩ = some (.int .i64 q)) (((try go_split_ands); (repeat' apply And.intro) <;> ((try simp only [World.cell?_drew]); first | (with_reducible assumption) | (simp [go_sem]; done) | ((repeat (first | (refine keepFar ?_ (by first | (dsimp only; omega) | (simp; done) | (simp; omega))) | (refine (Gr.alloc (Gr.refl _) _).keep ?_))); (try simp only [World.cell?_drew]); first | (with_reducible assumption) | (refine hb.keep ?_; (try simp only [World.cell?_drew]); first | (with_reducible assumption) | (simp [go_sem]; done) | ((repeat (refine (Gr.alloc (Gr.refl _) _).keep ?_)); (try simp only [World.cell?_drew]); (with_reducible assumption))) | (simp [*, go_sem]; done)))))
      (first
        | (go_at_call 46; (with_reducible refine (HPG.out _).mono ?_); rintro e w4 ⟨rfl, hb⟩)
        | (refine step_append_sv _ (by rfl) _ _ 55 62 (by rfl) i0 (.agg #[.int .i64 0, .int .i64 0, .int .i64 0, .int .i64 0, .string ⟨#[]⟩]) 5 48 Try.underlying55 hi iz0 iz1 iz2 rfl (by omega) wx.heap.size (.slice none 0 0) 0 [] (by rfl) (World.ownsRow_nil _ _ _ _) _ 1 1 (oc [(1, sn, 0, r, ⟨#[]⟩)]) (by rfl) (by first | exact Sv.new5 _ _ _ _ _ _ _ | exact (Sv.new5 _ _ _ _ _ _ _).gr ((Gr.refl _).drew)) (oc_one _) (by unfold maxLen; omega) (by omega) (by have h2 := Gr.size hb; (try simp at h2); (try simp); omega) ?_; intro v6 w6 hO6 hB6 hG6; have hb := Gr.and_below (show Gr wx _ from (by repeat (first | (with_reducible exact Gr.refl _) | (with_reducible assumption) | (with_reducible refine Gr.alloc ?_ _) | (with_reducible refine Gr.drew ?_) | (with_reducible refine Gr.drewN ?_ _) | (with_reducible refine Gr.setCell ?_ (by simp <;> omega) _) | (with_reducible refine Gr.trans ?_ (by with_reducible assumption)) | exact Gr.refl _ | assumption | refine Gr.alloc ?_ _ | refine Gr.drew ?_ | refine Gr.drewN ?_ _ | refine Gr.setCell ?_ (by simp <;> omega) _ | refine Gr.trans ?_ (by assumption)))) hB6 (Nat.le_refl _)))
    all_goals
      simp only [Nat.zero_add, List.nil_append] at hO6
      have q1 := hb.keep q1
      have q3 := hb.keep q3
      have hz1 := World.block_lt_of_cell? _ _ q1
      have hz6 := Gr.size hb
      go_wp2_with (first | (go_at_call 52; (with_reducible refine (HZ.out _).mono ?_); rintro e w7 ⟨rfl, hb7⟩; obtain ⟨hc, hf⟩ := hb7.cells; have hz7 := Gr.size hb7; (try simp at hz7); have hz8 : w.heap.size + 1 < w7.heap.size := (by omega)) | (at_builtin; go_loud (refine wp_append_sv _ rfl _ _ 55 62 rfl i0 (.agg #[.int .i64 0, .int .i64 0, .int .i64 0, .int .i64 0, .string ⟨#[]⟩]) 5 48 Try.underlying55 hi iz0 iz1 iz2 rfl (by omega) wx.heap.size v6 1 (oc [(1, sn, 0, r, ⟨#[]⟩)]) rfl (own_gr hO6 (by repeat (first | (with_reducible exact Gr.refl _) | (with_reducible assumption) | (with_reducible refine Gr.alloc ?_ _) | (with_reducible refine Gr.drew ?_) | (with_reducible refine Gr.drewN ?_ _) | (with_reducible refine Gr.setCell ?_ (by simp <;> omega) _) | (with_reducible refine Gr.trans ?_ (by with_reducible assumption)) | exact Gr.refl _ | assumption | refine Gr.alloc ?_ _ | refine Gr.drew ?_ | refine Gr.drewN ?_ _ | refine Gr.setCell ?_ (by simp <;> omega) _ | refine Gr.trans ?_ (by assumption)))) _ 1 1 (oc [(4, sn, (q : Int) * 32, 0, y)]) rfl (Sv.new5 _ _ _ _ _ _ _) (oc_one _) (by unfold maxLen; omega) (by omega) (by (try simp); omega) ?_); intro v8 w8 hO8 hB8 hG8; have hb8 := Gr.and_below (show Gr wx _ from (by repeat (first | (with_reducible exact Gr.refl _) | (with_reducible assumption) | (with_reducible refine Gr.alloc ?_ _) | (with_reducible refine Gr.drew ?_) | (with_reducible refine Gr.drewN ?_ _) | (with_reducible refine Gr.setCell ?_ (by simp <;> omega) _) | (with_reducible refine Gr.trans ?_ (by with_reducible assumption)) | exact Gr.refl _ | assumption | refine Gr.alloc ?_ _ | refine Gr.drew ?_ | refine Gr.drewN ?_ _ | refine Gr.setCell ?_ (by simp <;> omega) _ | refine Gr.trans ?_ (by assumption)))) hB8 (Nat.le_refl _)))
      go_ret2
      obtain ⟨A', c', rfl, hW⟩ := wv_of_own hO8
      exact ⟨A', c', rfl, hW.sv, HG.out.trans hb8⟩
end Go.Proofs.Ythbinjoiljddkaa
