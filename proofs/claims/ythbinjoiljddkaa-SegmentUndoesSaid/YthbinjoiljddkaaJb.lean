/- The reference's Undo: the right ends. -/
import Derived.Test.YthbinjoiljddkaaJa
namespace Go.Proofs.Ythbinjoiljddkaa
set_option linter.unusedSimpArgs false
set_option linter.unusedVariables false
open Go.RowKit
/-- The old bytes are read. -/
def RuC (a : World) (x : ByteArray) (s7 : Value) (wx : World) : Prop := s7 = .string x ∧ Gr a wx
set_option maxHeartbeats 2000000 in
set_option maxRecDepth 100000 in
theorem refUndo_1 (A : Option Addr) (n c : Nat) (gs : List (Int × ByteArray)) (nx sn o pg : Int) (b : ByteArray) (g' : List (Int × ByteArray)) (x' N' : Int) (hE : ixE nx gs sn = 0) (hx : (byG gs (fI gs sn)).size ≤ maxLen) (w : World) (hs : Sv w A n c 2 (sg gs)) (hb : Sh gs) (HA : HRp n nx 1 sn o pg b g' x' N' 0 A c w) :
    Calls Try.prog 37 #[.agg #[.slice A n c, .int .i64 nx], .agg #[.int .i64 1, .int .i64 sn, .int .i64 o, .int .i64 pg, .string b]] w (UnR [(2, sn, 0, pgs (byG gs (fI gs sn)), ⟨#[]⟩)] 0 w) := by
  obtain ⟨e1, e2, e3, -, -⟩ := ix_zero hE
  have hl := hs.segs
  have hn10 := (st_right e1).1
  have hp : plI gs sn = (fI gs sn : Int) := pl_yes e2 rfl
  obtain ⟨ob, oo, rfl, hbl, -⟩ := hs.at_ (show 0 < n by omega)
  unfold HRp at HA
  have HA := Lib.hid HA
  have HS := Lib.hid hs
  have HP := Lib.hid hp
  have HK := Lib.hid (fun W (hg : Gr w W) => ((hs.gr hg).seg (show fI gs sn < n by omega)).2)
  have hin : fI gs sn < n := by omega
  have hn : n ≤ 10 := by omega
  obtain ⟨i0, hi, iz0, iz1, iz2⟩ := info_parts infoOp
  clear hE hs hb e1 e2 e3 hl hp hn10
  generalize fI gs sn = i at *
  generalize byG gs i = x at *
  have hi1 : (i : Int) < n := by omega
  have HPG := Lib.hid (fun W => Pages_any x hx W)
  clear hx
  generalize pgs x = P at *
  go_enter Try.func37, Try.ntmps37
  go_upto_region 6 with (go_at_call 35; (with_reducible refine (HA.out _ (some ⟨w.heap.size + 1 + 1, 0, none⟩) 1 (by have h := Sv.new5 ((w.alloc (.cells #[.slice (some ⟨ob, oo, none⟩) n c, .int .i64 nx] 24)).alloc (.cells #[(.int .i64 1), .int .i64 sn, .int .i64 o, .int .i64 pg, .string b] 62)) (.int .i64 1) (.int .i64 sn) (.int .i64 o) (.int .i64 pg) (.string b) 62; simp only [World.size_alloc] at h; exact h) (by repeat (first | (with_reducible exact Gr.refl _) | (with_reducible assumption) | (with_reducible refine Gr.alloc ?_ _) | (with_reducible refine Gr.drew ?_) | (with_reducible refine Gr.drewN ?_ _) | (with_reducible refine Gr.setCell ?_ (by simp <;> omega) _) | (with_reducible refine Gr.trans ?_ (by with_reducible assumption)) | exact Gr.refl _ | assumption | refine Gr.alloc ?_ _ | refine Gr.drew ?_ | refine Gr.drewN ?_ _ | refine Gr.setCell ?_ (by simp <;> omega) _ | refine Gr.trans ?_ (by assumption)))).mono ?_); rintro e w1 ⟨A1, c1, rfl, hV1, hb⟩; clear hV1; obtain ⟨hc, hf⟩ := gcells hb (w.heap.size + 2) (by first | exact hz | (simp; done) | (simp; omega) | omega); have hz : w.heap.size + 2 ≤ w1.heap.size := (by have h := Gr.size hb; (try simp at h); omega); have hz0 : w.heap.size < w1.heap.size := (by omega); have hz1 : w.heap.size + 1 < w1.heap.size := (by omega))
  have b0 : w1.cell? ⟨w.heap.size, 0, none⟩ = some (.slice (some ⟨ob, oo, none⟩) n c) := by simp [go_sem, *]
  have b1 : w1.cell? ⟨w.heap.size, 1, none⟩ = some (.int .i64 nx) := by simp [go_sem, *]
  have q0 : w1.cell? ⟨w.heap.size + 1, 0, none⟩ = some (.int .i64 1) := by simp [go_sem, *]
  have q1 : w1.cell? ⟨w.heap.size + 1, 1, none⟩ = some (.int .i64 sn) := by simp [go_sem, *]
  have q2 : w1.cell? ⟨w.heap.size + 1, 2, none⟩ = some (.int .i64 o) := by simp [go_sem, *]
  have q3 : w1.cell? ⟨w.heap.size + 1, 3, none⟩ = some (.int .i64 pg) := by simp [go_sem, *]
  have q4 : w1.cell? ⟨w.heap.size + 1, 4, none⟩ = some (.string b) := by simp [go_sem, *]
  have hbX := (Gr.refl w1).alloc (.cells #[.slice A1 g'.length c1, .int .i64 x', .int .i64 N', .string ⟨#[]⟩, .int .i64 0] 39)
  have G1 := Lib.hid (show Gr w (w1.alloc (.cells #[.slice A1 g'.length c1, .int .i64 x', .int .i64 N', .string ⟨#[]⟩, .int .i64 0] 39)) from (by repeat (first | (with_reducible exact Gr.refl _) | (with_reducible assumption) | (with_reducible refine Gr.alloc ?_ _) | (with_reducible refine Gr.drew ?_) | (with_reducible refine Gr.drewN ?_ _) | (with_reducible refine Gr.setCell ?_ (by simp <;> omega) _) | (with_reducible refine Gr.trans ?_ (by with_reducible assumption)) | exact Gr.refl _ | assumption | refine Gr.alloc ?_ _ | refine Gr.drew ?_ | refine Gr.drewN ?_ _ | refine Gr.setCell ?_ (by simp <;> omega) _ | refine Gr.trans ?_ (by assumption))))
  have q0 := hbX.keep q0
  have q1 := hbX.keep q1
  have q2 := hbX.keep q2
  have q3 := hbX.keep q3
  have q4 := hbX.keep q4
  have b0 := hbX.keep b0
  have b1 := hbX.keep b1
  have k1 := HK.out _ G1.out
  have hz := World.block_lt_of_cell? _ _ b0
  have hz1 := World.block_lt_of_cell? _ _ q0
  clear hc hf hb HA HK hz0 hbX
  generalize w1.alloc (.cells #[.slice A1 g'.length c1, .int .i64 x', .int .i64 N', .string ⟨#[]⟩, .int .i64 0] 39) = W1 at *
  go_cut [7] (fun s7 wx => RuC W1 x s7 wx)
  case first =>
    go_region_held3 (fun w' => w'.cell? ⟨w.heap.size, 0, none⟩ = some (.slice (some ⟨ob, oo, none⟩) n c) ∧ w'.cell? ⟨w.heap.size, 1, none⟩ = some (.int .i64 nx) ∧ w'.cell? ⟨w.heap.size + 1, 0, none⟩ = some (.int .i64 1) ∧ w'.cell? ⟨w.heap.size + 1, 1, none⟩ = some (.int .i64 sn) ∧ w'.cell? ⟨w.heap.size + 1, 2, none⟩ = some (.int .i64 o) ∧ w'.cell? ⟨w.heap.size + 1, 3, none⟩ = some (.int .i64 pg) ∧ w'.cell? ⟨w.heap.size + 1, 4, none⟩ = some (.string b) ∧ w'.cell? ⟨ob, oo + i * 2 + 1, none⟩ = some (.string x)) (((try go_split_ands); (repeat' apply And.intro) <;> ((try simp only [World.cell?_drew]); first | (with_reducible assumption) | (simp [go_sem]; done) | ((repeat (first | (refine keepFar ?_ (by first | (dsimp only; omega) | (simp; done) | (simp; omega))) | (refine (Gr.alloc (Gr.refl _) _).keep ?_))); (try simp only [World.cell?_drew]); first | (with_reducible assumption) | (refine hb.keep ?_; (try simp only [World.cell?_drew]); first | (with_reducible assumption) | (simp [go_sem]; done) | ((repeat (refine (Gr.alloc (Gr.refl _) _).keep ?_)); (try simp only [World.cell?_drew]); (with_reducible assumption))) | (simp [*, go_sem]; done)))))
      ((go_at_call 62; (with_reducible refine (Place_is (some ⟨ob, oo, none⟩) n c gs nx sn i HP.out _ (HS.out.gr (G1.out.trans (by repeat (first | (with_reducible exact Gr.refl _) | (with_reducible assumption) | (with_reducible refine Gr.alloc ?_ _) | (with_reducible refine Gr.drew ?_) | (with_reducible refine Gr.drewN ?_ _) | (with_reducible refine Gr.setCell ?_ (by simp <;> omega) _) | (with_reducible refine Gr.trans ?_ (by with_reducible assumption)) | exact Gr.refl _ | assumption | refine Gr.alloc ?_ _ | refine Gr.drew ?_ | refine Gr.drewN ?_ _ | refine Gr.setCell ?_ (by simp <;> omega) _ | refine Gr.trans ?_ (by assumption)))))).mono ?_); rintro e w3 ⟨rfl, hb⟩))
    all_goals
      go_wp2_with fail
      go_meet
      exact ⟨rfl, (by repeat (first | (with_reducible exact Gr.refl _) | (with_reducible assumption) | (with_reducible refine Gr.alloc ?_ _) | (with_reducible refine Gr.drew ?_) | (with_reducible refine Gr.drewN ?_ _) | (with_reducible refine Gr.setCell ?_ (by simp <;> omega) _) | (with_reducible refine Gr.trans ?_ (by with_reducible assumption)) | exact Gr.refl _ | assumption | refine Gr.alloc ?_ _ | refine Gr.drew ?_ | refine Gr.drewN ?_ _ | refine Gr.setCell ?_ (by simp <;> omega) _ | refine Gr.trans ?_ (by assumption)))⟩
  case rest =>
    obtain ⟨rfl, hG⟩ := hcut
    have q0 := hG.keep q0
    have q1 := hG.keep q1
    have q2 := hG.keep q2
    have q3 := hG.keep q3
    have q4 := hG.keep q4
    have hz1 := World.block_lt_of_cell? _ _ q0
    have hz : w.heap.size < w.heap.size + 1 := Nat.lt_succ_self _
    rename World => wx
    have HG := Lib.hid (G1.out.trans hG)
    have hgx := Lib.hid (Nat.le_refl wx.heap.size)
    clear b0 b1 k1 G1 HS HP
    go_upto_region 10 with (fail)
    go_region_held3 (fun w' => w'.cell? ⟨w.heap.size + 1, 1, none⟩ = some (.int .i64 sn)) (((try go_split_ands); (repeat' apply And.intro) <;> ((try simp only [World.cell?_drew]); first | (with_reducible assumption) | (simp [go_sem]; done) | ((repeat (first | (refine keepFar ?_ (by first | (dsimp only; omega) | (simp; done) | (simp; omega))) | (refine (Gr.alloc (Gr.refl _) _).keep ?_))); (try simp only [World.cell?_drew]); first | (with_reducible assumption) | (refine hb.keep ?_; (try simp only [World.cell?_drew]); first | (with_reducible assumption) | (simp [go_sem]; done) | ((repeat (refine (Gr.alloc (Gr.refl _) _).keep ?_)); (try simp only [World.cell?_drew]); (with_reducible assumption))) | (simp [*, go_sem]; done)))))
      (first
        | (go_at_call 46; (with_reducible refine (HPG.out _).mono ?_); rintro e w4 ⟨rfl, hb⟩)
        | (refine step_append_sv _ (by rfl) _ _ 55 62 (by rfl) i0 (.agg #[.int .i64 0, .int .i64 0, .int .i64 0, .int .i64 0, .string ⟨#[]⟩]) 5 48 Try.underlying55 hi iz0 iz1 iz2 rfl (by omega) wx.heap.size (.slice none 0 0) 0 [] (by rfl) (World.ownsRow_nil _ _ _ _) _ 1 1 (oc [(2, sn, 0, P, ⟨#[]⟩)]) (by rfl) (by first | exact Sv.new5 _ _ _ _ _ _ _ | exact (Sv.new5 _ _ _ _ _ _ _).gr ((Gr.refl _).drew)) (oc_one _) (by unfold maxLen; omega) (by omega) (by have h2 := Gr.size hb; (try simp at h2); (try simp); omega) ?_; intro v6 w6 hO6 hB6 hG6; have hb := Gr.and_below (show Gr wx _ from (by repeat (first | (with_reducible exact Gr.refl _) | (with_reducible assumption) | (with_reducible refine Gr.alloc ?_ _) | (with_reducible refine Gr.drew ?_) | (with_reducible refine Gr.drewN ?_ _) | (with_reducible refine Gr.setCell ?_ (by simp <;> omega) _) | (with_reducible refine Gr.trans ?_ (by with_reducible assumption)) | exact Gr.refl _ | assumption | refine Gr.alloc ?_ _ | refine Gr.drew ?_ | refine Gr.drewN ?_ _ | refine Gr.setCell ?_ (by simp <;> omega) _ | refine Gr.trans ?_ (by assumption)))) hB6 (Nat.le_refl _)))
    all_goals
      go_wp2
      go_ret2
      simp only [Nat.zero_add, List.nil_append] at hO6
      obtain ⟨A', c', rfl, hW⟩ := wv_of_own hO6
      exact ⟨A', c', rfl, hW.sv, HG.out.trans (by repeat (first | (with_reducible exact Gr.refl _) | (with_reducible assumption) | (with_reducible refine Gr.alloc ?_ _) | (with_reducible refine Gr.drew ?_) | (with_reducible refine Gr.drewN ?_ _) | (with_reducible refine Gr.setCell ?_ (by simp <;> omega) _) | (with_reducible refine Gr.trans ?_ (by with_reducible assumption)) | exact Gr.refl _ | assumption | refine Gr.alloc ?_ _ | refine Gr.drew ?_ | refine Gr.drewN ?_ _ | refine Gr.setCell ?_ (by simp <;> omega) _ | refine Gr.trans ?_ (by assumption)))⟩
set_option maxHeartbeats 2000000 in
set_option maxRecDepth 100000 in
theorem refUndo_4 (A : Option Addr) (n c : Nat) (gs : List (Int × ByteArray)) (nx sn pg : Int) (o : Nat) (b : ByteArray) (g' : List (Int × ByteArray)) (x' N' : Int) (hE : ixE nx gs sn = 0) (hx : (byG gs (fI gs sn)).size ≤ 100000) (ho : o + b.size ≤ (byG gs (fI gs sn)).size) (w : World) (hs : Sv w A n c 2 (sg gs)) (hb : Sh gs) (HA : HRp n nx 4 sn o pg b g' x' N' 0 A c w) :
    Calls Try.prog 37 #[.agg #[.slice A n c, .int .i64 nx], .agg #[.int .i64 4, .int .i64 sn, .int .i64 o, .int .i64 pg, .string b]] w (UnR (bbL sn (byG gs (fI gs sn)) o b) 0 w) := by
  obtain ⟨e1, e2, e3, -, -⟩ := ix_zero hE
  have hl := hs.segs
  have hn10 := (st_right e1).1
  have hp : plI gs sn = (fI gs sn : Int) := pl_yes e2 rfl
  obtain ⟨ob, oo, rfl, hbl, -⟩ := hs.at_ (show 0 < n by omega)
  unfold HRp at HA
  have HA := Lib.hid HA
  have HS := Lib.hid hs
  have HP := Lib.hid hp
  have HK := Lib.hid (fun W (hg : Gr w W) => ((hs.gr hg).seg (show fI gs sn < n by omega)).2)
  have hin : fI gs sn < n := by omega
  have hn : n ≤ 10 := by omega
  obtain ⟨i0, hi, iz0, iz1, iz2⟩ := info_parts infoOp
  clear hE hs hb e1 e2 e3 hl hp hn10
  generalize fI gs sn = i at *
  generalize byG gs i = x at *
  have hi1 : (i : Int) < n := by omega
  have hadd : IntKind.i64.wrap ((o : Int) + b.size) = (o : Int) + b.size := IntWalk.i64_in _ (by omega)
  have hsl := cut_ij x (o : Int) ((o : Int) + b.size) o (o + b.size) rfl (by omega) (by omega) ho
  go_enter Try.func37, Try.ntmps37
  go_upto_region 6 with (go_at_call 35; (with_reducible refine (HA.out _ (some ⟨w.heap.size + 1 + 1, 0, none⟩) 1 (by have h := Sv.new5 ((w.alloc (.cells #[.slice (some ⟨ob, oo, none⟩) n c, .int .i64 nx] 24)).alloc (.cells #[(.int .i64 4), .int .i64 sn, .int .i64 o, .int .i64 pg, .string b] 62)) (.int .i64 4) (.int .i64 sn) (.int .i64 o) (.int .i64 pg) (.string b) 62; simp only [World.size_alloc] at h; exact h) (by repeat (first | (with_reducible exact Gr.refl _) | (with_reducible assumption) | (with_reducible refine Gr.alloc ?_ _) | (with_reducible refine Gr.drew ?_) | (with_reducible refine Gr.drewN ?_ _) | (with_reducible refine Gr.setCell ?_ (by simp <;> omega) _) | (with_reducible refine Gr.trans ?_ (by with_reducible assumption)) | exact Gr.refl _ | assumption | refine Gr.alloc ?_ _ | refine Gr.drew ?_ | refine Gr.drewN ?_ _ | refine Gr.setCell ?_ (by simp <;> omega) _ | refine Gr.trans ?_ (by assumption)))).mono ?_); rintro e w1 ⟨A1, c1, rfl, hV1, hb⟩; clear hV1; obtain ⟨hc, hf⟩ := gcells hb (w.heap.size + 2) (by first | exact hz | (simp; done) | (simp; omega) | omega); have hz : w.heap.size + 2 ≤ w1.heap.size := (by have h := Gr.size hb; (try simp at h); omega); have hz0 : w.heap.size < w1.heap.size := (by omega); have hz1 : w.heap.size + 1 < w1.heap.size := (by omega))
  have b0 : w1.cell? ⟨w.heap.size, 0, none⟩ = some (.slice (some ⟨ob, oo, none⟩) n c) := by simp [go_sem, *]
  have b1 : w1.cell? ⟨w.heap.size, 1, none⟩ = some (.int .i64 nx) := by simp [go_sem, *]
  have q0 : w1.cell? ⟨w.heap.size + 1, 0, none⟩ = some (.int .i64 4) := by simp [go_sem, *]
  have q1 : w1.cell? ⟨w.heap.size + 1, 1, none⟩ = some (.int .i64 sn) := by simp [go_sem, *]
  have q2 : w1.cell? ⟨w.heap.size + 1, 2, none⟩ = some (.int .i64 o) := by simp [go_sem, *]
  have q3 : w1.cell? ⟨w.heap.size + 1, 3, none⟩ = some (.int .i64 pg) := by simp [go_sem, *]
  have q4 : w1.cell? ⟨w.heap.size + 1, 4, none⟩ = some (.string b) := by simp [go_sem, *]
  have hbX := (Gr.refl w1).alloc (.cells #[.slice A1 g'.length c1, .int .i64 x', .int .i64 N', .string ⟨#[]⟩, .int .i64 0] 39)
  have G1 := Lib.hid (show Gr w (w1.alloc (.cells #[.slice A1 g'.length c1, .int .i64 x', .int .i64 N', .string ⟨#[]⟩, .int .i64 0] 39)) from (by repeat (first | (with_reducible exact Gr.refl _) | (with_reducible assumption) | (with_reducible refine Gr.alloc ?_ _) | (with_reducible refine Gr.drew ?_) | (with_reducible refine Gr.drewN ?_ _) | (with_reducible refine Gr.setCell ?_ (by simp <;> omega) _) | (with_reducible refine Gr.trans ?_ (by with_reducible assumption)) | exact Gr.refl _ | assumption | refine Gr.alloc ?_ _ | refine Gr.drew ?_ | refine Gr.drewN ?_ _ | refine Gr.setCell ?_ (by simp <;> omega) _ | refine Gr.trans ?_ (by assumption))))
  have q0 := hbX.keep q0
  have q1 := hbX.keep q1
  have q2 := hbX.keep q2
  have q3 := hbX.keep q3
  have q4 := hbX.keep q4
  have b0 := hbX.keep b0
  have b1 := hbX.keep b1
  have k1 := HK.out _ G1.out
  have hz := World.block_lt_of_cell? _ _ b0
  have hz1 := World.block_lt_of_cell? _ _ q0
  clear hc hf hb HA HK hz0 hbX
  generalize w1.alloc (.cells #[.slice A1 g'.length c1, .int .i64 x', .int .i64 N', .string ⟨#[]⟩, .int .i64 0] 39) = W1 at *
  go_cut [7] (fun s7 wx => RuC W1 x s7 wx)
  case first =>
    go_region_held3 (fun w' => w'.cell? ⟨w.heap.size, 0, none⟩ = some (.slice (some ⟨ob, oo, none⟩) n c) ∧ w'.cell? ⟨w.heap.size, 1, none⟩ = some (.int .i64 nx) ∧ w'.cell? ⟨w.heap.size + 1, 0, none⟩ = some (.int .i64 4) ∧ w'.cell? ⟨w.heap.size + 1, 1, none⟩ = some (.int .i64 sn) ∧ w'.cell? ⟨w.heap.size + 1, 2, none⟩ = some (.int .i64 o) ∧ w'.cell? ⟨w.heap.size + 1, 3, none⟩ = some (.int .i64 pg) ∧ w'.cell? ⟨w.heap.size + 1, 4, none⟩ = some (.string b) ∧ w'.cell? ⟨ob, oo + i * 2 + 1, none⟩ = some (.string x)) (((try go_split_ands); (repeat' apply And.intro) <;> ((try simp only [World.cell?_drew]); first | (with_reducible assumption) | (simp [go_sem]; done) | ((repeat (first | (refine keepFar ?_ (by first | (dsimp only; omega) | (simp; done) | (simp; omega))) | (refine (Gr.alloc (Gr.refl _) _).keep ?_))); (try simp only [World.cell?_drew]); first | (with_reducible assumption) | (refine hb.keep ?_; (try simp only [World.cell?_drew]); first | (with_reducible assumption) | (simp [go_sem]; done) | ((repeat (refine (Gr.alloc (Gr.refl _) _).keep ?_)); (try simp only [World.cell?_drew]); (with_reducible assumption))) | (simp [*, go_sem]; done)))))
      ((go_at_call 62; (with_reducible refine (Place_is (some ⟨ob, oo, none⟩) n c gs nx sn i HP.out _ (HS.out.gr (G1.out.trans (by repeat (first | (with_reducible exact Gr.refl _) | (with_reducible assumption) | (with_reducible refine Gr.alloc ?_ _) | (with_reducible refine Gr.drew ?_) | (with_reducible refine Gr.drewN ?_ _) | (with_reducible refine Gr.setCell ?_ (by simp <;> omega) _) | (with_reducible refine Gr.trans ?_ (by with_reducible assumption)) | exact Gr.refl _ | assumption | refine Gr.alloc ?_ _ | refine Gr.drew ?_ | refine Gr.drewN ?_ _ | refine Gr.setCell ?_ (by simp <;> omega) _ | refine Gr.trans ?_ (by assumption)))))).mono ?_); rintro e w3 ⟨rfl, hb⟩))
    all_goals
      go_wp2_with fail
      go_meet
      exact ⟨rfl, (by repeat (first | (with_reducible exact Gr.refl _) | (with_reducible assumption) | (with_reducible refine Gr.alloc ?_ _) | (with_reducible refine Gr.drew ?_) | (with_reducible refine Gr.drewN ?_ _) | (with_reducible refine Gr.setCell ?_ (by simp <;> omega) _) | (with_reducible refine Gr.trans ?_ (by with_reducible assumption)) | exact Gr.refl _ | assumption | refine Gr.alloc ?_ _ | refine Gr.drew ?_ | refine Gr.drewN ?_ _ | refine Gr.setCell ?_ (by simp <;> omega) _ | refine Gr.trans ?_ (by assumption)))⟩
  case rest =>
    obtain ⟨rfl, hG⟩ := hcut
    have q0 := hG.keep q0
    have q1 := hG.keep q1
    have q2 := hG.keep q2
    have q3 := hG.keep q3
    have q4 := hG.keep q4
    have hz1 := World.block_lt_of_cell? _ _ q0
    have hz : w.heap.size < w.heap.size + 1 := Nat.lt_succ_self _
    rename World => wx
    have HG := Lib.hid (G1.out.trans hG)
    have hgx := Lib.hid (Nat.le_refl wx.heap.size)
    clear b0 b1 k1 G1 HS HP
    by_cases he : x.extract o (o + b.size) = b
    · have E := Lib.hid (show bbL sn x o b = [] by rw [bbL, if_pos he])
      rw [he] at hsl
      clear he
      go_wp2
      go_ret2
      rw [E.out]
      exact ⟨none, 0, rfl, Sv.nil _ _, HG.out.trans (by repeat (first | (with_reducible exact Gr.refl _) | (with_reducible assumption) | (with_reducible refine Gr.alloc ?_ _) | (with_reducible refine Gr.drew ?_) | (with_reducible refine Gr.drewN ?_ _) | (with_reducible refine Gr.setCell ?_ (by simp <;> omega) _) | (with_reducible refine Gr.trans ?_ (by with_reducible assumption)) | exact Gr.refl _ | assumption | refine Gr.alloc ?_ _ | refine Gr.drew ?_ | refine Gr.drewN ?_ _ | refine Gr.setCell ?_ (by simp <;> omega) _ | refine Gr.trans ?_ (by assumption)))⟩
    · have E := Lib.hid (show bbL sn x o b = [(4, sn, (o : Int), 0, x.extract o (o + b.size))] by rw [bbL, if_neg he])
      have hne : ((x.extract o (o + b.size)).toList == b.toList) = false := beq_eq_false_iff_ne.2 fun e => he (toList_inj e)
      clear he
      generalize x.extract o (o + b.size) = y at *
      go_wp2_with (at_builtin; go_loud (refine wp_append_sv _ rfl _ _ 55 62 rfl i0 (.agg #[.int .i64 0, .int .i64 0, .int .i64 0, .int .i64 0, .string ⟨#[]⟩]) 5 48 Try.underlying55 hi iz0 iz1 iz2 rfl (by omega) w.heap.size (.slice none 0 0) 0 [] rfl (World.ownsRow_nil _ _ _ _) _ 1 1 (oc [(4, sn, (o : Int), 0, y)]) rfl (Sv.new5 _ _ _ _ _ _ _) (oc_one _) (by unfold maxLen; omega) (by omega) (by have h := HG.out.size; (try simp); omega) ?_); intro v6 w6 hO6 hB6 hG6; have hb := Gr.and_below (HG.out.trans (by repeat (first | (with_reducible exact Gr.refl _) | (with_reducible assumption) | (with_reducible refine Gr.alloc ?_ _) | (with_reducible refine Gr.drew ?_) | (with_reducible refine Gr.drewN ?_ _) | (with_reducible refine Gr.setCell ?_ (by simp <;> omega) _) | (with_reducible refine Gr.trans ?_ (by with_reducible assumption)) | exact Gr.refl _ | assumption | refine Gr.alloc ?_ _ | refine Gr.drew ?_ | refine Gr.drewN ?_ _ | refine Gr.setCell ?_ (by simp <;> omega) _ | refine Gr.trans ?_ (by assumption)))) hB6 (Nat.le_refl _))
      go_ret2
      rw [E.out]
      simp only [Nat.zero_add, List.nil_append] at hO6
      obtain ⟨A', c', rfl, hW⟩ := wv_of_own hO6
      exact ⟨A', c', rfl, hW.sv, (by repeat (first | (with_reducible exact Gr.refl _) | (with_reducible assumption) | (with_reducible refine Gr.alloc ?_ _) | (with_reducible refine Gr.drew ?_) | (with_reducible refine Gr.drewN ?_ _) | (with_reducible refine Gr.setCell ?_ (by simp <;> omega) _) | (with_reducible refine Gr.trans ?_ (by with_reducible assumption)) | exact Gr.refl _ | assumption | refine Gr.alloc ?_ _ | refine Gr.drew ?_ | refine Gr.drewN ?_ _ | refine Gr.setCell ?_ (by simp <;> omega) _ | refine Gr.trans ?_ (by assumption)))⟩
end Go.Proofs.Ythbinjoiljddkaa
