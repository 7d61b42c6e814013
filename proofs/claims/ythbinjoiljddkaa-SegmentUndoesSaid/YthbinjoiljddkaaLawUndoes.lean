/- SegmentUndoes: for every store and operation the law returns true (the operations that lead back, or the error, are the reference's); no condition. -/
import Derived.Test.YthbinjoiljddkaaJc
import Derived.Test.YthbinjoiljddkaaOpen4
namespace Go.Proofs.Ythbinjoiljddkaa.lawUndoes
set_option linter.unusedSimpArgs false
set_option linter.unusedVariables false
open Go.Proofs.Ythbinjoiljddkaa
open Go.ChangeShapes Go.WideShapes Go.ChangeAt Go.RowKit Go.Joins Go.Deep

theorem size0 {x : ByteArray} (h : x.size = 0) : x = ⟨#[]⟩ := ba_ext (by rw [h]; rfl) fun i hi => by omega
/-- The reference's Undo of a truncation. -/
theorem refUndo_2 (A : Option Addr) (n c : Nat) (gs : List (Int × ByteArray)) (nx sn o : Int) (q : Nat) (b : ByteArray) (g' : List (Int × ByteArray)) (x' N' : Int) (hE : ixE nx gs sn = 0) (hxo : PgOk (byG gs (fI gs sn))) (hqf : (q : Int) ≤ pgs (byG gs (fI gs sn))) (w : World) (hs : Sv w A n c 2 (sg gs)) (hb : Sh gs) (HA : HRp n nx 2 sn o q b g' x' N' 0 A c w) :
    Calls Try.prog 37 #[.agg #[.slice A n c, .int .i64 nx], .agg #[.int .i64 2, .int .i64 sn, .int .i64 o, .int .i64 q, .string b]] w (UnR (pbL sn (byG gs (fI gs sn)) q) 0 w) := by
  obtain ⟨r, hr⟩ := Int.eq_ofNat_of_zero_le (show 0 ≤ pgs (byG gs (fI gs sn)) - q by omega)
  have hsum : 32 * q + 32 * r = (byG gs (fI gs sn)).size := by unfold pgs PgOk at *; omega
  have hx : (byG gs (fI gs sn)).size ≤ 287 := by unfold PgOk at hxo; omega
  obtain ⟨y, hy⟩ : ∃ y, (byG gs (fI gs sn)).extract (32 * q) (byG gs (fI gs sn)).size = y := ⟨_, rfl⟩
  have hys : y.size = 32 * r := by rw [← hy, ByteArray.size_extract]; omega
  have hz := zP_size r
  by_cases h0 : r = 0
  · have hl : pbL sn (byG gs (fI gs sn)) q = [] := by rw [pbL, if_pos (by omega)]
    rw [hl]
    have hy0 : y.toList = [] := by rw [size0 (x := y) (by omega), ByteArray.toList_eq]
    have hz0 : (zP r).toList = [] := by rw [size0 (x := zP r) (by omega), ByteArray.toList_eq]
    exact refUndo_2a A n c gs nx sn o q r b y (zP r) g' x' N' hE (by omega) hsum (by omega) hy rfl hys (by rw [hy0]; rfl) (by rw [hy0]; rfl) (by rw [hy0]; rfl) (by rw [hy0, hz0]; rfl) w hs hb HA
  have hn : y.toList ≠ [] := fun e => by
    have h := toList_inj (a := y) (b := ⟨#[]⟩) (by rw [e, ByteArray.toList_eq])
    rw [h] at hys
    have : (⟨#[]⟩ : ByteArray).size = 0 := rfl
    omega
  have hem : y.toList.isEmpty = false := by
    cases h : y.toList with
    | nil => exact absurd h hn
    | cons u v => rfl
  have hl : pbL sn (byG gs (fI gs sn)) q = (1, sn, 0, (r : Int), ⟨#[]⟩) :: bbL sn (byG gs (fI gs sn)) (32 * q) (zP r) := by
    rw [pbL, if_neg (by omega), hr, Int.toNat_natCast]
  have hex : (byG gs (fI gs sn)).extract (32 * q) (32 * q + (zP r).size) = y := by rw [hz, hsum, hy]
  rw [hl]
  unfold bbL
  rw [hex]
  by_cases he : y = zP r
  · rw [if_pos he]
    exact refUndo_2b A n c gs nx sn o q r b y (zP r) g' x' N' hE (by omega) hsum (by omega) hy rfl hys hem (beq_eq_false_iff_ne.2 hn) (beq_eq_false_iff_ne.2 (Ne.symm hn)) (by rw [he]; exact beq_self_eq_true _) w hs hb HA
  · rw [if_neg he, show ((32 * q : Nat) : Int) = (q : Int) * 32 by omega]
    exact refUndo_2c A n c gs nx sn o q r b y (zP r) g' x' N' hE (by omega) hsum (by omega) hy rfl hys hem (beq_eq_false_iff_ne.2 hn) (beq_eq_false_iff_ne.2 (Ne.symm hn)) (beq_eq_false_iff_ne.2 fun e => he (toList_inj e)) w hs hb HA
set_option maxHeartbeats 2000000 in
set_option maxRecDepth 100000 in
theorem ss_large (A : Option Addr) (n c : Nat) (gs : List (Int × ByteArray)) (nx kd sn o pg : Int) (b : ByteArray) (w : World) (hs : Sv w A n c 2 (sg gs)) (hb : Sh gs) (hf : fewB gs = false ∨ (fewB gs = true ∧ (400 : Int) < b.size)) :
    Calls Try.prog 8 #[.agg #[.slice A n c, .int .i64 nx], .agg #[.int .i64 kd, .int .i64 sn, .int .i64 o, .int .i64 pg, .string b]] w fun e w' => e = .returned (.bool true) ∧ Gr w w' := by
  rcases hf with hf | ⟨hf, hd⟩
  all_goals
    have HF := Lib.hid (fun W hg => few_is A n c gs nx _ hf W (hs.gr hg) hb)
    clear hs hb hf
    go_enter Try.func8, Try.ntmps8
    go_wp2_with (first | (go_at_call 12; (with_reducible refine (awake_any _).mono ?_); rintro e w1 ⟨rfl, hb⟩; obtain ⟨hc, hf⟩ := gcells hb (w.heap.size + 2) (by first | exact hz | omega | (simp; done) | (simp; omega)); have hz : w.heap.size + 2 ≤ w1.heap.size := (by have h := hb.size; (try simp at h); omega); have hz0 : w.heap.size < w1.heap.size := (by omega)) | (go_at_call 13; (with_reducible refine (HF.out _ (by repeat (first | (with_reducible exact Gr.refl _) | (with_reducible assumption) | (with_reducible refine Gr.alloc ?_ _) | (with_reducible refine Gr.drew ?_) | (with_reducible refine Gr.drewN ?_ _) | (with_reducible refine Gr.setCell ?_ (by simp <;> omega) _) | (with_reducible refine Gr.trans ?_ (by with_reducible assumption)) | exact Gr.refl _ | assumption | refine Gr.alloc ?_ _ | refine Gr.drew ?_ | refine Gr.drewN ?_ _ | refine Gr.setCell ?_ (by simp <;> omega) _ | refine Gr.trans ?_ (by assumption)))).mono ?_); rintro e w1 ⟨rfl, hb⟩; obtain ⟨hc, hf⟩ := gcells hb (w.heap.size + 2) (by first | exact hz | omega | (simp; done) | (simp; omega)); have hz : w.heap.size + 2 ≤ w1.heap.size := (by have h := hb.size; (try simp at h); omega); have hz0 : w.heap.size < w1.heap.size := (by omega)))
    go_ret
    exact ⟨rfl, (by repeat (first | (with_reducible exact Gr.refl _) | (with_reducible assumption) | (with_reducible refine Gr.alloc ?_ _) | (with_reducible refine Gr.drew ?_) | (with_reducible refine Gr.drewN ?_ _) | (with_reducible refine Gr.setCell ?_ (by simp <;> omega) _) | (with_reducible refine Gr.trans ?_ (by with_reducible assumption)) | exact Gr.refl _ | assumption | refine Gr.alloc ?_ _ | refine Gr.drew ?_ | refine Gr.drewN ?_ _ | refine Gr.setCell ?_ (by simp <;> omega) _ | refine Gr.trans ?_ (by assumption)))⟩
set_option maxHeartbeats 4000000 in
set_option maxRecDepth 100000 in
theorem ss_walk (A : Option Addr) (n c : Nat) (gs : List (Int × ByteArray)) (nx kd sn o pg F : Int) (l : List (Int × Int × Int × Int × ByteArray)) (b : ByteArray) (w : World) (hs : Sv w A n c 2 (sg gs)) (hb : Sh gs) (hf : fewB gs = true) (hd : (b.size : Int) ≤ 400) (hn : n ≤ 1000000) (L : Nat) (hL : l.length = L)
    (HU : (∀ W A c, Sv W A n c 2 (sg gs) → Calls Try.prog 36 #[.agg #[.slice A n c, .int .i64 nx], .agg #[.int .i64 kd, .int .i64 sn, .int .i64 o, .int .i64 pg, .string b]] W (UnR l F W)))
    (HR : ∀ W, Gr w W → Calls Try.prog 37 #[.agg #[.slice A n c, .int .i64 nx], .agg #[.int .i64 kd, .int .i64 sn, .int .i64 o, .int .i64 pg, .string b]] W (UnR l F W)) :
    Calls Try.prog 8 #[.agg #[.slice A n c, .int .i64 nx], .agg #[.int .i64 kd, .int .i64 sn, .int .i64 o, .int .i64 pg, .string b]] w fun e w' => e = .returned (.bool true) ∧ Gr w w' := by
  have HF := Lib.hid (fun W hg => few_is A n c gs nx true hf W (hs.gr hg) hb)
  have HO := Lib.hid (fun W hg => Own_n A n c gs nx W (hs.gr hg) hn)
  have HU' := Lib.hid HU
  have HR' := Lib.hid HR
  unfold UnR at HU' HR'
  rw [hL] at HU' HR'
  clear hs hb hf HU HR
  go_enter Try.func8, Try.ntmps8
  go_upto_region 5 with (first | (go_at_call 12; (with_reducible refine (awake_any _).mono ?_); rintro e w1 ⟨rfl, hb⟩; obtain ⟨hc, hf⟩ := gcells hb (w.heap.size + 2) (by first | exact hz | omega | (simp; done) | (simp; omega)); have hz : w.heap.size + 2 ≤ w1.heap.size := (by have h := hb.size; (try simp at h); omega); have hz0 : w.heap.size < w1.heap.size := (by omega)) | (go_at_call 13; (with_reducible refine (HF.out _ (by repeat (first | (with_reducible exact Gr.refl _) | (with_reducible assumption) | (with_reducible refine Gr.alloc ?_ _) | (with_reducible refine Gr.drew ?_) | (with_reducible refine Gr.drewN ?_ _) | (with_reducible refine Gr.setCell ?_ (by simp <;> omega) _) | (with_reducible refine Gr.trans ?_ (by with_reducible assumption)) | exact Gr.refl _ | assumption | refine Gr.alloc ?_ _ | refine Gr.drew ?_ | refine Gr.drewN ?_ _ | refine Gr.setCell ?_ (by simp <;> omega) _ | refine Gr.trans ?_ (by assumption)))).mono ?_); rintro e w1 ⟨rfl, hb⟩; obtain ⟨hc, hf⟩ := gcells hb (w.heap.size + 2) (by first | exact hz | omega | (simp; done) | (simp; omega)); have hz : w.heap.size + 2 ≤ w1.heap.size := (by have h := hb.size; (try simp at h); omega); have hz0 : w.heap.size < w1.heap.size := (by omega)))
  have q0 : w1.cell? ⟨w.heap.size, 0, none⟩ = some (.slice A n c) ∧ w1.cell? ⟨w.heap.size, 1, none⟩ = some (.int .i64 nx) ∧ w1.cell? ⟨w.heap.size + 1, 0, none⟩ = some (.int .i64 kd) ∧ w1.cell? ⟨w.heap.size + 1, 1, none⟩ = some (.int .i64 sn) ∧ w1.cell? ⟨w.heap.size + 1, 2, none⟩ = some (.int .i64 o) ∧ w1.cell? ⟨w.heap.size + 1, 3, none⟩ = some (.int .i64 pg) ∧ w1.cell? ⟨w.heap.size + 1, 4, none⟩ = some (.string b) := by refine ⟨?_, ?_, ?_, ?_, ?_, ?_, ?_⟩ <;> simp [go_sem, *]
  have G1 := Lib.hid (show Gr w w1 from (by repeat (first | (with_reducible exact Gr.refl _) | (with_reducible assumption) | (with_reducible refine Gr.alloc ?_ _) | (with_reducible refine Gr.drew ?_) | (with_reducible refine Gr.drewN ?_ _) | (with_reducible refine Gr.setCell ?_ (by simp <;> omega) _) | (with_reducible refine Gr.trans ?_ (by with_reducible assumption)) | exact Gr.refl _ | assumption | refine Gr.alloc ?_ _ | refine Gr.drew ?_ | refine Gr.drewN ?_ _ | refine Gr.setCell ?_ (by simp <;> omega) _ | refine Gr.trans ?_ (by assumption))))
  obtain ⟨b0, b1, b2, b3, b4, b5, b6⟩ := q0
  clear hc hf hb hz0
  generalize w1 = W1 at *
  go_region_held3 (fun w' => w'.cell? ⟨w.heap.size, 0, none⟩ = some (.slice A n c) ∧ w'.cell? ⟨w.heap.size, 1, none⟩ = some (.int .i64 nx) ∧ w'.cell? ⟨w.heap.size + 1, 0, none⟩ = some (.int .i64 kd) ∧ w'.cell? ⟨w.heap.size + 1, 1, none⟩ = some (.int .i64 sn) ∧ w'.cell? ⟨w.heap.size + 1, 2, none⟩ = some (.int .i64 o) ∧ w'.cell? ⟨w.heap.size + 1, 3, none⟩ = some (.int .i64 pg) ∧ w'.cell? ⟨w.heap.size + 1, 4, none⟩ = some (.string b)) (((try go_split_ands); (repeat' apply And.intro) <;> ((try simp only [World.cell?_drew]); first | (with_reducible assumption) | (simp [go_sem]; done) | ((repeat (first | (refine keepFar ?_ (by first | (dsimp only; omega) | (simp; done) | (simp; omega))) | (refine (Gr.alloc (Gr.refl _) _).keep ?_))); (try simp only [World.cell?_drew]); first | (with_reducible assumption) | (refine hb.keep ?_; (try simp only [World.cell?_drew]); first | (with_reducible assumption) | (simp [go_sem]; done) | ((repeat (refine (Gr.alloc (Gr.refl _) _).keep ?_)); (try simp only [World.cell?_drew]); (with_reducible assumption))) | (simp [*, go_sem]; done)))))
    (first
      | (go_at_call 15; (with_reducible refine (HO.out _ (G1.out.trans (by repeat (first | (with_reducible exact Gr.refl _) | (with_reducible assumption) | (with_reducible refine Gr.alloc ?_ _) | (with_reducible refine Gr.drew ?_) | (with_reducible refine Gr.drewN ?_ _) | (with_reducible refine Gr.setCell ?_ (by simp <;> omega) _) | (with_reducible refine Gr.trans ?_ (by with_reducible assumption)) | exact Gr.refl _ | assumption | refine Gr.alloc ?_ _ | refine Gr.drew ?_ | refine Gr.drewN ?_ _ | refine Gr.setCell ?_ (by simp <;> omega) _ | refine Gr.trans ?_ (by assumption))))).mono ?_); rintro e w2 ⟨A2, c2, rfl, hV, hb, hzz⟩; have HV := Lib.hid hV; clear hV hzz)
      | (go_at_call 36; (with_reducible refine (HU'.out _ _ _ (HV.out.sv.gr (by repeat (first | (with_reducible exact Gr.refl _) | (with_reducible assumption) | (with_reducible refine Gr.alloc ?_ _) | (with_reducible refine Gr.drew ?_) | (with_reducible refine Gr.drewN ?_ _) | (with_reducible refine Gr.setCell ?_ (by simp <;> omega) _) | (with_reducible refine Gr.trans ?_ (by with_reducible assumption)) | exact Gr.refl _ | assumption | refine Gr.alloc ?_ _ | refine Gr.drew ?_ | refine Gr.drewN ?_ _ | refine Gr.setCell ?_ (by simp <;> omega) _ | refine Gr.trans ?_ (by assumption))))).mono ?_); rintro e w3 ⟨B3, cb3, rfl, hV3, hb3⟩; have HV3 := Lib.hid hV3; clear hV3; have hb := hb.trans (Gr.trans (by repeat (first | (with_reducible exact Gr.refl _) | (with_reducible assumption) | (with_reducible refine Gr.alloc ?_ _) | (with_reducible refine Gr.drew ?_) | (with_reducible refine Gr.drewN ?_ _) | (with_reducible refine Gr.setCell ?_ (by simp <;> omega) _) | (with_reducible refine Gr.trans ?_ (by with_reducible assumption)) | exact Gr.refl _ | assumption | refine Gr.alloc ?_ _ | refine Gr.drew ?_ | refine Gr.drewN ?_ _ | refine Gr.setCell ?_ (by simp <;> omega) _ | refine Gr.trans ?_ (by assumption))) hb3)))
  all_goals
    have e0 := hb.keep (p := ⟨w.heap.size, 0, none⟩) (v := .slice A n c) b0
    have e1 := hb.keep (p := ⟨w.heap.size, 1, none⟩) (v := .int .i64 nx) b1
    have e2 := hb.keep (p := ⟨w.heap.size + 1, 0, none⟩) (v := .int .i64 kd) b2
    have e3 := hb.keep (p := ⟨w.heap.size + 1, 1, none⟩) (v := .int .i64 sn) b3
    have e4 := hb.keep (p := ⟨w.heap.size + 1, 2, none⟩) (v := .int .i64 o) b4
    have e5 := hb.keep (p := ⟨w.heap.size + 1, 3, none⟩) (v := .int .i64 pg) b5
    have e6 := hb.keep (p := ⟨w.heap.size + 1, 4, none⟩) (v := .string b) b6
    have hy0 := World.block_lt_of_cell? _ _ e0
    have hy1 := World.block_lt_of_cell? _ _ e2
    have G3 := Lib.hid (G1.out.trans ((Gr.refl _).drew.trans hb))
    clear b0 b1 b2 b3 b4 b5 b6 hb hb3 HV G1 HF HO HU'
    go_wp2_with (first
      | (go_at_call 37; (with_reducible refine (HR'.out _ (G3.out.trans (by repeat (first | (with_reducible exact Gr.refl _) | (with_reducible assumption) | (with_reducible refine Gr.alloc ?_ _) | (with_reducible refine Gr.drew ?_) | (with_reducible refine Gr.drewN ?_ _) | (with_reducible refine Gr.setCell ?_ (by simp <;> omega) _) | (with_reducible refine Gr.trans ?_ (by with_reducible assumption)) | exact Gr.refl _ | assumption | refine Gr.alloc ?_ _ | refine Gr.drew ?_ | refine Gr.drewN ?_ _ | refine Gr.setCell ?_ (by simp <;> omega) _ | refine Gr.trans ?_ (by assumption))))).mono ?_); rintro e w4 ⟨B4, cb4, rfl, hV4, hb4⟩; have HV4 := Lib.hid hV4; clear hV4)
      | (go_at_call 38; (with_reducible refine (SameOps_any B3 B4 L cb3 cb4 l _ (HV3.out.gr (by repeat (first | (with_reducible exact Gr.refl _) | (with_reducible assumption) | (with_reducible refine Gr.alloc ?_ _) | (with_reducible refine Gr.drew ?_) | (with_reducible refine Gr.drewN ?_ _) | (with_reducible refine Gr.setCell ?_ (by simp <;> omega) _) | (with_reducible refine Gr.trans ?_ (by with_reducible assumption)) | exact Gr.refl _ | assumption | refine Gr.alloc ?_ _ | refine Gr.drew ?_ | refine Gr.drewN ?_ _ | refine Gr.setCell ?_ (by simp <;> omega) _ | refine Gr.trans ?_ (by assumption)))) (HV4.out.gr (by repeat (first | (with_reducible exact Gr.refl _) | (with_reducible assumption) | (with_reducible refine Gr.alloc ?_ _) | (with_reducible refine Gr.drew ?_) | (with_reducible refine Gr.drewN ?_ _) | (with_reducible refine Gr.setCell ?_ (by simp <;> omega) _) | (with_reducible refine Gr.trans ?_ (by with_reducible assumption)) | exact Gr.refl _ | assumption | refine Gr.alloc ?_ _ | refine Gr.drew ?_ | refine Gr.drewN ?_ _ | refine Gr.setCell ?_ (by simp <;> omega) _ | refine Gr.trans ?_ (by assumption))))).mono ?_); rintro e w5 ⟨rfl, hb5⟩))
    go_ret
    exact ⟨ret_bool (by simp), G3.out.trans (by repeat (first | (with_reducible exact Gr.refl _) | (with_reducible assumption) | (with_reducible refine Gr.alloc ?_ _) | (with_reducible refine Gr.drew ?_) | (with_reducible refine Gr.drewN ?_ _) | (with_reducible refine Gr.setCell ?_ (by simp <;> omega) _) | (with_reducible refine Gr.trans ?_ (by with_reducible assumption)) | exact Gr.refl _ | assumption | refine Gr.alloc ?_ _ | refine Gr.drew ?_ | refine Gr.drewN ?_ _ | refine Gr.setCell ?_ (by simp <;> omega) _ | refine Gr.trans ?_ (by assumption)))⟩

theorem law (A : Option Addr) (n c : Nat) (gs : List (Int × ByteArray)) (nx kd sn o pg : Int) (b : ByteArray) (w : World) (hs : Sv w A n c 2 (sg gs)) (hb : Sh gs) (_hx : (Lit.int .i64 nx).wf = true) (hbz : b.size ≤ maxLen) :
    Calls Try.prog 8 #[.agg #[.slice A n c, .int .i64 nx], .agg #[.int .i64 kd, .int .i64 sn, .int .i64 o, .int .i64 pg, .string b]] w fun e w' => e = .returned (.bool true) ∧ Gr w w' := by
  rcases Bool.eq_false_or_eq_true (fewB gs) with hf | hf
  rotate_left
  · exact ss_large A n c gs nx kd sn o pg b w hs hb (.inl hf)
  by_cases hd : (400 : Int) < b.size
  · exact ss_large A n c gs nx kd sn o pg b w hs hb (.inr ⟨hf, hd⟩)
  have hlen := hs.segs
  have hn : n ≤ 1000000 := by have := (few_yes hf).1; omega
  obtain ⟨⟨g', x', N', E'⟩, hr⟩ : ∃ r, alR nx gs [(kd, sn, o, pg, b)] = r := ⟨_, rfl⟩
  by_cases hE : E' = 0
  rotate_left
  · exact ss_walk A n c gs nx kd sn o pg E' [] b w hs hb hf (by omega) hn 0 rfl (fun W A c h => Undo_err A n c nx kd sn o pg b g' x' N' E' hE W (hAp A n c gs nx kd sn o pg b hbz W h hb g' x' N' E' hr)) (fun W hg => refUndo_err A n c nx kd sn o pg b g' x' N' E' hE W (hRp A n c gs nx kd sn o pg b hbz W (hs.gr hg) hb g' x' N' E' hr))
  subst hE
  by_cases hk : kd = 0 ∨ kd = 3
  · exact ss_walk A n c gs nx kd sn o pg 39 [] b w hs hb hf (by omega) hn 0 rfl (fun W A c h => Undo_ref A n c nx kd sn o pg b g' x' N' hk W (hAp A n c gs nx kd sn o pg b hbz W h hb g' x' N' 0 hr)) (fun W hg => refUndo_ref A n c nx kd sn o pg b g' x' N' hk W (hRp A n c gs nx kd sn o pg b hbz W (hs.gr hg) hb g' x' N' 0 hr))
  have hk0 : kd ≠ 0 := fun e => hk (.inl e)
  have hk3 : kd ≠ 3 := fun e => hk (.inr e)
  have hst : stE nx gs = 0 := by
    by_cases h : stE nx gs = 0
    · exact h
    · rw [alR, if_pos h] at hr
      unfold bad at hr
      simp only [Prod.mk.injEq] at hr
      exact hr.2.2.2
  have hop : (opR nx gs kd sn o pg b).2.2.2 = 0 := by
    by_cases h : (opR nx gs kd sn o pg b).2.2.2 = 0
    · exact h
    · rw [al_one hst, if_pos h] at hr
      simp only [Prod.mk.injEq] at hr
      exact hr.2.2.2
  obtain ⟨y, hy, ho, hu⟩ := undone hop hk0 hk3
  obtain ⟨hix, hcase⟩ := undo_case hop hk0 hk3
  obtain ⟨e1, e2, e3, -⟩ := ix_zero hix
  have hxo := seg_ok hix
  have hx : (byG gs (fI gs sn)).size ≤ 287 := by unfold PgOk at hxo; omega
  have hr1 : alR nx gs [(kd, sn, o, pg, b)] = (setG gs (fI gs sn) y, nx, 1, 0) := by rw [al_one hst, ho]; rfl
  have HB : ∀ W, Calls Try.prog 61 #[.agg #[.int .i64 sn, .string (byG gs (fI gs sn))], .agg #[.int .i64 kd, .int .i64 sn, .int .i64 o, .int .i64 pg, .string b]] W (OpsR (unL gs kd sn o pg b) W) := by
    intro W
    rcases hcase with ⟨rfl, rfl, rfl, q, rfl, hq, hqf⟩ | ⟨rfl, rfl, rfl, q, rfl, hq, hqf⟩ | ⟨rfl, rfl, p, rfl, hpf⟩
    · have hl : unL gs 1 sn 0 q ⟨#[]⟩ = [(2, sn, 0, pgs (byG gs (fI gs sn)), ⟨#[]⟩)] := by rw [unL, if_pos rfl]
      rw [hl]
      exact backTo_1 sn _ sn 0 q ⟨#[]⟩ (by unfold maxLen; omega) W
    · have hl : unL gs 2 sn 0 q ⟨#[]⟩ = pbL sn (byG gs (fI gs sn)) q := by rw [unL, if_neg (by decide), if_pos rfl, Int.toNat_natCast]
      rw [hl]
      exact backTo_2 sn _ sn 0 q ⟨#[]⟩ _ (fun W => pagesBack_any sn _ q hqf hx (by unfold PgOk at hxo; omega) W) W
    · have hl : unL gs 4 sn p 0 b = bbL sn (byG gs (fI gs sn)) p b := by rw [unL, if_neg (by decide), if_neg (by decide), Int.toNat_natCast]
      rw [hl]
      exact backTo_4 sn _ sn p 0 b _ (fun W => bytesBack_any sn _ p p rfl b hpf (by omega) W) W
  have HRR : ∀ W, Gr w W → Calls Try.prog 37 #[.agg #[.slice A n c, .int .i64 nx], .agg #[.int .i64 kd, .int .i64 sn, .int .i64 o, .int .i64 pg, .string b]] W (UnR (unL gs kd sn o pg b) 0 W) := by
    intro W hg
    have HA := hRp A n c gs nx kd sn o pg b hbz W (hs.gr hg) hb _ nx 1 0 hr1
    rcases hcase with ⟨rfl, rfl, rfl, q, rfl, hq, hqf⟩ | ⟨rfl, rfl, rfl, q, rfl, hq, hqf⟩ | ⟨rfl, rfl, p, rfl, hpf⟩
    · have hl : unL gs 1 sn 0 q ⟨#[]⟩ = [(2, sn, 0, pgs (byG gs (fI gs sn)), ⟨#[]⟩)] := by rw [unL, if_pos rfl]
      rw [hl]
      exact refUndo_1 A n c gs nx sn 0 q ⟨#[]⟩ _ nx 1 hix (by unfold maxLen; omega) W (hs.gr hg) hb HA
    · have hl : unL gs 2 sn 0 q ⟨#[]⟩ = pbL sn (byG gs (fI gs sn)) q := by rw [unL, if_neg (by decide), if_pos rfl, Int.toNat_natCast]
      rw [hl]
      exact refUndo_2 A n c gs nx sn 0 q ⟨#[]⟩ _ nx 1 hix hxo hqf W (hs.gr hg) hb HA
    · have hl : unL gs 4 sn p 0 b = bbL sn (byG gs (fI gs sn)) p b := by rw [unL, if_neg (by decide), if_neg (by decide), Int.toNat_natCast]
      rw [hl]
      exact refUndo_4 A n c gs nx sn 0 p b _ nx 1 hix (by omega) hpf W (hs.gr hg) hb HA
  exact ss_walk A n c gs nx kd sn o pg 0 _ b w hs hb hf (by omega) hn _ rfl (fun W A c h => Undo_ok A n c gs nx kd sn o pg b _ nx 1 (by simp [hk0]) (by simp [hk3]) hix _ W h hb (hAp A n c gs nx kd sn o pg b hbz W h hb _ nx 1 0 hr1) HB) HRR

section
variable {H : Type} {enc : TypeId × Value → H} {w : World} {base : Nat} {held : Bool}
set_option maxRecDepth 100000 in
theorem open_op1 {r : Reach} {b0 : Nat} {v : Value} {d : DataW H} {p : List MemPlace} (hv : Value.okWide Try.prog w r b0 62 v) (h : DataW.Trod enc Try.prog w base (fun _ => true) held 62 v d p) :
    ∃ (kd sn o pg : Int) (b : ByteArray), v = .agg #[.int .i64 kd, .int .i64 sn, .int .i64 o, .int .i64 pg, .string b] ∧ b.size ≤ maxLen := by
  obtain ⟨cs, rfl, hsz⟩ := okWide_struct Try.underlying62 hv
  obtain ⟨fuel, hf⟩ := h
  obtain ⟨kd, sn, o, pg, b, e, wb⟩ := open_op5 (by simpa [Value.cells] using hsz.trans cells_op) hf
  refine ⟨kd, sn, o, pg, b, ?_, wb⟩
  congr 1
  apply Array.toList_inj.1
  simpa [Value.cells] using e
end

set_option maxRecDepth 100000 in
theorem lifted (os : Os) (started : os.Started) (H : Type) (enc : TypeId × Value → H) :
    ReturnsInHanded {} Try.checked os 8 .any (Rows.segmentUndoesSpec.pre6 enc Try.prog Try.f8 Rows.segmentUndoesRow.domain false) (Rows.segmentUndoesSpec.post enc Try.prog Try.f8 false true false false) := by
  refine returnsInHanded_of_change (C := Try.checked) own_knob started (by kernel_rfl) Try.func8
    (ChangeSpec.witness6 (enc := enc) (C := Try.checked) false ⟨#[], #[.agg #[.slice none 0 0, .int .i64 0], .agg #[.int .i64 0, .int .i64 0, .int .i64 0, .int .i64 0, .string ⟨#[]⟩]], []⟩ 8 (by kernel_rfl) (by kernel_rfl) (by kernel_rfl) (by kernel_rfl)) ?_
  intro W base args ds gs before hval0 hW hcnd _
  have hval : ∀ (j : Nat) t v, Try.f8.params[j]? = some t → args[j]? = some v → Value.okWide Try.prog W .any base t v := hval0
  have hW' := hW
  obtain ⟨p, q, hA0, hV, rfl, hfz, hnd⟩ := hW
  have hA : DataW.TrodAll enc Try.prog W 0 (fun _ => true) true Try.f8.params.toList args.toList ds p := hA0
  rw [Try.params8] at hA hval
  obtain ⟨v0, vs0, d0, ds0, p0, q0, hargs, rfl, rfl, h0, r0⟩ := trodAll_cons hA
  obtain ⟨v1, vs1, d1, ds1, p1, q1, hargs1, rfl, rfl, h1, r1⟩ := trodAll_cons r0
  obtain ⟨hvz, rfl, rfl⟩ := trodAll_nil r1
  rw [hvz] at hargs1
  rw [hargs1] at hargs
  obtain rfl : args = #[v0, v1] := by cases args; simp_all
  obtain ⟨rfl, rfl⟩ := trodVars_none hV
  obtain ⟨A, n, c, gs, nx, rfl, hs, hb, hx⟩ := open_sto (hval 0 24 v0 rfl rfl) h0
  obtain ⟨kd, sn, o, pg, b, rfl, hbz⟩ := open_op1 (hval 1 62 v1 rfl rfl) h1
  refine (law A n c gs nx kd sn o pg b W hs hb hx hbz).mono fun e W' ⟨he, hg⟩ => ?_
  subst he
  have hB : Below W.heap.size W W' := hg
  have hlt := fun x hx => hW'.lt x hx
  have hst := fun (sp' : Nat → Bool) => trodAll_stay laidOut (sp' := sp') (by kernel_rfl) hA0 (fun x hx => hB.same (hlt x (List.mem_append_left _ hx)))
  refine ⟨_, rfl, _, _, _, [], _, [], hW', (trodAll_cons_mk (shut_bool Try.underlying4 _) trodAll_mk0), hst _ (fun x hx => by simpa using hlt x (List.mem_append_left _ hx)), rfl, ?_, fun h => by cases h⟩
  exact World.keptBut_mono (fun x hx => ⟨hx, Or.inr (by simpa using hx)⟩) (hB.frame (· ∈ _))

theorem proved : Rows.SegmentUndoesSaid :=
  OpenClaim.holds_of_wide 8 Try.f8 rfl rfl rfl rfl rfl rfl rfl ⟨rfl, rfl, rfl, rfl, rfl⟩ rfl rfl rfl rfl rfl (by kernel_rfl) Try.func8 (by kernel_rfl)
    (of_decide_eq_true (by kernel_rfl)) (by unfold Func.isWrapper; first | (rw [if_pos (by decide +kernel)]; kernel_rfl) | (rw [if_neg (by decide +kernel)]; exact ⟨rfl, rfl⟩))
    (fun os started H enc _ => lifted os started H enc)
#print axioms proved
end Go.Proofs.Ythbinjoiljddkaa.lawUndoes
