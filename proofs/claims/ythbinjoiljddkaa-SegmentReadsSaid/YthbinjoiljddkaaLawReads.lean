/- SegmentReads: for every store and every span the law returns true (what was written is read, all other bytes are as they were); no condition. -/
import Derived.Test.YthbinjoiljddkaaHt
import Derived.Test.YthbinjoiljddkaaRdA
namespace Go.Proofs.Ythbinjoiljddkaa.lawReads
set_option linter.unusedSimpArgs false
set_option linter.unusedVariables false
open Go.Proofs.Ythbinjoiljddkaa
open Go.ChangeShapes Go.WideShapes Go.ChangeAt Go.RowKit Go.Joins Go.Deep

set_option maxHeartbeats 4000000 in
set_option maxRecDepth 100000 in
theorem sr_walk (A : Option Addr) (n c : Nat) (gs gb : List (Int × ByteArray)) (nx k a l : Int) (d : ByteArray) (w : World) (hs : Sv w A n c 2 (sg gs)) (hb : Sh gs) (hf : fewB gs = true) (hd : (d.size : Int) ≤ 400) (hn : n ≤ 1000000) (ha : 0 ≤ a ∧ a ≤ 400) (hn0 : 0 < n)
    (HW : (∀ W A c, Sv W A n c 2 (sg gs) → Calls Try.prog 29 #[.agg #[.slice A n c, .int .i64 nx], .agg #[.int .i64 k, .int .i64 a], .string d] W (lawBytes.Wr2 gb n nx 0 W)))
    (HT : (∀ W A c, Sv W A n c 2 (sg gb) → Calls Try.prog 28 #[.agg #[.slice A n c, .int .i64 nx], .agg #[.int .i64 k, .int .i64 a], .int .i64 d.size] W fun e w' => e = .returned (.tuple #[.string d, .int .i64 0]) ∧ Gr W w'))
    (HU : (∀ j p : Nat, j < n → p < (byG gs j).size → (nuG gs j = k → (p : Int) < a ∨ a + d.size ≤ p) → ∀ W A c, Sv W A n c 2 (sg gb) → Calls Try.prog 28 #[.agg #[.slice A n c, .int .i64 nx], .agg #[.int .i64 (nuG gs j), .int .i64 p], .int .i64 1] W fun e w' => e = .returned (.tuple #[.string ((byG gs j).extract p (p + 1)), .int .i64 0]) ∧ Gr W w')) :
    Calls Try.prog 11 #[.agg #[.slice A n c, .int .i64 nx], .agg #[.int .i64 k, .int .i64 a, .int .i64 l, .string d]] w fun e w' => e = .returned (.bool true) ∧ Gr w w' := by
  obtain ⟨bb, bo, rfl, hbbl, -⟩ := hs.at_ hn0
  have HF := Lib.hid (fun W hg => few_is (some ⟨bb, bo, none⟩) n c gs nx true hf W (hs.gr hg) hb)
  have HO := Lib.hid (fun W hg => Own_n (some ⟨bb, bo, none⟩) n c gs nx W (hs.gr hg) hn)
  have HW' := Lib.hid HW
  have HT' := Lib.hid HT
  have HU' := Lib.hid HU
  have HS := Lib.hid hs
  have HN := Lib.hid hs.segs
  have HFY := Lib.hid (few_yes hf)
  have ha0 := ha.1
  have ha4 := ha.2
  clear hs hb hf HW HT HU ha
  go_enter Try.func11, Try.ntmps11
  go_upto_region 5 with (first | (go_at_call 12; (with_reducible refine (awake_any _).mono ?_); rintro e w1 ⟨rfl, hb⟩; obtain ⟨hc, hf⟩ := gcells hb (w.heap.size + 2) (by first | exact hz | omega | (simp; done) | (simp; omega)); have hz : w.heap.size + 2 ≤ w1.heap.size := (by have h := hb.size; (try simp at h); omega); have hz0 : w.heap.size < w1.heap.size := (by omega)) | (go_at_call 13; (with_reducible refine (HF.out _ (by repeat (first | (with_reducible exact Gr.refl _) | (with_reducible assumption) | (with_reducible refine Gr.alloc ?_ _) | (with_reducible refine Gr.drew ?_) | (with_reducible refine Gr.drewN ?_ _) | (with_reducible refine Gr.setCell ?_ (by simp <;> omega) _) | (with_reducible refine Gr.trans ?_ (by with_reducible assumption)) | exact Gr.refl _ | assumption | refine Gr.alloc ?_ _ | refine Gr.drew ?_ | refine Gr.drewN ?_ _ | refine Gr.setCell ?_ (by simp <;> omega) _ | refine Gr.trans ?_ (by assumption)))).mono ?_); rintro e w1 ⟨rfl, hb⟩; obtain ⟨hc, hf⟩ := gcells hb (w.heap.size + 2) (by first | exact hz | omega | (simp; done) | (simp; omega)); have hz : w.heap.size + 2 ≤ w1.heap.size := (by have h := hb.size; (try simp at h); omega); have hz0 : w.heap.size < w1.heap.size := (by omega)))
  have q0 : w1.cell? ⟨w.heap.size, 0, none⟩ = some (.slice (some ⟨bb, bo, none⟩) n c) ∧ w1.cell? ⟨w.heap.size, 1, none⟩ = some (.int .i64 nx) ∧ w1.cell? ⟨w.heap.size + 1, 0, none⟩ = some (.int .i64 k) ∧ w1.cell? ⟨w.heap.size + 1, 1, none⟩ = some (.int .i64 a) ∧ w1.cell? ⟨w.heap.size + 1, 2, none⟩ = some (.int .i64 l) ∧ w1.cell? ⟨w.heap.size + 1, 3, none⟩ = some (.string d) := by refine ⟨?_, ?_, ?_, ?_, ?_, ?_⟩ <;> simp [go_sem, *]
  have G1 := Lib.hid (show Gr w w1 from (by repeat (first | (with_reducible exact Gr.refl _) | (with_reducible assumption) | (with_reducible refine Gr.alloc ?_ _) | (with_reducible refine Gr.drew ?_) | (with_reducible refine Gr.drewN ?_ _) | (with_reducible refine Gr.setCell ?_ (by simp <;> omega) _) | (with_reducible refine Gr.trans ?_ (by with_reducible assumption)) | exact Gr.refl _ | assumption | refine Gr.alloc ?_ _ | refine Gr.drew ?_ | refine Gr.drewN ?_ _ | refine Gr.setCell ?_ (by simp <;> omega) _ | refine Gr.trans ?_ (by assumption))))
  obtain ⟨b0, b1, b2, b3, b4, b5⟩ := q0
  clear hc hf hb hz0
  generalize w1 = W1 at *
  go_cut [5, 6] (fun s5 s6 wx => lawBytes.SbC W1 gb n nx 0 s5 s6 wx)
  case first =>
    go_region_held3 (fun w' => w'.cell? ⟨w.heap.size, 0, none⟩ = some (.slice (some ⟨bb, bo, none⟩) n c) ∧ w'.cell? ⟨w.heap.size, 1, none⟩ = some (.int .i64 nx) ∧ w'.cell? ⟨w.heap.size + 1, 0, none⟩ = some (.int .i64 k) ∧ w'.cell? ⟨w.heap.size + 1, 1, none⟩ = some (.int .i64 a) ∧ w'.cell? ⟨w.heap.size + 1, 2, none⟩ = some (.int .i64 l) ∧ w'.cell? ⟨w.heap.size + 1, 3, none⟩ = some (.string d)) (((try go_split_ands); (repeat' apply And.intro) <;> ((try simp only [World.cell?_drew]); first | (with_reducible assumption) | (simp [go_sem]; done) | ((repeat (first | (refine keepFar ?_ (by first | (dsimp only; omega) | (simp; done) | (simp; omega))) | (refine (Gr.alloc (Gr.refl _) _).keep ?_))); (try simp only [World.cell?_drew]); first | (with_reducible assumption) | (refine hb.keep ?_; (try simp only [World.cell?_drew]); first | (with_reducible assumption) | (simp [go_sem]; done) | ((repeat (refine (Gr.alloc (Gr.refl _) _).keep ?_)); (try simp only [World.cell?_drew]); (with_reducible assumption))) | (simp [*, go_sem]; done)))))
      (first
        | (go_at_call 15; (with_reducible refine (HO.out _ (G1.out.trans (by repeat (first | (with_reducible exact Gr.refl _) | (with_reducible assumption) | (with_reducible refine Gr.alloc ?_ _) | (with_reducible refine Gr.drew ?_) | (with_reducible refine Gr.drewN ?_ _) | (with_reducible refine Gr.setCell ?_ (by simp <;> omega) _) | (with_reducible refine Gr.trans ?_ (by with_reducible assumption)) | exact Gr.refl _ | assumption | refine Gr.alloc ?_ _ | refine Gr.drew ?_ | refine Gr.drewN ?_ _ | refine Gr.setCell ?_ (by simp <;> omega) _ | refine Gr.trans ?_ (by assumption))))).mono ?_); rintro e w4 ⟨A2, c2, rfl, hV, hb, hz4⟩; have HV := Lib.hid hV; clear hV; obtain ⟨hc4, hf4⟩ := hb.cells; (try simp at hz4); have hz40 : W1.heap.size < w4.heap.size := (by omega))
        | (go_at_call 29; (with_reducible refine (HW'.out _ _ _ (HV.out.sv.gr (by repeat (first | (with_reducible exact Gr.refl _) | (with_reducible assumption) | (with_reducible refine Gr.alloc ?_ _) | (with_reducible refine Gr.drew ?_) | (with_reducible refine Gr.drewN ?_ _) | (with_reducible refine Gr.setCell ?_ (by simp <;> omega) _) | (with_reducible refine Gr.trans ?_ (by with_reducible assumption)) | exact Gr.refl _ | assumption | refine Gr.alloc ?_ _ | refine Gr.drew ?_ | refine Gr.drewN ?_ _ | refine Gr.setCell ?_ (by simp <;> omega) _ | refine Gr.trans ?_ (by assumption))))).mono ?_); rintro e w5 ⟨A3, c3, rfl, hV3, hb3⟩; have HV3 := Lib.hid hV3; clear hV3; obtain ⟨hc5, hf5⟩ := hb3.cells; have hz5 := Gr.size hb3; (try simp at hz5); have hb := hb.trans (Gr.trans (by repeat (first | (with_reducible exact Gr.refl _) | (with_reducible assumption) | (with_reducible refine Gr.alloc ?_ _) | (with_reducible refine Gr.drew ?_) | (with_reducible refine Gr.drewN ?_ _) | (with_reducible refine Gr.setCell ?_ (by simp <;> omega) _) | (with_reducible refine Gr.trans ?_ (by with_reducible assumption)) | exact Gr.refl _ | assumption | refine Gr.alloc ?_ _ | refine Gr.drew ?_ | refine Gr.drewN ?_ _ | refine Gr.setCell ?_ (by simp <;> omega) _ | refine Gr.trans ?_ (by assumption))) hb3)))
    all_goals
      go_wp2_with fail
      go_meet
      clear HW' HO HF HT' HU'
      refine ⟨_, rfl, rfl, ?_, ⟨A3, c3, ?_, ?_, ?_, ?_⟩, ?_⟩
      · first | omega | (simp; omega)
      · first | (simp; done) | (simp; omega) | omega
      · simp [go_sem, *]
      · simp [go_sem, *]
      · first | (refine ((HV3.out.setLow ?_ _).setLow ?_ _).sv <;> first | (simp; done) | (simp; omega)) | (refine HV3.out.sv.gr ?_; exact (by repeat (first | (with_reducible exact Gr.refl _) | (with_reducible assumption) | (with_reducible refine Gr.alloc ?_ _) | (with_reducible refine Gr.drew ?_) | (with_reducible refine Gr.drewN ?_ _) | (with_reducible refine Gr.setCell ?_ (by simp <;> omega) _) | (with_reducible refine Gr.trans ?_ (by with_reducible assumption)) | exact Gr.refl _ | assumption | refine Gr.alloc ?_ _ | refine Gr.drew ?_ | refine Gr.drewN ?_ _ | refine Gr.setCell ?_ (by simp <;> omega) _ | refine Gr.trans ?_ (by assumption))))
      · exact (by repeat (first | (with_reducible exact Gr.refl _) | (with_reducible assumption) | (with_reducible refine Gr.alloc ?_ _) | (with_reducible refine Gr.drew ?_) | (with_reducible refine Gr.drewN ?_ _) | (with_reducible refine Gr.setCell ?_ (by simp <;> omega) _) | (with_reducible refine Gr.trans ?_ (by with_reducible assumption)) | exact Gr.refl _ | assumption | refine Gr.alloc ?_ _ | refine Gr.drew ?_ | refine Gr.drewN ?_ _ | refine Gr.setCell ?_ (by simp <;> omega) _ | refine Gr.trans ?_ (by assumption)))
  case rest =>
    obtain ⟨g, rfl, rfl, hg, ⟨A4, c4, hgl, v0, v1, hv⟩, hG⟩ := hcut
    have e0 := hG.keep (p := ⟨w.heap.size, 0, none⟩) (v := .slice (some ⟨bb, bo, none⟩) n c) b0
    have e1 := hG.keep (p := ⟨w.heap.size, 1, none⟩) (v := .int .i64 nx) b1
    have e2 := hG.keep (p := ⟨w.heap.size + 1, 0, none⟩) (v := .int .i64 k) b2
    have e3 := hG.keep (p := ⟨w.heap.size + 1, 1, none⟩) (v := .int .i64 a) b3
    have e4 := hG.keep (p := ⟨w.heap.size + 1, 2, none⟩) (v := .int .i64 l) b4
    have e5 := hG.keep (p := ⟨w.heap.size + 1, 3, none⟩) (v := .string d) b5
    have G4 := Lib.hid (G1.out.trans hG)
    have HV := Lib.hid hv
    clear hv hG b0 b1 b2 b3 b4 b5 G1 HW' HO HF hg hz
    generalize wc = W4 at *
    have HO4 := Lib.hid (fun W (hg : Gr W4 W) => Own_n A4 n c4 gb nx W (HV.out.gr hg) hn)
    go_upto_region 8 with (fail)
    go_region_held3 (fun w' => (w'.cell? ⟨w.heap.size, 0, none⟩ = some (.slice (some ⟨bb, bo, none⟩) n c) ∧ w'.cell? ⟨w.heap.size, 1, none⟩ = some (.int .i64 nx) ∧ w'.cell? ⟨w.heap.size + 1, 0, none⟩ = some (.int .i64 k) ∧ w'.cell? ⟨w.heap.size + 1, 1, none⟩ = some (.int .i64 a) ∧ w'.cell? ⟨w.heap.size + 1, 2, none⟩ = some (.int .i64 l) ∧ w'.cell? ⟨w.heap.size + 1, 3, none⟩ = some (.string d)) ∧ w'.cell? ⟨g, 0, none⟩ = some (.slice A4 n c4) ∧ w'.cell? ⟨g, 1, none⟩ = some (.int .i64 nx)) (((try go_split_ands); (repeat' apply And.intro) <;> ((try simp only [World.cell?_drew]); first | (with_reducible assumption) | (simp [go_sem]; done) | ((repeat (first | (refine keepFar ?_ (by first | (dsimp only; omega) | (simp; done) | (simp; omega))) | (refine (Gr.alloc (Gr.refl _) _).keep ?_))); (try simp only [World.cell?_drew]); first | (with_reducible assumption) | (refine hb.keep ?_; (try simp only [World.cell?_drew]); first | (with_reducible assumption) | (simp [go_sem]; done) | ((repeat (refine (Gr.alloc (Gr.refl _) _).keep ?_)); (try simp only [World.cell?_drew]); (with_reducible assumption))) | (simp [*, go_sem]; done)))))
      (first
        | (go_at_call 15; (with_reducible refine (HO4.out _ (by repeat (first | (with_reducible exact Gr.refl _) | (with_reducible assumption) | (with_reducible refine Gr.alloc ?_ _) | (with_reducible refine Gr.drew ?_) | (with_reducible refine Gr.drewN ?_ _) | (with_reducible refine Gr.setCell ?_ (by simp <;> omega) _) | (with_reducible refine Gr.trans ?_ (by with_reducible assumption)) | exact Gr.refl _ | assumption | refine Gr.alloc ?_ _ | refine Gr.drew ?_ | refine Gr.drewN ?_ _ | refine Gr.setCell ?_ (by simp <;> omega) _ | refine Gr.trans ?_ (by assumption)))).mono ?_); rintro e w6 ⟨A6, c6, rfl, hV6, hb, hzz⟩; have HV6 := Lib.hid hV6; clear hV6 hzz)
        | (go_at_call 28; (with_reducible refine (HT'.out _ _ _ (HV6.out.sv.gr (by repeat (first | (with_reducible exact Gr.refl _) | (with_reducible assumption) | (with_reducible refine Gr.alloc ?_ _) | (with_reducible refine Gr.drew ?_) | (with_reducible refine Gr.drewN ?_ _) | (with_reducible refine Gr.setCell ?_ (by simp <;> omega) _) | (with_reducible refine Gr.trans ?_ (by with_reducible assumption)) | exact Gr.refl _ | assumption | refine Gr.alloc ?_ _ | refine Gr.drew ?_ | refine Gr.drewN ?_ _ | refine Gr.setCell ?_ (by simp <;> omega) _ | refine Gr.trans ?_ (by assumption))))).mono ?_); rintro e w7 ⟨rfl, hb7⟩; have hb := hb.trans (Gr.trans (by repeat (first | (with_reducible exact Gr.refl _) | (with_reducible assumption) | (with_reducible refine Gr.alloc ?_ _) | (with_reducible refine Gr.drew ?_) | (with_reducible refine Gr.drewN ?_ _) | (with_reducible refine Gr.setCell ?_ (by simp <;> omega) _) | (with_reducible refine Gr.trans ?_ (by with_reducible assumption)) | exact Gr.refl _ | assumption | refine Gr.alloc ?_ _ | refine Gr.drew ?_ | refine Gr.drewN ?_ _ | refine Gr.setCell ?_ (by simp <;> omega) _ | refine Gr.trans ?_ (by assumption))) hb7)))
    have b0 := hb.keep (p := ⟨w.heap.size, 0, none⟩) (v := .slice (some ⟨bb, bo, none⟩) n c) e0
    have b1 := hb.keep (p := ⟨w.heap.size, 1, none⟩) (v := .int .i64 nx) e1
    have b2 := hb.keep (p := ⟨w.heap.size + 1, 0, none⟩) (v := .int .i64 k) e2
    have b3 := hb.keep (p := ⟨w.heap.size + 1, 1, none⟩) (v := .int .i64 a) e3
    have b4 := hb.keep (p := ⟨w.heap.size + 1, 2, none⟩) (v := .int .i64 l) e4
    have b5 := hb.keep (p := ⟨w.heap.size + 1, 3, none⟩) (v := .string d) e5
    have y0 := hb.keep (p := ⟨g, 0, none⟩) v0
    have y1 := hb.keep (p := ⟨g, 1, none⟩) v1
    have HV7 := Lib.hid (HV.out.gr ((Gr.refl _).drew.trans hb))
    have G7 := Lib.hid (G4.out.trans ((Gr.refl _).drew.trans hb))
    clear hb hb7 e0 e1 e2 e3 e4 e5 v0 v1 HV HV6 HO4 HT' G4 hgl
    generalize w7 = W7 at *
    have HO7 := Lib.hid (fun W (hg : Gr W7 W) => Own_n A4 n c4 gb nx W (HV7.out.gr hg) hn)
    have hn12 : n ≤ 12 := by have := HFY.out.1; have := HN.out; omega
    go_wp2
    go_loopw [9] (fun i wr => ∃ q : Nat, q ≤ n ∧ i = .int .i64 q ∧ Hid (Gr W7 wr)) (fun i _ => n - (intOf i).toNat)
    case atStart => exact ⟨0, Nat.zero_le _, rfl, Gr.refl _⟩
    case round =>
      obtain ⟨q, hq, rfl, hG⟩ := hrel
      have e0 := hG.out.keep (p := ⟨w.heap.size, 0, none⟩) (v := .slice (some ⟨bb, bo, none⟩) n c) b0
      have e1 := hG.out.keep (p := ⟨w.heap.size, 1, none⟩) (v := .int .i64 nx) b1
      have e2 := hG.out.keep (p := ⟨w.heap.size + 1, 0, none⟩) (v := .int .i64 k) b2
      have e3 := hG.out.keep (p := ⟨w.heap.size + 1, 1, none⟩) (v := .int .i64 a) b3
      have e4 := hG.out.keep (p := ⟨w.heap.size + 1, 2, none⟩) (v := .int .i64 l) b4
      have e5 := hG.out.keep (p := ⟨w.heap.size + 1, 3, none⟩) (v := .string d) b5
      have z0 := hG.out.keep (p := ⟨g, 0, none⟩) y0
      have z1 := hG.out.keep (p := ⟨g, 1, none⟩) y1
      have hzr0 : w.heap.size < wr.heap.size := World.block_lt_of_cell? wr _ e0
      have hzr1 : w.heap.size + 1 < wr.heap.size := World.block_lt_of_cell? wr _ e2
      have hzr2 : g < wr.heap.size := World.block_lt_of_cell? wr _ z0
      by_cases hlt : q < n
      · obtain ⟨k0, k1⟩ := (HS.out.gr (G7.out.trans hG.out)).seg hlt
        have hxs := HFY.out.2 q (by rw [HN.out]; exact hlt)
        have HUq := Lib.hid (fun p => HU'.out q p hlt)
        clear HU'
        generalize nuG gs q = m at *
        generalize byG gs q = x at *
        have hxs' : (x.size : Int) ≤ 400 := by omega
        go_wp2
        have HO9 := Lib.hid (fun W (hg : Gr wr W) => HO7.out W (hG.out.trans hg))
        have HV9 := Lib.hid (HV7.out.gr hG.out)
        have G9 := Lib.hid (G7.out.trans hG.out)
        clear HO7 HV7 k0 k1
        generalize wr = wo at *
        go_loopw [11] (fun i wz => ∃ r : Nat, r ≤ x.size ∧ i = .int .i64 r ∧ Hid (Gr (wo.alloc (.cells #[.int .i64 m, .string x] 71)) wz)) (fun i _ => x.size - (intOf i).toNat)
        case atStart => exact ⟨0, Nat.zero_le _, rfl, Gr.refl _⟩
        case round =>
          obtain ⟨r, hr, rfl, hG2⟩ := hrel
          have i0 := hG2.out.keep (p := ⟨w.heap.size, 0, none⟩) (v := .slice (some ⟨bb, bo, none⟩) n c) (by rw [World.cell?_alloc_lt _ _ _ hzr0]; exact e0)
          have i1 := hG2.out.keep (p := ⟨w.heap.size, 1, none⟩) (v := .int .i64 nx) (by rw [World.cell?_alloc_lt _ _ _ hzr0]; exact e1)
          have i2 := hG2.out.keep (p := ⟨w.heap.size + 1, 0, none⟩) (v := .int .i64 k) (by rw [World.cell?_alloc_lt _ _ _ hzr1]; exact e2)
          have i3 := hG2.out.keep (p := ⟨w.heap.size + 1, 1, none⟩) (v := .int .i64 a) (by rw [World.cell?_alloc_lt _ _ _ hzr1]; exact e3)
          have i4 := hG2.out.keep (p := ⟨w.heap.size + 1, 2, none⟩) (v := .int .i64 l) (by rw [World.cell?_alloc_lt _ _ _ hzr1]; exact e4)
          have i5 := hG2.out.keep (p := ⟨w.heap.size + 1, 3, none⟩) (v := .string d) (by rw [World.cell?_alloc_lt _ _ _ hzr1]; exact e5)
          have i6 := hG2.out.keep (p := ⟨g, 0, none⟩) (v := .slice A4 n c4) (by rw [World.cell?_alloc_lt _ _ _ hzr2]; exact z0)
          have i7 := hG2.out.keep (p := ⟨g, 1, none⟩) (v := .int .i64 nx) (by rw [World.cell?_alloc_lt _ _ _ hzr2]; exact z1)
          have i8 := hG2.out.keep (p := ⟨wo.heap.size, 0, none⟩) (v := .int .i64 m) (by simp [go_sem])
          have i9 := hG2.out.keep (p := ⟨wo.heap.size, 1, none⟩) (v := .string x) (by simp [go_sem])
          by_cases hlr : r < x.size
          · have hsl := cut_ij x r ((r : Int) + 1) r (r + 1) rfl (by omega) (by omega) (by omega)
            have hra : IntKind.i64.wrap ((r : Int) + 1) = (r : Int) + 1 := IntWalk.i64_in _ (by omega)
            have hw1 : IntKind.i64.wrap (a + d.size) = a + d.size := IntWalk.i64_in _ (by omega)
            have hw2 : IntKind.i64.wrap (a + d.size - 1) = a + d.size - 1 := IntWalk.i64_in _ (by omega)
            rcases (show (m = k ∧ wiB r a (a + d.size - 1) = true) ∨ ((m == k) = true ∧ wiB r a (a + d.size - 1) = false ∧ (m = k → (r : Int) < a ∨ a + d.size ≤ r)) ∨ ((m == k) = false ∧ (m = k → (r : Int) < a ∨ a + d.size ≤ r)) by
              by_cases hm : m = k
              · rcases Bool.eq_false_or_eq_true (wiB r a (a + d.size - 1)) with h | h
                · exact .inl ⟨hm, h⟩
                · refine .inr (.inl ⟨by simp [hm], h, fun _ => ?_⟩)
                  by_cases h1 : (r : Int) < a
                  · exact .inl h1
                  · rw [wiB] at h
                    simp at h
                    have := h (by omega)
                    exact .inr (by omega)
              · exact .inr (.inr ⟨by simp [hm], fun h => absurd h hm⟩)) with ⟨hm, hin⟩ | ⟨hm, hin, ho⟩ | ⟨hm, ho⟩
            · have hm' : (m == k) = true := by simp [hm]
              have HI := Lib.hid hin
              clear hin hm
              go_wp2_with ((go_at_call 42; (with_reducible refine (Within_is _ _ _ _ HI.out _).mono ?_); rintro e w1 ⟨rfl, rfl⟩))
              go_roundw
              case rel => exact ⟨r + 1, by omega, by go_num, hG2⟩
              case measure => simp [intOf]; omega
            · have HRd := Lib.hid (HUq.out r hlr ho)
              have HI := Lib.hid hin
              clear hin ho
              go_upto_region 19 with ((go_at_call 42; (with_reducible refine (Within_is _ _ _ _ HI.out _).mono ?_); rintro e w1 ⟨rfl, rfl⟩))
              go_region_held3 (fun w' => w'.cell? ⟨g, 0, none⟩ = some (.slice A4 n c4) ∧ w'.cell? ⟨g, 1, none⟩ = some (.int .i64 nx) ∧ w'.cell? ⟨wo.heap.size, 0, none⟩ = some (.int .i64 m) ∧ w'.cell? ⟨wo.heap.size, 1, none⟩ = some (.string x)) (((try go_split_ands); (repeat' apply And.intro) <;> ((try simp only [World.cell?_drew]); first | (with_reducible assumption) | (simp [go_sem]; done) | ((repeat (first | (refine keepFar ?_ (by first | (dsimp only; omega) | (simp; done) | (simp; omega))) | (refine (Gr.alloc (Gr.refl _) _).keep ?_))); (try simp only [World.cell?_drew]); first | (with_reducible assumption) | (refine hb.keep ?_; (try simp only [World.cell?_drew]); first | (with_reducible assumption) | (simp [go_sem]; done) | ((repeat (refine (Gr.alloc (Gr.refl _) _).keep ?_)); (try simp only [World.cell?_drew]); (with_reducible assumption))) | (simp [*, go_sem]; done)))))
                (first
                  | (go_at_call 15; (with_reducible refine (HO9.out _ (Gr.trans ((Gr.refl _).alloc _) (hG2.out.trans (by repeat (first | (with_reducible exact Gr.refl _) | (with_reducible assumption) | (with_reducible refine Gr.alloc ?_ _) | (with_reducible refine Gr.drew ?_) | (with_reducible refine Gr.drewN ?_ _) | (with_reducible refine Gr.setCell ?_ (by simp <;> omega) _) | (with_reducible refine Gr.trans ?_ (by with_reducible assumption)) | exact Gr.refl _ | assumption | refine Gr.alloc ?_ _ | refine Gr.drew ?_ | refine Gr.drewN ?_ _ | refine Gr.setCell ?_ (by simp <;> omega) _ | refine Gr.trans ?_ (by assumption)))))).mono ?_); rintro e w6 ⟨A6, c6, rfl, hV6, hb, hzz⟩; have HV6 := Lib.hid hV6; clear hV6 hzz)
                  | (go_at_call 28; (with_reducible refine (HRd.out _ _ _ (HV6.out.sv.gr (by repeat (first | (with_reducible exact Gr.refl _) | (with_reducible assumption) | (with_reducible refine Gr.alloc ?_ _) | (with_reducible refine Gr.drew ?_) | (with_reducible refine Gr.drewN ?_ _) | (with_reducible refine Gr.setCell ?_ (by simp <;> omega) _) | (with_reducible refine Gr.trans ?_ (by with_reducible assumption)) | exact Gr.refl _ | assumption | refine Gr.alloc ?_ _ | refine Gr.drew ?_ | refine Gr.drewN ?_ _ | refine Gr.setCell ?_ (by simp <;> omega) _ | refine Gr.trans ?_ (by assumption))))).mono ?_); rintro e w7 ⟨rfl, hb7⟩; have hb := hb.trans (Gr.trans (by repeat (first | (with_reducible exact Gr.refl _) | (with_reducible assumption) | (with_reducible refine Gr.alloc ?_ _) | (with_reducible refine Gr.drew ?_) | (with_reducible refine Gr.drewN ?_ _) | (with_reducible refine Gr.setCell ?_ (by simp <;> omega) _) | (with_reducible refine Gr.trans ?_ (by with_reducible assumption)) | exact Gr.refl _ | assumption | refine Gr.alloc ?_ _ | refine Gr.drew ?_ | refine Gr.drewN ?_ _ | refine Gr.setCell ?_ (by simp <;> omega) _ | refine Gr.trans ?_ (by assumption))) hb7)))
              have j9 := hb.keep (p := ⟨wo.heap.size, 1, none⟩) (v := .string x) i9
              have HB := Lib.hid hb
              clear hb hb7 HV6
              go_wp2
              go_roundw
              case rel => exact ⟨r + 1, by omega, by go_num, Lib.hid (by exact hG2.out.trans ((Gr.refl _).drew.trans HB.out))⟩
              case measure => simp [intOf]; omega
            · have HRd := Lib.hid (HUq.out r hlr ho)
              clear ho
              go_upto_region 19 with (fail)
              go_region_held3 (fun w' => w'.cell? ⟨g, 0, none⟩ = some (.slice A4 n c4) ∧ w'.cell? ⟨g, 1, none⟩ = some (.int .i64 nx) ∧ w'.cell? ⟨wo.heap.size, 0, none⟩ = some (.int .i64 m) ∧ w'.cell? ⟨wo.heap.size, 1, none⟩ = some (.string x)) (((try go_split_ands); (repeat' apply And.intro) <;> ((try simp only [World.cell?_drew]); first | (with_reducible assumption) | (simp [go_sem]; done) | ((repeat (first | (refine keepFar ?_ (by first | (dsimp only; omega) | (simp; done) | (simp; omega))) | (refine (Gr.alloc (Gr.refl _) _).keep ?_))); (try simp only [World.cell?_drew]); first | (with_reducible assumption) | (refine hb.keep ?_; (try simp only [World.cell?_drew]); first | (with_reducible assumption) | (simp [go_sem]; done) | ((repeat (refine (Gr.alloc (Gr.refl _) _).keep ?_)); (try simp only [World.cell?_drew]); (with_reducible assumption))) | (simp [*, go_sem]; done)))))
                (first
                  | (go_at_call 15; (with_reducible refine (HO9.out _ (Gr.trans ((Gr.refl _).alloc _) (hG2.out.trans (by repeat (first | (with_reducible exact Gr.refl _) | (with_reducible assumption) | (with_reducible refine Gr.alloc ?_ _) | (with_reducible refine Gr.drew ?_) | (with_reducible refine Gr.drewN ?_ _) | (with_reducible refine Gr.setCell ?_ (by simp <;> omega) _) | (with_reducible refine Gr.trans ?_ (by with_reducible assumption)) | exact Gr.refl _ | assumption | refine Gr.alloc ?_ _ | refine Gr.drew ?_ | refine Gr.drewN ?_ _ | refine Gr.setCell ?_ (by simp <;> omega) _ | refine Gr.trans ?_ (by assumption)))))).mono ?_); rintro e w6 ⟨A6, c6, rfl, hV6, hb, hzz⟩; have HV6 := Lib.hid hV6; clear hV6 hzz)
                  | (go_at_call 28; (with_reducible refine (HRd.out _ _ _ (HV6.out.sv.gr (by repeat (first | (with_reducible exact Gr.refl _) | (with_reducible assumption) | (with_reducible refine Gr.alloc ?_ _) | (with_reducible refine Gr.drew ?_) | (with_reducible refine Gr.drewN ?_ _) | (with_reducible refine Gr.setCell ?_ (by simp <;> omega) _) | (with_reducible refine Gr.trans ?_ (by with_reducible assumption)) | exact Gr.refl _ | assumption | refine Gr.alloc ?_ _ | refine Gr.drew ?_ | refine Gr.drewN ?_ _ | refine Gr.setCell ?_ (by simp <;> omega) _ | refine Gr.trans ?_ (by assumption))))).mono ?_); rintro e w7 ⟨rfl, hb7⟩; have hb := hb.trans (Gr.trans (by repeat (first | (with_reducible exact Gr.refl _) | (with_reducible assumption) | (with_reducible refine Gr.alloc ?_ _) | (with_reducible refine Gr.drew ?_) | (with_reducible refine Gr.drewN ?_ _) | (with_reducible refine Gr.setCell ?_ (by simp <;> omega) _) | (with_reducible refine Gr.trans ?_ (by with_reducible assumption)) | exact Gr.refl _ | assumption | refine Gr.alloc ?_ _ | refine Gr.drew ?_ | refine Gr.drewN ?_ _ | refine Gr.setCell ?_ (by simp <;> omega) _ | refine Gr.trans ?_ (by assumption))) hb7)))
              have j9 := hb.keep (p := ⟨wo.heap.size, 1, none⟩) (v := .string x) i9
              have HB := Lib.hid hb
              clear hb hb7 HV6
              go_wp2
              go_roundw
              case rel => exact ⟨r + 1, by omega, by go_num, Lib.hid (by exact hG2.out.trans ((Gr.refl _).drew.trans HB.out))⟩
              case measure => simp [intOf]; omega
          · have hrx := Lib.hid (show r = x.size by omega)
            go_wp2
            go_roundw
            case rel => exact ⟨q + 1, by omega, by go_num, Lib.hid (by exact (hG.out.trans ((Gr.refl _).alloc _)).trans hG2.out)⟩
            case measure => simp [intOf]; omega
      · go_wp2
        go_ret
        exact ⟨rfl, G7.out.trans hG.out⟩

theorem law (A : Option Addr) (n c : Nat) (gs : List (Int × ByteArray)) (nx k a l : Int) (d : ByteArray) (w : World) (hs : Sv w A n c 2 (sg gs)) (hb : Sh gs) (_hx : (Lit.int .i64 nx).wf = true) (_wl : (Lit.int .i64 l).wf = true) (hd : d.size ≤ maxLen) :
    Calls Try.prog 11 #[.agg #[.slice A n c, .int .i64 nx], .agg #[.int .i64 k, .int .i64 a, .int .i64 l, .string d]] w fun e w' => e = .returned (.bool true) ∧ Gr w w' := by
  rcases Bool.eq_false_or_eq_true (fewB gs) with hf | hf
  rotate_left
  · exact sb_large A n c gs nx k a l d w hs hb (.inl hf)
  by_cases hd4 : (d.size : Int) ≤ 400
  rotate_left
  · exact sb_large A n c gs nx k a l d w hs hb (.inr ⟨hf, by omega⟩)
  have hl := hs.segs
  have hn : n ≤ 1000000 := by have := (few_yes hf).1; omega
  by_cases hE : iwE nx gs k a d.size = 0
  rotate_left
  · exact sr_bad A n c gs [] nx k a l 0 _ 0 d w hs hb hf hd4 hn hE (fun W A c hv => Written_no A n c gs nx k a _ d hd rfl hE W hv hb)
  obtain ⟨h1, h2⟩ := iwE_zero hE
  have hr := rgB_iff.1 h2
  obtain ⟨i, rfl⟩ := Int.eq_ofNat_of_zero_le hr.1
  have hle := wr_le hE
  have hlt := (ix_zero h1).2.1
  have hx4 := (few_yes hf).2 _ hlt
  have hsg : Sh (setG gs (fI gs k) (pS (byG gs (fI gs k)) i d)) := fun j hj => by
    rw [setG_len] at hj
    rw [setG_by hlt]
    split
    · rw [pS_size hle]; exact hb _ hlt
    · exact hb _ hj
  have hr1 := wr_read hE
  refine sr_walk A n c gs (setG gs (fI gs k) (pS (byG gs (fI gs k)) i d)) nx k i l d w hs hb hf hd4 hn (by omega) (by omega) (fun W A c hv => Written_yes A n c gs nx k i d hd hE W hv hb) (fun W A c hv => ?_) (fun j p hj hp ho W A c hv => ?_)
  · have h := ReadAt_yes A n c _ nx k i d.size hr1.1 (by omega) W hv hsg
    rw [hr1.2] at h
    exact h
  · have ho2 := wr_other hE (j := j) (p := p) (by omega) hp (fun e => by have := ho e; omega)
    have h := ReadAt_yes A n c _ nx (nuG gs j) p 1 ho2.1 (by omega) W hv hsg
    rw [ho2.2] at h
    exact h

set_option maxRecDepth 100000 in
theorem lifted (os : Os) (started : os.Started) (H : Type) (enc : TypeId × Value → H) :
    ReturnsInHanded {} Try.checked os 11 .any (Rows.segmentReadsSpec.pre6 enc Try.prog Try.f11 Rows.segmentReadsRow.domain false) (Rows.segmentReadsSpec.post enc Try.prog Try.f11 false true false false) := by
  refine returnsInHanded_of_change (C := Try.checked) own_knob started (by kernel_rfl) Try.func11
    (ChangeSpec.witness6 (enc := enc) (C := Try.checked) false ⟨#[], #[.agg #[.slice none 0 0, .int .i64 0], .agg #[.int .i64 0, .int .i64 0, .int .i64 0, .string ⟨#[]⟩]], []⟩ 8 (by kernel_rfl) (by kernel_rfl) (by kernel_rfl) (by kernel_rfl)) ?_
  intro W base args ds gs before hval0 hW hcnd _
  have hval : ∀ (j : Nat) t v, Try.f11.params[j]? = some t → args[j]? = some v → Value.okWide Try.prog W .any base t v := hval0
  have hW' := hW
  obtain ⟨p, q, hA0, hV, rfl, hfz, hnd⟩ := hW
  have hA : DataW.TrodAll enc Try.prog W 0 (fun _ => true) true Try.f11.params.toList args.toList ds p := hA0
  rw [Try.params11] at hA hval
  obtain ⟨v0, vs0, d0, ds0, p0, q0, hargs, rfl, rfl, h0, r0⟩ := trodAll_cons hA
  obtain ⟨v1, vs1, d1, ds1, p1, q1, hargs1, rfl, rfl, h1, r1⟩ := trodAll_cons r0
  obtain ⟨hvz, rfl, rfl⟩ := trodAll_nil r1
  rw [hvz] at hargs1
  rw [hargs1] at hargs
  obtain rfl : args = #[v0, v1] := by cases args; simp_all
  obtain ⟨rfl, rfl⟩ := trodVars_none hV
  obtain ⟨A, n, c, gs, nx, rfl, hs, hb, hx⟩ := open_sto (hval 0 24 v0 rfl rfl) h0
  obtain ⟨k, a, l, s, rfl, wl, ws⟩ := lawBytes.open_span (hval 1 48 v1 rfl rfl) h1
  refine (law A n c gs nx k a l s W hs hb hx wl ws).mono fun e W' ⟨he, hg⟩ => ?_
  subst he
  have hB : Below W.heap.size W W' := hg
  have hlt := fun x hx => hW'.lt x hx
  have hst := fun (sp' : Nat → Bool) => trodAll_stay laidOut (sp' := sp') (by kernel_rfl) hA0 (fun x hx => hB.same (hlt x (List.mem_append_left _ hx)))
  refine ⟨_, rfl, _, _, _, [], _, [], hW', (trodAll_cons_mk (shut_bool Try.underlying4 _) trodAll_mk0), hst _ (fun x hx => by simpa using hlt x (List.mem_append_left _ hx)), rfl, ?_, fun h => by cases h⟩
  exact World.keptBut_mono (fun x hx => ⟨hx, Or.inr (by simpa using hx)⟩) (hB.frame (· ∈ _))

theorem proved : Rows.SegmentReadsSaid :=
  OpenClaim.holds_of_wide 11 Try.f11 rfl rfl rfl rfl rfl rfl rfl ⟨rfl, rfl, rfl, rfl, rfl⟩ rfl rfl rfl rfl rfl (by kernel_rfl) Try.func11 (by kernel_rfl)
    (of_decide_eq_true (by kernel_rfl)) (by unfold Func.isWrapper; first | (rw [if_pos (by decide +kernel)]; kernel_rfl) | (rw [if_neg (by decide +kernel)]; exact ⟨rfl, rfl⟩))
    (fun os started H enc _ => lifted os started H enc)
#print axioms proved
end Go.Proofs.Ythbinjoiljddkaa.lawReads
