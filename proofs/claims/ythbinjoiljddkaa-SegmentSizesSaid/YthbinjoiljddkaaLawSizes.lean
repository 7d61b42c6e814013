/- SegmentSizes: for every store, segment number and number of pages the law returns true (the stores and the errors are the reference's); no condition. -/
import Derived.Test.YthbinjoiljddkaaHp
import Derived.Test.YthbinjoiljddkaaOpen4
namespace Go.Proofs.Ythbinjoiljddkaa.lawSizes
set_option linter.unusedSimpArgs false
set_option linter.unusedVariables false
open Go.Proofs.Ythbinjoiljddkaa
open Go.ChangeShapes Go.WideShapes Go.ChangeAt Go.RowKit Go.Joins Go.Deep

set_option maxHeartbeats 2000000 in
set_option maxRecDepth 100000 in
theorem ss_large (A : Option Addr) (n c : Nat) (gs : List (Int × ByteArray)) (nx k p : Int) (w : World) (hs : Sv w A n c 2 (sg gs)) (hb : Sh gs) (hf : fewB gs = false) :
    Calls Try.prog 5 #[.agg #[.slice A n c, .int .i64 nx], .int .i64 k, .int .i64 p] w fun e w' => e = .returned (.bool true) ∧ Gr w w' := by
  have HF := Lib.hid (fun W hg => few_is A n c gs nx false hf W (hs.gr hg) hb)
  clear hs hb hf
  go_enter Try.func5, Try.ntmps5
  go_wp2_with (first | (go_at_call 12; (with_reducible refine (awake_any _).mono ?_); rintro e w1 ⟨rfl, hb⟩; obtain ⟨hc, hf⟩ := gcells hb (w.heap.size + 1) (by first | exact hz | omega | (simp; done) | (simp; omega)); have hz : w.heap.size + 1 ≤ w1.heap.size := (by have h := hb.size; (try simp at h); omega); have hz0 : w.heap.size < w1.heap.size := (by omega)) | (go_at_call 13; (with_reducible refine (HF.out _ (by repeat (first | (with_reducible exact Gr.refl _) | (with_reducible assumption) | (with_reducible refine Gr.alloc ?_ _) | (with_reducible refine Gr.drew ?_) | (with_reducible refine Gr.drewN ?_ _) | (with_reducible refine Gr.setCell ?_ (by simp <;> omega) _) | (with_reducible refine Gr.trans ?_ (by with_reducible assumption)) | exact Gr.refl _ | assumption | refine Gr.alloc ?_ _ | refine Gr.drew ?_ | refine Gr.drewN ?_ _ | refine Gr.setCell ?_ (by simp <;> omega) _ | refine Gr.trans ?_ (by assumption)))).mono ?_); rintro e w1 ⟨rfl, hb⟩; obtain ⟨hc, hf⟩ := gcells hb (w.heap.size + 1) (by first | exact hz | omega | (simp; done) | (simp; omega)); have hz : w.heap.size + 1 ≤ w1.heap.size := (by have h := hb.size; (try simp at h); omega); have hz0 : w.heap.size < w1.heap.size := (by omega)))
  go_ret
  exact ⟨rfl, (by repeat (first | (with_reducible exact Gr.refl _) | (with_reducible assumption) | (with_reducible refine Gr.alloc ?_ _) | (with_reducible refine Gr.drew ?_) | (with_reducible refine Gr.drewN ?_ _) | (with_reducible refine Gr.setCell ?_ (by simp <;> omega) _) | (with_reducible refine Gr.trans ?_ (by with_reducible assumption)) | exact Gr.refl _ | assumption | refine Gr.alloc ?_ _ | refine Gr.drew ?_ | refine Gr.drewN ?_ _ | refine Gr.setCell ?_ (by simp <;> omega) _ | refine Gr.trans ?_ (by assumption)))⟩

set_option maxHeartbeats 4000000 in
set_option maxRecDepth 100000 in
theorem ss_walk (A : Option Addr) (n c : Nat) (gs ga gb : List (Int × ByteArray)) (nx k p nxa E nxb F : Int) (na nb : Nat) (w : World) (hs : Sv w A n c 2 (sg gs)) (hb : Sh gs) (hf : fewB gs = true) (hn : n ≤ 1000000)
    (HA : (∀ W A c, Sv W A n c 2 (sg gs) → Calls Try.prog 24 #[.agg #[.slice A n c, .int .i64 nx], .int .i64 k, .int .i64 p] W fun e w' => ∃ A c, e = .returned (.tuple #[.agg #[.slice A na c, .int .i64 nxa], .int .i64 E]) ∧ Sv w' A na c 2 (sg ga) ∧ Gr W w'))
    (HB : (∀ W A c, Sv W A n c 2 (sg gs) → Calls Try.prog 25 #[.agg #[.slice A n c, .int .i64 nx], .int .i64 k, .int .i64 p] W fun e w' => ∃ A c, e = .returned (.tuple #[.agg #[.slice A nb c, .int .i64 nxb], .int .i64 F]) ∧ Sv w' A nb c 2 (sg gb) ∧ Gr W w'))
    (HX : (∀ W, Gr w W → Calls Try.prog 26 #[.agg #[.slice A n c, .int .i64 nx], .int .i64 k, .int .i64 p] W (AnR ga na nxa 0 ⟨#[]⟩ E W)))
    (HY : (∀ W, Gr w W → Calls Try.prog 27 #[.agg #[.slice A n c, .int .i64 nx], .int .i64 k, .int .i64 p] W (AnR gb nb nxb 0 ⟨#[]⟩ F W))) :
    Calls Try.prog 5 #[.agg #[.slice A n c, .int .i64 nx], .int .i64 k, .int .i64 p] w fun e w' => e = .returned (.bool true) ∧ Gr w w' := by
  have HF := Lib.hid (fun W hg => few_is A n c gs nx true hf W (hs.gr hg) hb)
  have HO := Lib.hid (fun W hg => Own_n A n c gs nx W (hs.gr hg) hn)
  have HA' := Lib.hid HA
  have HB' := Lib.hid HB
  have HX' := Lib.hid HX
  have HY' := Lib.hid HY
  clear hs hb hf HA HB HX HY
  go_enter Try.func5, Try.ntmps5
  go_upto_region 7 with (first
    | (go_at_call 12; (with_reducible refine (awake_any _).mono ?_); rintro e w1 ⟨rfl, hb⟩; obtain ⟨hc, hf⟩ := gcells hb (w.heap.size + 1) (by first | exact hz | omega | (simp; done) | (simp; omega)); have hz : w.heap.size + 1 ≤ w1.heap.size := (by have h := hb.size; (try simp at h); omega); have hz0 : w.heap.size < w1.heap.size := (by omega))
    | (go_at_call 13; (with_reducible refine (HF.out _ (by repeat (first | (with_reducible exact Gr.refl _) | (with_reducible assumption) | (with_reducible refine Gr.alloc ?_ _) | (with_reducible refine Gr.drew ?_) | (with_reducible refine Gr.drewN ?_ _) | (with_reducible refine Gr.setCell ?_ (by simp <;> omega) _) | (with_reducible refine Gr.trans ?_ (by with_reducible assumption)) | exact Gr.refl _ | assumption | refine Gr.alloc ?_ _ | refine Gr.drew ?_ | refine Gr.drewN ?_ _ | refine Gr.setCell ?_ (by simp <;> omega) _ | refine Gr.trans ?_ (by assumption)))).mono ?_); rintro e w1 ⟨rfl, hb⟩; obtain ⟨hc, hf⟩ := gcells hb (w.heap.size + 1) (by first | exact hz | omega | (simp; done) | (simp; omega)); have hz : w.heap.size + 1 ≤ w1.heap.size := (by have h := hb.size; (try simp at h); omega); have hz0 : w.heap.size < w1.heap.size := (by omega))
    | (have _h := h3; go_at_call 15; (with_reducible refine (HO.out _ (by repeat (first | (with_reducible exact Gr.refl _) | (with_reducible assumption) | (with_reducible refine Gr.alloc ?_ _) | (with_reducible refine Gr.drew ?_) | (with_reducible refine Gr.drewN ?_ _) | (with_reducible refine Gr.setCell ?_ (by simp <;> omega) _) | (with_reducible refine Gr.trans ?_ (by with_reducible assumption)) | exact Gr.refl _ | assumption | refine Gr.alloc ?_ _ | refine Gr.drew ?_ | refine Gr.drewN ?_ _ | refine Gr.setCell ?_ (by simp <;> omega) _ | refine Gr.trans ?_ (by assumption)))).mono ?_); rintro e w4 ⟨A4, c4, rfl, hV4, hb, hzz⟩; have HV4 := Lib.hid hV4; clear hV4; have h4 := Lib.hid hb; obtain ⟨hc, hf⟩ := gcells hb (w.heap.size + 1) (by first | exact hz | (simp; done) | (simp; omega) | omega); have hz : w.heap.size + 1 ≤ w4.heap.size := (by have h := Gr.size hb; (try simp at h); omega); have hz0 : w.heap.size < w4.heap.size := (by omega))
    | (go_at_call 15; (with_reducible refine (HO.out _ (by repeat (first | (with_reducible exact Gr.refl _) | (with_reducible assumption) | (with_reducible refine Gr.alloc ?_ _) | (with_reducible refine Gr.drew ?_) | (with_reducible refine Gr.drewN ?_ _) | (with_reducible refine Gr.setCell ?_ (by simp <;> omega) _) | (with_reducible refine Gr.trans ?_ (by with_reducible assumption)) | exact Gr.refl _ | assumption | refine Gr.alloc ?_ _ | refine Gr.drew ?_ | refine Gr.drewN ?_ _ | refine Gr.setCell ?_ (by simp <;> omega) _ | refine Gr.trans ?_ (by assumption)))).mono ?_); rintro e w2 ⟨A2, c2, rfl, hV2, hb, hzz⟩; have HV2 := Lib.hid hV2; clear hV2; obtain ⟨hc, hf⟩ := gcells hb (w.heap.size + 1) (by first | exact hz | (simp; done) | (simp; omega) | omega); have hz : w.heap.size + 1 ≤ w2.heap.size := (by have h := Gr.size hb; (try simp at h); omega); have hz0 : w.heap.size < w2.heap.size := (by omega))
    | (go_at_call 24; (with_reducible refine (HA'.out _ _ _ HV2.out.sv).mono ?_); rintro e w3 ⟨A3, c3, rfl, hV3, hb⟩; have HV3 := Lib.hid hV3; clear hV3; have h3 := Lib.hid hb; obtain ⟨hc, hf⟩ := gcells hb (w.heap.size + 1) (by first | exact hz | (simp; done) | (simp; omega) | omega); have hz : w.heap.size + 1 ≤ w3.heap.size := (by have h := Gr.size hb; (try simp at h); omega); have hz0 : w.heap.size < w3.heap.size := (by omega))
    | (go_at_call 25; (with_reducible refine (HB'.out _ _ _ HV4.out.sv).mono ?_); rintro e w5 ⟨A5, c5, rfl, hV5, hb⟩; have HV5 := Lib.hid hV5; clear hV5; have h5 := Lib.hid hb; obtain ⟨hc, hf⟩ := gcells hb (w.heap.size + 1) (by first | exact hz | (simp; done) | (simp; omega) | omega); have hz : w.heap.size + 1 ≤ w5.heap.size := (by have h := Gr.size hb; (try simp at h); omega); have hz0 : w.heap.size < w5.heap.size := (by omega)))
  have G38 := Lib.hid ((h4.out.trans h5.out).alloc (.cells #[.slice A5 nb c5, .int .i64 nxb] 24))
  have a0 := G38.out.keep (p := ⟨w3.heap.size, 0, none⟩) (v := .slice A3 na c3) (by simp [go_sem])
  have a1 := G38.out.keep (p := ⟨w3.heap.size, 1, none⟩) (v := .int .i64 nxa) (by simp [go_sem])
  have VA := Lib.hid ((HV3.out.gr ((Gr.refl _).alloc _)).gr G38.out)
  have VB := Lib.hid (HV5.out.gr ((Gr.refl _).alloc (.cells #[.slice A5 nb c5, .int .i64 nxb] 24)))
  have d0 : (w5.alloc (.cells #[.slice A5 nb c5, .int .i64 nxb] 24)).cell? ⟨w5.heap.size, 0, none⟩ = some (.slice A5 nb c5) := by simp [go_sem]
  have d1 : (w5.alloc (.cells #[.slice A5 nb c5, .int .i64 nxb] 24)).cell? ⟨w5.heap.size, 1, none⟩ = some (.int .i64 nxb) := by simp [go_sem]
  have s0 : (w5.alloc (.cells #[.slice A5 nb c5, .int .i64 nxb] 24)).cell? ⟨w.heap.size, 0, none⟩ = some (.slice A n c) := by simp [go_sem, *]
  have s1 : (w5.alloc (.cells #[.slice A5 nb c5, .int .i64 nxb] 24)).cell? ⟨w.heap.size, 1, none⟩ = some (.int .i64 nx) := by simp [go_sem, *]
  have GW := Lib.hid (show Gr w (w5.alloc (.cells #[.slice A5 nb c5, .int .i64 nxb] 24)) from (by repeat (first | (with_reducible exact Gr.refl _) | (with_reducible assumption) | (with_reducible refine Gr.alloc ?_ _) | (with_reducible refine Gr.drew ?_) | (with_reducible refine Gr.drewN ?_ _) | (with_reducible refine Gr.setCell ?_ (by simp <;> omega) _) | (with_reducible refine Gr.trans ?_ (by with_reducible assumption)) | exact Gr.refl _ | assumption | refine Gr.alloc ?_ _ | refine Gr.drew ?_ | refine Gr.drewN ?_ _ | refine Gr.setCell ?_ (by simp <;> omega) _ | refine Gr.trans ?_ (by assumption))))
  clear G38 hc hf hb hz hz0 h3 h4 h5 HV2 HV3 HV4 HV5
  generalize w5.alloc (.cells #[.slice A5 nb c5, .int .i64 nxb] 24) = W at *
  generalize w3.heap.size = ga3 at *
  generalize w5.heap.size = ga5 at *
  go_region_held3 (fun w' => w'.cell? ⟨w.heap.size, 0, none⟩ = some (.slice A n c) ∧ w'.cell? ⟨w.heap.size, 1, none⟩ = some (.int .i64 nx) ∧ w'.cell? ⟨ga3, 0, none⟩ = some (.slice A3 na c3) ∧ w'.cell? ⟨ga3, 1, none⟩ = some (.int .i64 nxa) ∧ w'.cell? ⟨ga5, 0, none⟩ = some (.slice A5 nb c5) ∧ w'.cell? ⟨ga5, 1, none⟩ = some (.int .i64 nxb)) (((try go_split_ands); (repeat' apply And.intro) <;> ((try simp only [World.cell?_drew]); first | (with_reducible assumption) | (simp [go_sem]; done) | ((repeat (first | (refine keepFar ?_ (by first | (dsimp only; omega) | (simp; done) | (simp; omega))) | (refine (Gr.alloc (Gr.refl _) _).keep ?_))); (try simp only [World.cell?_drew]); first | (with_reducible assumption) | (refine hb.keep ?_; (try simp only [World.cell?_drew]); first | (with_reducible assumption) | (simp [go_sem]; done) | ((repeat (refine (Gr.alloc (Gr.refl _) _).keep ?_)); (try simp only [World.cell?_drew]); (with_reducible assumption))) | (simp [*, go_sem]; done)))))
    (first
      | (go_at_call 26; (with_reducible refine (HX'.out _ (GW.out.trans (by repeat (first | (with_reducible exact Gr.refl _) | (with_reducible assumption) | (with_reducible refine Gr.alloc ?_ _) | (with_reducible refine Gr.drew ?_) | (with_reducible refine Gr.drewN ?_ _) | (with_reducible refine Gr.setCell ?_ (by simp <;> omega) _) | (with_reducible refine Gr.trans ?_ (by with_reducible assumption)) | exact Gr.refl _ | assumption | refine Gr.alloc ?_ _ | refine Gr.drew ?_ | refine Gr.drewN ?_ _ | refine Gr.setCell ?_ (by simp <;> omega) _ | refine Gr.trans ?_ (by assumption))))).mono ?_); rintro e w6 ⟨A6, c6, rfl, hV6, hb⟩; have HV6 := Lib.hid hV6; clear hV6)
      | (go_at_call 22; (with_reducible refine (is_any A3 A6 na c3 c6 ga nxa E 0 ⟨#[]⟩ _ (VA.out.gr (by repeat (first | (with_reducible exact Gr.refl _) | (with_reducible assumption) | (with_reducible refine Gr.alloc ?_ _) | (with_reducible refine Gr.drew ?_) | (with_reducible refine Gr.drewN ?_ _) | (with_reducible refine Gr.setCell ?_ (by simp <;> omega) _) | (with_reducible refine Gr.trans ?_ (by with_reducible assumption)) | exact Gr.refl _ | assumption | refine Gr.alloc ?_ _ | refine Gr.drew ?_ | refine Gr.drewN ?_ _ | refine Gr.setCell ?_ (by simp <;> omega) _ | refine Gr.trans ?_ (by assumption)))) (HV6.out.gr (by repeat (first | (with_reducible exact Gr.refl _) | (with_reducible assumption) | (with_reducible refine Gr.alloc ?_ _) | (with_reducible refine Gr.drew ?_) | (with_reducible refine Gr.drewN ?_ _) | (with_reducible refine Gr.setCell ?_ (by simp <;> omega) _) | (with_reducible refine Gr.trans ?_ (by with_reducible assumption)) | exact Gr.refl _ | assumption | refine Gr.alloc ?_ _ | refine Gr.drew ?_ | refine Gr.drewN ?_ _ | refine Gr.setCell ?_ (by simp <;> omega) _ | refine Gr.trans ?_ (by assumption))))).mono ?_); rintro e w7 ⟨rfl, hb7⟩; have hb := hb.trans (Gr.trans (by repeat (first | (with_reducible exact Gr.refl _) | (with_reducible assumption) | (with_reducible refine Gr.alloc ?_ _) | (with_reducible refine Gr.drew ?_) | (with_reducible refine Gr.drewN ?_ _) | (with_reducible refine Gr.setCell ?_ (by simp <;> omega) _) | (with_reducible refine Gr.trans ?_ (by with_reducible assumption)) | exact Gr.refl _ | assumption | refine Gr.alloc ?_ _ | refine Gr.drew ?_ | refine Gr.drewN ?_ _ | refine Gr.setCell ?_ (by simp <;> omega) _ | refine Gr.trans ?_ (by assumption))) hb7))
      | (go_at_call 27; (with_reducible refine (HY'.out _ (GW.out.trans (by repeat (first | (with_reducible exact Gr.refl _) | (with_reducible assumption) | (with_reducible refine Gr.alloc ?_ _) | (with_reducible refine Gr.drew ?_) | (with_reducible refine Gr.drewN ?_ _) | (with_reducible refine Gr.setCell ?_ (by simp <;> omega) _) | (with_reducible refine Gr.trans ?_ (by with_reducible assumption)) | exact Gr.refl _ | assumption | refine Gr.alloc ?_ _ | refine Gr.drew ?_ | refine Gr.drewN ?_ _ | refine Gr.setCell ?_ (by simp <;> omega) _ | refine Gr.trans ?_ (by assumption))))).mono ?_); rintro e w8 ⟨A8, c8, rfl, hV8, hb8⟩; have hb := hb.trans (Gr.trans (by repeat (first | (with_reducible exact Gr.refl _) | (with_reducible assumption) | (with_reducible refine Gr.alloc ?_ _) | (with_reducible refine Gr.drew ?_) | (with_reducible refine Gr.drewN ?_ _) | (with_reducible refine Gr.setCell ?_ (by simp <;> omega) _) | (with_reducible refine Gr.trans ?_ (by with_reducible assumption)) | exact Gr.refl _ | assumption | refine Gr.alloc ?_ _ | refine Gr.drew ?_ | refine Gr.drewN ?_ _ | refine Gr.setCell ?_ (by simp <;> omega) _ | refine Gr.trans ?_ (by assumption))) hb8); have HV8 := Lib.hid hV8; clear hV8)
      | (go_at_call 22; (with_reducible refine (is_any A5 A8 nb c5 c8 gb nxb F 0 ⟨#[]⟩ _ (VB.out.gr (by repeat (first | (with_reducible exact Gr.refl _) | (with_reducible assumption) | (with_reducible refine Gr.alloc ?_ _) | (with_reducible refine Gr.drew ?_) | (with_reducible refine Gr.drewN ?_ _) | (with_reducible refine Gr.setCell ?_ (by simp <;> omega) _) | (with_reducible refine Gr.trans ?_ (by with_reducible assumption)) | exact Gr.refl _ | assumption | refine Gr.alloc ?_ _ | refine Gr.drew ?_ | refine Gr.drewN ?_ _ | refine Gr.setCell ?_ (by simp <;> omega) _ | refine Gr.trans ?_ (by assumption)))) (HV8.out.gr (by repeat (first | (with_reducible exact Gr.refl _) | (with_reducible assumption) | (with_reducible refine Gr.alloc ?_ _) | (with_reducible refine Gr.drew ?_) | (with_reducible refine Gr.drewN ?_ _) | (with_reducible refine Gr.setCell ?_ (by simp <;> omega) _) | (with_reducible refine Gr.trans ?_ (by with_reducible assumption)) | exact Gr.refl _ | assumption | refine Gr.alloc ?_ _ | refine Gr.drew ?_ | refine Gr.drewN ?_ _ | refine Gr.setCell ?_ (by simp <;> omega) _ | refine Gr.trans ?_ (by assumption))))).mono ?_); rintro e w9 ⟨rfl, hb9⟩; have hb := hb.trans (Gr.trans (by repeat (first | (with_reducible exact Gr.refl _) | (with_reducible assumption) | (with_reducible refine Gr.alloc ?_ _) | (with_reducible refine Gr.drew ?_) | (with_reducible refine Gr.drewN ?_ _) | (with_reducible refine Gr.setCell ?_ (by simp <;> omega) _) | (with_reducible refine Gr.trans ?_ (by with_reducible assumption)) | exact Gr.refl _ | assumption | refine Gr.alloc ?_ _ | refine Gr.drew ?_ | refine Gr.drewN ?_ _ | refine Gr.setCell ?_ (by simp <;> omega) _ | refine Gr.trans ?_ (by assumption))) hb9)))
  all_goals
    go_wp2
    go_ret
    exact ⟨ret_bool (by simp), GW.out.trans (by repeat (first | (with_reducible exact Gr.refl _) | (with_reducible assumption) | (with_reducible refine Gr.alloc ?_ _) | (with_reducible refine Gr.drew ?_) | (with_reducible refine Gr.drewN ?_ _) | (with_reducible refine Gr.setCell ?_ (by simp <;> omega) _) | (with_reducible refine Gr.trans ?_ (by with_reducible assumption)) | exact Gr.refl _ | assumption | refine Gr.alloc ?_ _ | refine Gr.drew ?_ | refine Gr.drewN ?_ _ | refine Gr.setCell ?_ (by simp <;> omega) _ | refine Gr.trans ?_ (by assumption)))⟩

theorem conv {g : List (Int × ByteArray)} {x E : Int} {W : World} {e : Ending} {w' : World} (h : St2R g x E W e w') : ∃ A c, e = .returned (.tuple #[.agg #[.slice A g.length c, .int .i64 x], .int .i64 E]) ∧ Sv w' A g.length c 2 (sg g) ∧ Gr W w' := by
  obtain ⟨A, c, h1, h2, h3⟩ := h
  exact ⟨A, c, h1, h2.sv, h3⟩
/-- Both sides' Extended, in all cases. -/
theorem extended_all (A : Option Addr) (n c : Nat) (gs : List (Int × ByteArray)) (nx k p : Int) (w : World) (hs : Sv w A n c 2 (sg gs)) (hb : Sh gs) :
    ∃ (ga : List (Int × ByteArray)) (na : Nat) (nxa E : Int), (∀ W A c, Sv W A n c 2 (sg gs) → Calls Try.prog 24 #[.agg #[.slice A n c, .int .i64 nx], .int .i64 k, .int .i64 p] W fun e w' => ∃ A c, e = .returned (.tuple #[.agg #[.slice A na c, .int .i64 nxa], .int .i64 E]) ∧ Sv w' A na c 2 (sg ga) ∧ Gr W w') ∧
      (∀ W, Gr w W → Calls Try.prog 26 #[.agg #[.slice A n c, .int .i64 nx], .int .i64 k, .int .i64 p] W (AnR ga na nxa 0 ⟨#[]⟩ E W)) := by
  by_cases hE : ixE nx gs k = 0
  rotate_left
  · exact ⟨[], 0, 0, _, fun W A c hv => (Extended_no A n c gs nx k p _ rfl hE W hv hb).mono fun e w' h => conv h, fun W hg => refExtended_no A n c gs nx k p _ rfl hE W (hs.gr hg) hb⟩
  rcases Bool.eq_false_or_eq_true (wiB p 1 8) with hp | hp
  rotate_left
  · exact ⟨[], 0, 0, 3, fun W A c hv => (Extended_range A n c gs nx k p hE hp W hv hb).mono fun e w' h => conv h, fun W hg => refExtended_range A n c gs nx k p hE hp W (hs.gr hg) hb⟩
  by_cases hf : 8 < pgs (byG gs (fI gs k)) + p
  · exact ⟨[], 0, 0, 30, fun W A c hv => (Extended_full A n c gs nx k p hE hp hf W hv hb).mono fun e w' h => conv h, fun W hg => refExtended_full A n c gs nx k p hE hp hf W (hs.gr hg) hb⟩
  have hw := wiB_iff.1 hp
  obtain ⟨q, rfl⟩ := Int.eq_ofNat_of_zero_le (show 0 ≤ p by omega)
  exact ⟨_, n, nx, 0, fun W A c hv => Extended_yes A n c gs nx k q hE (by omega) (by omega) W hv hb, fun W hg => refExtended_yes A n c gs nx k q hE (by omega) (by omega) W (hs.gr hg) hb⟩
/-- Both sides' Truncated, in all cases. -/
theorem truncated_all (A : Option Addr) (n c : Nat) (gs : List (Int × ByteArray)) (nx k p : Int) (w : World) (hs : Sv w A n c 2 (sg gs)) (hb : Sh gs) :
    ∃ (gb : List (Int × ByteArray)) (nb : Nat) (nxb F : Int), (∀ W A c, Sv W A n c 2 (sg gs) → Calls Try.prog 25 #[.agg #[.slice A n c, .int .i64 nx], .int .i64 k, .int .i64 p] W fun e w' => ∃ A c, e = .returned (.tuple #[.agg #[.slice A nb c, .int .i64 nxb], .int .i64 F]) ∧ Sv w' A nb c 2 (sg gb) ∧ Gr W w') ∧
      (∀ W, Gr w W → Calls Try.prog 27 #[.agg #[.slice A n c, .int .i64 nx], .int .i64 k, .int .i64 p] W (AnR gb nb nxb 0 ⟨#[]⟩ F W)) := by
  by_cases hE : ixE nx gs k = 0
  rotate_left
  · exact ⟨[], 0, 0, _, fun W A c hv => (Truncated_no A n c gs nx k p _ rfl hE W hv hb).mono fun e w' h => conv h, fun W hg => refTruncated_no A n c gs nx k p _ rfl hE W (hs.gr hg) hb⟩
  rcases Bool.eq_false_or_eq_true (wiB p 1 (pgs (byG gs (fI gs k)))) with hp | hp
  rotate_left
  · exact ⟨[], 0, 0, 3, fun W A c hv => (Truncated_range A n c gs nx k p hE hp W hv hb).mono fun e w' h => conv h, fun W hg => refTruncated_range A n c gs nx k p hE hp W (hs.gr hg) hb⟩
  have hw := wiB_iff.1 hp
  obtain ⟨q, rfl⟩ := Int.eq_ofNat_of_zero_le (show 0 ≤ p by omega)
  exact ⟨_, n, nx, 0, fun W A c hv => Truncated_yes A n c gs nx k q hE hp W hv hb, fun W hg => refTruncated_yes A n c gs nx k q hE hp W (hs.gr hg) hb⟩

theorem law (A : Option Addr) (n c : Nat) (gs : List (Int × ByteArray)) (nx k p : Int) (w : World) (hs : Sv w A n c 2 (sg gs)) (hb : Sh gs) (_hx : (Lit.int .i64 nx).wf = true) (_wk : (Lit.int .i64 k).wf = true) (_wp : (Lit.int .i64 p).wf = true) :
    Calls Try.prog 5 #[.agg #[.slice A n c, .int .i64 nx], .int .i64 k, .int .i64 p] w fun e w' => e = .returned (.bool true) ∧ Gr w w' := by
  rcases Bool.eq_false_or_eq_true (fewB gs) with hf | hf
  rotate_left
  · exact ss_large A n c gs nx k p w hs hb hf
  have hn : n ≤ 1000000 := by have := (few_yes hf).1; have := hs.segs; omega
  obtain ⟨ga, na, nxa, E, h1, h2⟩ := extended_all A n c gs nx k p w hs hb
  obtain ⟨gb, nb, nxb, F, h3, h4⟩ := truncated_all A n c gs nx k p w hs hb
  exact ss_walk A n c gs ga gb nx k p nxa E nxb F na nb w hs hb hf hn h1 h3 h2 h4

set_option maxRecDepth 100000 in
theorem lifted (os : Os) (started : os.Started) (H : Type) (enc : TypeId × Value → H) :
    ReturnsInHanded {} Try.checked os 5 .any (Rows.segmentSizesSpec.pre6 enc Try.prog Try.f5 Rows.segmentSizesRow.domain false) (Rows.segmentSizesSpec.post enc Try.prog Try.f5 false true false false) := by
  refine returnsInHanded_of_change (C := Try.checked) own_knob started (by kernel_rfl) Try.func5
    (ChangeSpec.witness6 (enc := enc) (C := Try.checked) false ⟨#[], #[.agg #[.slice none 0 0, .int .i64 0], .int .i64 0, .int .i64 0], []⟩ 8 (by kernel_rfl) (by kernel_rfl) (by kernel_rfl) (by kernel_rfl)) ?_
  intro W base args ds gs before hval0 hW hcnd _
  have hval : ∀ (j : Nat) t v, Try.f5.params[j]? = some t → args[j]? = some v → Value.okWide Try.prog W .any base t v := hval0
  have hW' := hW
  obtain ⟨p, q, hA0, hV, rfl, hfz, hnd⟩ := hW
  have hA : DataW.TrodAll enc Try.prog W 0 (fun _ => true) true Try.f5.params.toList args.toList ds p := hA0
  rw [Try.params5] at hA hval
  obtain ⟨v0, vs0, d0, ds0, p0, q0, hargs, rfl, rfl, h0, r0⟩ := trodAll_cons hA
  obtain ⟨v1, vs1, d1, ds1, p1, q1, hargs1, rfl, rfl, h1, r1⟩ := trodAll_cons r0
  obtain ⟨v2, vs2, d2, ds2, p2, q2, hargs2, rfl, rfl, h2, r2⟩ := trodAll_cons r1
  obtain ⟨hvz, rfl, rfl⟩ := trodAll_nil r2
  rw [hvz] at hargs2
  rw [hargs2] at hargs1
  rw [hargs1] at hargs
  obtain rfl : args = #[v0, v1, v2] := by cases args; simp_all
  obtain ⟨rfl, rfl⟩ := trodVars_none hV
  obtain ⟨A, n, c, gs, nx, rfl, hs, hb, hx⟩ := open_sto (hval 0 24 v0 rfl rfl) h0
  obtain ⟨a1, rfl, e1, g1, w1⟩ := open_int Try.underlying3 (hval 1 3 v1 rfl rfl) h1
  obtain ⟨a2, rfl, e2, g2, w2⟩ := open_int Try.underlying3 (hval 2 3 v2 rfl rfl) h2
  refine (law A n c gs nx a1 a2 W hs hb hx w1 w2).mono fun e W' ⟨he, hg⟩ => ?_
  subst he
  have hB : Below W.heap.size W W' := hg
  have hlt := fun x hx => hW'.lt x hx
  have hst := fun (sp' : Nat → Bool) => trodAll_stay laidOut (sp' := sp') (by kernel_rfl) hA0 (fun x hx => hB.same (hlt x (List.mem_append_left _ hx)))
  refine ⟨_, rfl, _, _, _, [], _, [], hW', (trodAll_cons_mk (shut_bool Try.underlying4 _) trodAll_mk0), hst _ (fun x hx => by simpa using hlt x (List.mem_append_left _ hx)), rfl, ?_, fun h => by cases h⟩
  exact World.keptBut_mono (fun x hx => ⟨hx, Or.inr (by simpa using hx)⟩) (hB.frame (· ∈ _))

theorem proved : Rows.SegmentSizesSaid :=
  OpenClaim.holds_of_wide 5 Try.f5 rfl rfl rfl rfl rfl rfl rfl ⟨rfl, rfl, rfl, rfl, rfl⟩ rfl rfl rfl rfl rfl (by kernel_rfl) Try.func5 (by kernel_rfl)
    (of_decide_eq_true (by kernel_rfl)) (by unfold Func.isWrapper; first | (rw [if_pos (by decide +kernel)]; kernel_rfl) | (rw [if_neg (by decide +kernel)]; exact ⟨rfl, rfl⟩))
    (fun os started H enc _ => lifted os started H enc)
#print axioms proved
end Go.Proofs.Ythbinjoiljddkaa.lawSizes
