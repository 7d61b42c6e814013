/- The example of chapter 4's statements; the reference's Own; few. -/
import Derived.Test.YtljminmfldejnaaHg
namespace Go.Proofs.Ytljminmfldejnaa
set_option linter.unusedSimpArgs false
set_option linter.unusedVariables false
open Go.RowKit

theorem sh_nil : Sh [] := fun i h => absurd h (by simp)
theorem sh_one (m : Int) (x : ByteArray) (h : x.size ≤ maxLen) : Sh [(m, x)] := fun i hi => by
  have : i = 0 := by simpa using hi
  subst this
  exact h
theorem aw1 : stE 1 [] = 0 := by decide +kernel
theorem aw2 : ixE 2 [(1, zP 2)] 1 = 0 := by decide +kernel
theorem aw3 : fI [(1, zP 2)] 1 = 0 := by decide +kernel
theorem aw4 : stE 2 [] = 0 := by decide +kernel
theorem aw_c1 (W : World) : Calls Try.prog 19 #[.agg #[.slice none 0 0, .int .i64 1], .int .i64 2] W fun e w' => ∃ A c, e = .returned (.tuple #[.agg #[.slice A 1 c, .int .i64 2], .int .i64 1, .int .i64 0]) ∧ Wv w' W.heap.size A 1 c 2 (sg [(1, zP 2)]) ∧ Gr W w' :=
  Created_yes none 0 0 [] 1 2 aw1 (by omega) (by omega) W (Sv.nil _ _) sh_nil
theorem aw_d (W : World) (A : Option Addr) (c : Nat) (hs : Sv W A 1 c 2 (sg [(1, zP 2)])) : Calls Try.prog 20 #[.agg #[.slice A 1 c, .int .i64 2], .int .i64 1] W fun e w' => ∃ A c, e = .returned (.tuple #[.agg #[.slice A 0 c, .int .i64 2], .int .i64 0]) ∧ Wv w' W.heap.size A 0 c 2 (sg []) ∧ Gr W w' := by
  have h := Destroyed_yes A 1 c [(1, zP 2)] 2 1 aw2 W hs (sh_one _ _ (by rw [zP_size]; unfold maxLen; omega))
  rw [aw3] at h
  exact h
theorem aw_c2 (W : World) (A : Option Addr) (c : Nat) (hs : Sv W A 0 c 2 (sg [])) : Calls Try.prog 19 #[.agg #[.slice A 0 c, .int .i64 2], .int .i64 1] W fun e w' => ∃ A c, e = .returned (.tuple #[.agg #[.slice A 1 c, .int .i64 3], .int .i64 2, .int .i64 0]) ∧ Wv w' W.heap.size A 1 c 2 (sg [(2, zP 1)]) ∧ Gr W w' :=
  Created_yes A 0 c [] 2 1 aw4 (by omega) (by omega) W hs sh_nil
set_option maxHeartbeats 2000000 in
set_option maxRecDepth 100000 in
theorem awake_any (w : World) : Calls Try.prog 12 #[] w fun e w' => e = .returned (.bool true) ∧ Gr w w' := by
  go_enter Try.func12, Try.ntmps12
  go_wp2_with (first
    | (go_at_call 19; (with_reducible refine (aw_c1 _).mono ?_); rintro e w1 ⟨A1, c1, rfl, hW1, hb1⟩; have HW1 := Lib.hid hW1; clear hW1; have hz1 := hb1.size)
    | (go_at_call 20; (with_reducible refine (aw_d _ _ _ (HW1.out.sv.gr (by repeat (first | (with_reducible exact Gr.refl _) | (with_reducible assumption) | (with_reducible refine Gr.alloc ?_ _) | (with_reducible refine Gr.drew ?_) | (with_reducible refine Gr.drewN ?_ _) | (with_reducible refine Gr.setCell ?_ (by simp <;> omega) _) | (with_reducible refine Gr.trans ?_ (by with_reducible assumption)) | exact Gr.refl _ | assumption | refine Gr.alloc ?_ _ | refine Gr.drew ?_ | refine Gr.drewN ?_ _ | refine Gr.setCell ?_ (by simp <;> omega) _ | refine Gr.trans ?_ (by assumption))))).mono ?_); rintro e w2 ⟨A2, c2, rfl, hW2, hb2⟩; have HW2 := Lib.hid hW2; clear hW2; have hz2 : w1.heap.size < w2.heap.size := (by have h := hb2.size; simp at h; omega); have g0 : w2.frozen? ⟨w1.heap.size, 0, none⟩ = false := (hb2.cells.2 _ _ (by simp)).trans (by simp [go_sem]); have g1 : w2.frozen? ⟨w1.heap.size, 1, none⟩ = false := (hb2.cells.2 _ _ (by simp)).trans (by simp [go_sem]); have d0 : w2.cell? ⟨w1.heap.size, 0, none⟩ = some (.slice A1 1 c1) := hb2.keep (by simp [go_sem]); have d1 : w2.cell? ⟨w1.heap.size, 1, none⟩ = some (.int .i64 2) := hb2.keep (by simp [go_sem]))
    | (go_at_call 19; (with_reducible refine (aw_c2 _ _ _ ((HW2.out.setLow (p := ⟨w1.heap.size, 0, none⟩) (by simp) _).setLow (p := ⟨w1.heap.size, 1, none⟩) (by simp) _).sv).mono ?_); rintro e w3 ⟨A3, c3, rfl, hW3, hb3⟩))
  go_ret
  exact ⟨rfl, (by repeat (first | (with_reducible exact Gr.refl _) | (with_reducible assumption) | (with_reducible refine Gr.alloc ?_ _) | (with_reducible refine Gr.drew ?_) | (with_reducible refine Gr.drewN ?_ _) | (with_reducible refine Gr.setCell ?_ (by simp <;> omega) _) | (with_reducible refine Gr.trans ?_ (by with_reducible assumption)) | exact Gr.refl _ | assumption | refine Gr.alloc ?_ _ | refine Gr.drew ?_ | refine Gr.drewN ?_ _ | refine Gr.setCell ?_ (by simp <;> omega) _ | refine Gr.trans ?_ (by assumption)))⟩

/-- A store of the call's own is returned. -/
def StR (gs : List (Int × ByteArray)) (nx : Int) (w : World) (e : Ending) (w' : World) : Prop :=
  ∃ A c, e = .returned (.agg #[.slice A gs.length c, .int .i64 nx]) ∧ Wv w' w.heap.size A gs.length c 2 (sg gs) ∧ Gr w w' ∧ w.heap.size < w'.heap.size
set_option maxHeartbeats 2000000 in
set_option maxRecDepth 100000 in
theorem Own_any (A : Option Addr) (n c : Nat) (gs : List (Int × ByteArray)) (nx : Int) (w : World) (hs : Sv w A n c 2 (sg gs)) (hn : n ≤ 1000000) :
    Calls Try.prog 15 #[.agg #[.slice A n c, .int .i64 nx]] w (StR gs nx w) := by
  obtain ⟨i0, hi, hz0, hz1, hz2⟩ := info_parts infoSeg
  have HL := Lib.hid hs.segs
  have HS := Lib.hid hs
  clear hs
  go_enter Try.func15, Try.ntmps15
  go_wp2
  go_region_held3 (fun w' => w'.cell? ⟨w.heap.size, 0, none⟩ = some (.slice A n c) ∧ w'.cell? ⟨w.heap.size, 1, none⟩ = some (.int .i64 nx)) (((try go_split_ands); (repeat' apply And.intro) <;> ((try simp only [World.cell?_drew]); first | (with_reducible assumption) | (simp [go_sem]; done) | ((repeat (first | (refine keepFar ?_ (by first | (dsimp only; omega) | (simp; done) | (simp; omega))) | (refine (Gr.alloc (Gr.refl _) _).keep ?_))); (try simp only [World.cell?_drew]); first | (with_reducible assumption) | (refine hb.keep ?_; (try simp only [World.cell?_drew]); first | (with_reducible assumption) | (simp [go_sem]; done) | ((repeat (refine (Gr.alloc (Gr.refl _) _).keep ?_)); (try simp only [World.cell?_drew]); (with_reducible assumption))) | (simp [*, go_sem]; done)))))
    ((refine step_append_sv _ (by rfl) _ _ 22 71 (by rfl) i0 (.agg #[.int .i64 0, .string ⟨#[]⟩]) 2 24 Try.underlying22 hi hz0 hz1 hz2 rfl (by omega) (w.heap.size + 2) (.slice none 0 0) 0 [] (by rfl) (World.ownsRow_nil _ _ _ _) A n c (sg gs) (by rfl) (HS.out.gr (by repeat (first | (with_reducible exact Gr.refl _) | (with_reducible assumption) | (with_reducible refine Gr.alloc ?_ _) | (with_reducible refine Gr.drew ?_) | (with_reducible refine Gr.drewN ?_ _) | (with_reducible refine Gr.setCell ?_ (by simp <;> omega) _) | (with_reducible refine Gr.trans ?_ (by with_reducible assumption)) | exact Gr.refl _ | assumption | refine Gr.alloc ?_ _ | refine Gr.drew ?_ | refine Gr.drewN ?_ _ | refine Gr.setCell ?_ (by simp <;> omega) _ | refine Gr.trans ?_ (by assumption)))) (sg_one gs) (by unfold maxLen; omega) (by omega) (by simp) ?_; intro v4 w4 hO4 hB4 hG4; have hb := Gr.and_below (Gr.refl _) hB4 (by simp); simp only [Nat.zero_add, List.nil_append] at hO4; obtain ⟨A', c', rfl, hW⟩ := wv_of_own hO4; have HW := Lib.hid hW; clear hW hO4 hG4; have hz2 : w.heap.size + 1 < w4.heap.size := (by have h := hb.size; simp at h; omega); have hz3 : w.heap.size < w4.heap.size := (by omega); have g0 : w4.frozen? ⟨w.heap.size + 1, 0, none⟩ = false := (hb.cells.2 (w.heap.size + 1) 0 (by simp)).trans (by simp [go_sem]); have g1 : w4.frozen? ⟨w.heap.size + 1, 1, none⟩ = false := (hb.cells.2 (w.heap.size + 1) 1 (by simp)).trans (by simp [go_sem]); have d2 : w4.cell? ⟨w.heap.size + 1, 0, none⟩ = some (.slice none 0 0) := hb.keep (by simp [go_sem]); have d3 : w4.cell? ⟨w.heap.size + 1, 1, none⟩ = some (.int .i64 0) := hb.keep (by simp [go_sem])))
  all_goals
    go_wp2
    refine bodyPost_ret (v := .agg #[.slice A' n c', .int .i64 nx]) (by simp [results, Try.results15, go_sem, *]) rfl ⟨A', c', by rw [HL.out], ?_, ?_, by simp; omega⟩
    · rw [HL.out]; exact ((HW.out.setLow (by simp) _).setLow (by simp) _).mono (by omega)
    · exact ((((Gr.refl w).alloc _).alloc _).drew.trans hb |>.setCell (by simp) _).setCell (by simp) _

/-- few: the bounds, and how it finds that they don't hold. -/
def bigG (gs : List (Int × ByteArray)) (i : Nat) : Bool := decide (400 < ((byG gs i).size : Int))
def fewB (gs : List (Int × ByteArray)) : Bool := decide (gs.length ≤ 12) && decide (fB (bigG gs) gs.length 0 = gs.length)
theorem few_large {gs : List (Int × ByteArray)} (h : 12 < gs.length) : fewB gs = false := by
  unfold fewB; rw [decide_eq_false (by omega)]; rfl
theorem few_big {gs : List (Int × ByteArray)} {q : Nat} (hq : q < gs.length) (h : fB (bigG gs) gs.length 0 = q) : fewB gs = false := by
  unfold fewB; rw [h, decide_eq_false (p := q = gs.length) (by omega)]; simp
theorem few_good {gs : List (Int × ByteArray)} (h : ¬ 12 < gs.length) (h2 : fB (bigG gs) gs.length 0 = gs.length) : fewB gs = true := by
  unfold fewB; rw [h2]; simp; omega
theorem few_yes {gs : List (Int × ByteArray)} (h : fewB gs = true) : gs.length ≤ 12 ∧ ∀ i, i < gs.length → (byG gs i).size ≤ 400 := by
  unfold fewB at h
  simp only [Bool.and_eq_true, decide_eq_true_eq] at h
  refine ⟨h.1, fun i hi => ?_⟩
  have := fB_all (bigG gs) gs.length 0 (by omega) i (by omega) (by omega)
  unfold bigG at this
  have := of_decide_eq_false this
  omega
theorem few_sh {gs : List (Int × ByteArray)} (h : fewB gs = true) : Sh gs := fun i hi => by
  have := (few_yes h).2 i hi
  unfold maxLen; omega
set_option maxHeartbeats 2000000 in
set_option maxRecDepth 100000 in
theorem few_any (A : Option Addr) (n c : Nat) (gs : List (Int × ByteArray)) (nx : Int) (w : World) (hs : Sv w A n c 2 (sg gs)) (hb : Sh gs) :
    Calls Try.prog 13 #[.agg #[.slice A n c, .int .i64 nx]] w fun e w' => e = .returned (.bool (fewB gs)) ∧ Gr w w' := by
  have hm := hs.max
  have hlen := hs.segs
  by_cases hL : 12 < gs.length
  · have hL' : (12 : Int) < n := by omega
    have E := Lib.hid (few_large hL)
    clear hlen
    go_enter Try.func13, Try.ntmps13
    go_wp2
    go_ret
    exact ⟨by rw [E.out] <;> rfl, (by repeat (first | (with_reducible exact Gr.refl _) | (with_reducible assumption) | (with_reducible refine Gr.alloc ?_ _) | (with_reducible refine Gr.drew ?_) | (with_reducible refine Gr.drewN ?_ _) | (with_reducible refine Gr.setCell ?_ (by simp <;> omega) _) | (with_reducible refine Gr.trans ?_ (by with_reducible assumption)) | exact Gr.refl _ | assumption | refine Gr.alloc ?_ _ | refine Gr.drew ?_ | refine Gr.drewN ?_ _ | refine Gr.setCell ?_ (by simp <;> omega) _ | refine Gr.trans ?_ (by assumption)))⟩
  have hL' : (n : Int) ≤ 12 := by omega
  have HN := Lib.hid hlen
  have HB := Lib.hid hb
  have HL := Lib.hid hL
  clear hlen hL hb
  rcases Nat.eq_zero_or_pos n with hn | hn
  · subst hn
    have E := Lib.hid (few_good HL.out (by rw [HN.out]; rfl))
    go_enter Try.func13, Try.ntmps13
    go_wp2
    go_loop [3] (fun i => i = .int .i64 0) (fun _ => 0)
    case atStart => rfl
    case round =>
      subst hrel
      go_wp2
      go_ret
      exact ⟨by rw [E.out] <;> rfl, (by repeat (first | (with_reducible exact Gr.refl _) | (with_reducible assumption) | (with_reducible refine Gr.alloc ?_ _) | (with_reducible refine Gr.drew ?_) | (with_reducible refine Gr.drewN ?_ _) | (with_reducible refine Gr.setCell ?_ (by simp <;> omega) _) | (with_reducible refine Gr.trans ?_ (by with_reducible assumption)) | exact Gr.refl _ | assumption | refine Gr.alloc ?_ _ | refine Gr.drew ?_ | refine Gr.drewN ?_ _ | refine Gr.setCell ?_ (by simp <;> omega) _ | refine Gr.trans ?_ (by assumption)))⟩
  · obtain ⟨b, o, rfl, hb, -⟩ := hs.at_ hn
    have HS := Lib.hid hs
    clear hs
    go_enter Try.func13, Try.ntmps13
    go_wp2
    go_loopw [3] (fun i wr => ∃ q : Nat, q ≤ n ∧ i = .int .i64 q ∧ Hid (fB (bigG gs) (n - q) q = fB (bigG gs) n 0) ∧ Hid (Gr (w.alloc (.cells #[.slice (some ⟨b, o, none⟩) n c, .int .i64 nx] 24)) wr)) (fun i _ => n - (intOf i).toNat)
    case atStart => exact ⟨0, Nat.zero_le _, rfl, by show _ = _; rfl, Gr.refl _⟩
    case round =>
      obtain ⟨q, hq, rfl, hF, hG⟩ := hrel
      have c0 := hG.out.keep (p := ⟨w.heap.size, 0, none⟩) (v := .slice (some ⟨b, o, none⟩) n c) (by simp)
      have hz0 : w.heap.size < wr.heap.size := World.block_lt_of_cell? wr _ c0
      by_cases hlt : q < n
      · obtain ⟨k0, k1⟩ := (HS.out.gr (((Gr.refl w).alloc _).trans hG.out)).seg hlt
        have hx := HB.out q (by rw [HN.out]; exact hlt)
        unfold maxLen at hx
        by_cases he : 400 < ((byG gs q).size : Int)
        · have E := Lib.hid (few_big (gs := gs) (q := q) (by rw [HN.out]; exact hlt) (by rw [HN.out, ← hF.out]; exact fB_yes (by omega) (by unfold bigG; exact decide_eq_true he)))
          generalize nuG gs q = m at *
          generalize byG gs q = x at *
          go_wp2
          go_ret
          exact ⟨by rw [E.out] <;> rfl, (((Gr.refl _).alloc _).trans hG.out)⟩
        · have F := Lib.hid (show bigG gs q = false by unfold bigG; exact decide_eq_false he)
          generalize nuG gs q = m at *
          generalize byG gs q = x at *
          go_wp2
          go_roundw
          case rel => exact ⟨q + 1, by omega, by go_num, by show _ = _; rw [← fB_no hlt F.out]; exact hF.out, Lib.hid (by exact hG.out.trans (by repeat (first | (with_reducible exact Gr.refl _) | (with_reducible assumption) | (with_reducible refine Gr.alloc ?_ _) | (with_reducible refine Gr.drew ?_) | (with_reducible refine Gr.drewN ?_ _) | (with_reducible refine Gr.setCell ?_ (by simp <;> omega) _) | (with_reducible refine Gr.trans ?_ (by with_reducible assumption)) | exact Gr.refl _ | assumption | refine Gr.alloc ?_ _ | refine Gr.drew ?_ | refine Gr.drewN ?_ _ | refine Gr.setCell ?_ (by simp <;> omega) _ | refine Gr.trans ?_ (by assumption))))⟩
          case measure => simp [intOf]; omega
      · have hqn := Lib.hid (show q = n by omega)
        have E := Lib.hid (few_good (gs := gs) HL.out (by rw [HN.out, ← hF.out, hqn.out]; simp [fB]))
        go_wp2
        go_ret
        exact ⟨by rw [E.out] <;> rfl, ((Gr.refl _).alloc _).trans hG.out⟩
end Go.Proofs.Ytljminmfldejnaa
