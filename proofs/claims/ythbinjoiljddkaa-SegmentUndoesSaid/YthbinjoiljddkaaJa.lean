/- The reference's Undo; lists of operations that are the same. -/
import Derived.Test.YthbinjoiljddkaaIw
namespace Go.Proofs.Ythbinjoiljddkaa
set_option linter.unusedSimpArgs false
set_option linter.unusedVariables false
open Go.RowKit

set_option maxHeartbeats 1000000 in
set_option maxRecDepth 100000 in
theorem SameOps_any (A A' : Option Addr) (l c c' : Nat) (ops : List (Int × Int × Int × Int × ByteArray)) (w : World) (hs : Sv w A l c 5 (oc ops)) (hs' : Sv w A' l c' 5 (oc ops)) :
    Calls Try.prog 38 #[.slice A l c, .slice A' l c'] w fun e w' => e = .returned (.bool true) ∧ Gr w w' := by
  have hm := hs.max
  have HS := Lib.hid hs
  have HS' := Lib.hid hs'
  rcases Nat.eq_zero_or_pos l with h0 | h0
  · subst h0
    clear hs hs'
    go_enter Try.func38, Try.ntmps38
    go_wp2
    go_loop [5] (fun i => i = .int .i64 0) (fun _ => 0)
    case atStart => rfl
    case round =>
      subst hrel
      go_wp2
      go_ret
      exact ⟨rfl, (by repeat (first | (with_reducible exact Gr.refl _) | (with_reducible assumption) | (with_reducible refine Gr.alloc ?_ _) | (with_reducible refine Gr.drew ?_) | (with_reducible refine Gr.drewN ?_ _) | (with_reducible refine Gr.setCell ?_ (by simp <;> omega) _) | (with_reducible refine Gr.trans ?_ (by with_reducible assumption)) | exact Gr.refl _ | assumption | refine Gr.alloc ?_ _ | refine Gr.drew ?_ | refine Gr.drewN ?_ _ | refine Gr.setCell ?_ (by simp <;> omega) _ | refine Gr.trans ?_ (by assumption)))⟩
  · obtain ⟨b, o, rfl, hb, -⟩ := hs.at_ h0
    obtain ⟨b', o', rfl, hb', -⟩ := hs'.at_ h0
    clear hs hs'
    go_enter Try.func38, Try.ntmps38
    go_wp2
    go_loopw [5] (fun i wr => ∃ q : Nat, q ≤ l ∧ i = .int .i64 q ∧ Hid (Gr w wr)) (fun i _ => l - (intOf i).toNat)
    case atStart => exact ⟨0, Nat.zero_le _, rfl, Gr.refl _⟩
    case round =>
      obtain ⟨q, hq, rfl, hG⟩ := hrel
      by_cases hlt : q < l
      · obtain ⟨k0, k1, k2, k3, k4⟩ := (HS.out.gr hG.out).op hlt
        obtain ⟨r0, r1, r2, r3, r4⟩ := (HS'.out.gr hG.out).op hlt
        generalize opAt ops q = m at *
        obtain ⟨m0, m1, m2, m3, m4⟩ := m
        dsimp only at *
        have hq0 : (0 : Int) ≤ q := by omega
        have hq1 : (q : Int) < l := by omega
        go_wp2
        go_quiet (fail)
        go_wp2
        go_roundw
        case rel => exact ⟨q + 1, by omega, by go_num, hG.out.drewN _⟩
        case measure => simp [intOf]; omega
      · go_wp2
        go_ret
        exact ⟨rfl, hG.out⟩
def HRp (n : Nat) (nx kd sn o pg : Int) (b : ByteArray) (g' : List (Int × ByteArray)) (x' N' E' : Int) (A : Option Addr) (c : Nat) (w : World) : Prop :=
  ∀ W B cb, Sv W B 1 cb 5 [.int .i64 kd, .int .i64 sn, .int .i64 o, .int .i64 pg, .string b] → Gr w W → Calls Try.prog 35 #[.agg #[.slice A n c, .int .i64 nx], .slice B 1 cb] W fun e w' =>
    ∃ A c, e = .returned (.agg #[.slice A g'.length c, .int .i64 x', .int .i64 N', .string ⟨#[]⟩, .int .i64 E']) ∧ Wv w' W.heap.size A g'.length c 2 (sg g') ∧ Gr W w'
theorem hRp (A : Option Addr) (n c : Nat) (gs : List (Int × ByteArray)) (nx kd sn o pg : Int) (b : ByteArray) (hd : b.size ≤ maxLen) (w : World) (hs : Sv w A n c 2 (sg gs)) (hb : Sh gs) (g' : List (Int × ByteArray)) (x' N' E' : Int) (hr : alR nx gs [(kd, sn, o, pg, b)] = (g', x', N', E')) : HRp n nx kd sn o pg b g' x' N' E' A c w := fun W B cb hB hg => by
  have h := (al_both A B n c 1 cb gs nx [(kd, sn, o, pg, b)] W (hs.gr hg) hb hB (fun i hi => by
    obtain rfl : i = 0 := by simpa using hi
    exact hd)).2
  rw [hr] at h
  exact h
set_option maxHeartbeats 2000000 in
set_option maxRecDepth 100000 in
theorem refUndo_err (A : Option Addr) (n c : Nat) (nx kd sn o pg : Int) (b : ByteArray) (g' : List (Int × ByteArray)) (x' N' E' : Int) (h0 : E' ≠ 0) (w : World) (HA : HRp n nx kd sn o pg b g' x' N' E' A c w) :
    Calls Try.prog 37 #[.agg #[.slice A n c, .int .i64 nx], .agg #[.int .i64 kd, .int .i64 sn, .int .i64 o, .int .i64 pg, .string b]] w (UnR [] E' w) := by
  have h1 : (E' != 0) = true := by simp [h0]
  unfold HRp at HA
  have HA := Lib.hid HA
  clear h0
  go_enter Try.func37, Try.ntmps37
  go_wp2_with (go_at_call 35; (with_reducible refine (HA.out _ (some ⟨w.heap.size + 1 + 1, 0, none⟩) 1 (by have h := Sv.new5 ((w.alloc (.cells #[.slice A n c, .int .i64 nx] 24)).alloc (.cells #[(.int .i64 kd), .int .i64 sn, .int .i64 o, .int .i64 pg, .string b] 62)) (.int .i64 kd) (.int .i64 sn) (.int .i64 o) (.int .i64 pg) (.string b) 62; simp only [World.size_alloc] at h; exact h) (by repeat (first | (with_reducible exact Gr.refl _) | (with_reducible assumption) | (with_reducible refine Gr.alloc ?_ _) | (with_reducible refine Gr.drew ?_) | (with_reducible refine Gr.drewN ?_ _) | (with_reducible refine Gr.setCell ?_ (by simp <;> omega) _) | (with_reducible refine Gr.trans ?_ (by with_reducible assumption)) | exact Gr.refl _ | assumption | refine Gr.alloc ?_ _ | refine Gr.drew ?_ | refine Gr.drewN ?_ _ | refine Gr.setCell ?_ (by simp <;> omega) _ | refine Gr.trans ?_ (by assumption)))).mono ?_); rintro e w1 ⟨A1, c1, rfl, hV1, hb⟩; clear hV1; obtain ⟨hc, hf⟩ := gcells hb (w.heap.size + 2) (by first | exact hz | (simp; done) | (simp; omega) | omega); have hz : w.heap.size + 2 ≤ w1.heap.size := (by have h := Gr.size hb; (try simp at h); omega); have hz0 : w.heap.size < w1.heap.size := (by omega); have hz1 : w.heap.size + 1 < w1.heap.size := (by omega))
  go_quiet (fail)
  go_wp2
  go_ret2
  exact ⟨none, 0, rfl, Sv.nil _ _, (by repeat (first | (with_reducible exact Gr.refl _) | (with_reducible assumption) | (with_reducible refine Gr.alloc ?_ _) | (with_reducible refine Gr.drew ?_) | (with_reducible refine Gr.drewN ?_ _) | (with_reducible refine Gr.setCell ?_ (by simp <;> omega) _) | (with_reducible refine Gr.trans ?_ (by with_reducible assumption)) | exact Gr.refl _ | assumption | refine Gr.alloc ?_ _ | refine Gr.drew ?_ | refine Gr.drewN ?_ _ | refine Gr.setCell ?_ (by simp <;> omega) _ | refine Gr.trans ?_ (by assumption)))⟩
set_option maxHeartbeats 2000000 in
set_option maxRecDepth 100000 in
theorem refUndo_ref (A : Option Addr) (n c : Nat) (nx kd sn o pg : Int) (b : ByteArray) (g' : List (Int × ByteArray)) (x' N' : Int) (hk : kd = 0 ∨ kd = 3) (w : World) (HA : HRp n nx kd sn o pg b g' x' N' 0 A c w) :
    Calls Try.prog 37 #[.agg #[.slice A n c, .int .i64 nx], .agg #[.int .i64 kd, .int .i64 sn, .int .i64 o, .int .i64 pg, .string b]] w (UnR [] 39 w) := by
  unfold HRp at HA
  have HA := Lib.hid HA
  rcases hk with rfl | rfl
  · go_enter Try.func37, Try.ntmps37
    go_wp2_with (go_at_call 35; (with_reducible refine (HA.out _ (some ⟨w.heap.size + 1 + 1, 0, none⟩) 1 (by have h := Sv.new5 ((w.alloc (.cells #[.slice A n c, .int .i64 nx] 24)).alloc (.cells #[(.int .i64 0), .int .i64 sn, .int .i64 o, .int .i64 pg, .string b] 62)) (.int .i64 0) (.int .i64 sn) (.int .i64 o) (.int .i64 pg) (.string b) 62; simp only [World.size_alloc] at h; exact h) (by repeat (first | (with_reducible exact Gr.refl _) | (with_reducible assumption) | (with_reducible refine Gr.alloc ?_ _) | (with_reducible refine Gr.drew ?_) | (with_reducible refine Gr.drewN ?_ _) | (with_reducible refine Gr.setCell ?_ (by simp <;> omega) _) | (with_reducible refine Gr.trans ?_ (by with_reducible assumption)) | exact Gr.refl _ | assumption | refine Gr.alloc ?_ _ | refine Gr.drew ?_ | refine Gr.drewN ?_ _ | refine Gr.setCell ?_ (by simp <;> omega) _ | refine Gr.trans ?_ (by assumption)))).mono ?_); rintro e w1 ⟨A1, c1, rfl, hV1, hb⟩; clear hV1; obtain ⟨hc, hf⟩ := gcells hb (w.heap.size + 2) (by first | exact hz | (simp; done) | (simp; omega) | omega); have hz : w.heap.size + 2 ≤ w1.heap.size := (by have h := Gr.size hb; (try simp at h); omega); have hz0 : w.heap.size < w1.heap.size := (by omega); have hz1 : w.heap.size + 1 < w1.heap.size := (by omega))
    go_ret2
    exact ⟨none, 0, rfl, Sv.nil _ _, (by repeat (first | (with_reducible exact Gr.refl _) | (with_reducible assumption) | (with_reducible refine Gr.alloc ?_ _) | (with_reducible refine Gr.drew ?_) | (with_reducible refine Gr.drewN ?_ _) | (with_reducible refine Gr.setCell ?_ (by simp <;> omega) _) | (with_reducible refine Gr.trans ?_ (by with_reducible assumption)) | exact Gr.refl _ | assumption | refine Gr.alloc ?_ _ | refine Gr.drew ?_ | refine Gr.drewN ?_ _ | refine Gr.setCell ?_ (by simp <;> omega) _ | refine Gr.trans ?_ (by assumption)))⟩
  · go_enter Try.func37, Try.ntmps37
    go_wp2_with (go_at_call 35; (with_reducible refine (HA.out _ (some ⟨w.heap.size + 1 + 1, 0, none⟩) 1 (by have h := Sv.new5 ((w.alloc (.cells #[.slice A n c, .int .i64 nx] 24)).alloc (.cells #[(.int .i64 3), .int .i64 sn, .int .i64 o, .int .i64 pg, .string b] 62)) (.int .i64 3) (.int .i64 sn) (.int .i64 o) (.int .i64 pg) (.string b) 62; simp only [World.size_alloc] at h; exact h) (by repeat (first | (with_reducible exact Gr.refl _) | (with_reducible assumption) | (with_reducible refine Gr.alloc ?_ _) | (with_reducible refine Gr.drew ?_) | (with_reducible refine Gr.drewN ?_ _) | (with_reducible refine Gr.setCell ?_ (by simp <;> omega) _) | (with_reducible refine Gr.trans ?_ (by with_reducible assumption)) | exact Gr.refl _ | assumption | refine Gr.alloc ?_ _ | refine Gr.drew ?_ | refine Gr.drewN ?_ _ | refine Gr.setCell ?_ (by simp <;> omega) _ | refine Gr.trans ?_ (by assumption)))).mono ?_); rintro e w1 ⟨A1, c1, rfl, hV1, hb⟩; clear hV1; obtain ⟨hc, hf⟩ := gcells hb (w.heap.size + 2) (by first | exact hz | (simp; done) | (simp; omega) | omega); have hz : w.heap.size + 2 ≤ w1.heap.size := (by have h := Gr.size hb; (try simp at h); omega); have hz0 : w.heap.size < w1.heap.size := (by omega); have hz1 : w.heap.size + 1 < w1.heap.size := (by omega))
    go_ret2
    exact ⟨none, 0, rfl, Sv.nil _ _, (by repeat (first | (with_reducible exact Gr.refl _) | (with_reducible assumption) | (with_reducible refine Gr.alloc ?_ _) | (with_reducible refine Gr.drew ?_) | (with_reducible refine Gr.drewN ?_ _) | (with_reducible refine Gr.setCell ?_ (by simp <;> omega) _) | (with_reducible refine Gr.trans ?_ (by with_reducible assumption)) | exact Gr.refl _ | assumption | refine Gr.alloc ?_ _ | refine Gr.drew ?_ | refine Gr.drewN ?_ _ | refine Gr.setCell ?_ (by simp <;> omega) _ | refine Gr.trans ?_ (by assumption)))⟩
end Go.Proofs.Ythbinjoiljddkaa
