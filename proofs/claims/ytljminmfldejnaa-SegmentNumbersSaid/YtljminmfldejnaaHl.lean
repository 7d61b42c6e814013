/- Stores that are the same; what SegmentCreates wants of both sides. -/
import Derived.Test.YtljminmfldejnaaHk
namespace Go.Proofs.Ytljminmfldejnaa
set_option linter.unusedSimpArgs false
set_option linter.unusedVariables false
open Go.RowKit

set_option maxHeartbeats 1000000 in
set_option maxRecDepth 100000 in
theorem Same_any (A A' : Option Addr) (n c c' : Nat) (gs : List (Int × ByteArray)) (nx : Int) (w : World) (hs : Sv w A n c 2 (sg gs)) (hs' : Sv w A' n c' 2 (sg gs)) :
    Calls Try.prog 41 #[.agg #[.slice A n c, .int .i64 nx], .agg #[.slice A' n c', .int .i64 nx]] w fun e w' => e = .returned (.bool true) ∧ Gr w w' := by
  have hm := hs.max
  have HS := Lib.hid hs
  have HS' := Lib.hid hs'
  rcases Nat.eq_zero_or_pos n with h0 | h0
  · subst h0
    clear hs hs'
    go_enter Try.func41, Try.ntmps41
    go_wp2
    go_loop [5] (fun i => i = .int .i64 0) (fun _ => 0)
    case atStart => rfl
    case round =>
      subst hrel
      go_wp2
      go_ret
      exact ⟨rfl, (by repeat (first | (with_reducible exact Gr.refl _) | (with_reducible assumption) | (with_reducible refine Gr.alloc ?_ _) | (with_reducible refine Gr.drew ?_) | (with_reducible refine Gr.drewN ?_ _) | (with_reducible refine Gr.setCell ?_ (by simp <;> omega) _) | (with_reducible refine Gr.trans ?_ (by with_reducible assumption)) | exact Gr.refl _ | assumption | refine Gr.alloc ?_ _ | refine Gr.drew ?_ | refine Gr.drewN ?_ _ | refine Gr.setCell ?_ (by simp <;> omega) _ | refine Gr.trans ?_ (by assumption)))⟩
  · obtain ⟨b, o, rfl, hb, -⟩ := hs.at_ h0
    obtain ⟨b', o', rfl, hb', -⟩ := hs'.at_ h0
    clear hs hs'
    go_enter Try.func41, Try.ntmps41
    go_wp2
    go_loopw [5] (fun i wr => ∃ q : Nat, q ≤ n ∧ i = .int .i64 q ∧ Hid (Gr ((w.alloc (.cells #[.slice (some ⟨b, o, none⟩) n c, .int .i64 nx] 24)).alloc (.cells #[.slice (some ⟨b', o', none⟩) n c', .int .i64 nx] 24)) wr)) (fun i _ => n - (intOf i).toNat)
    case atStart => exact ⟨0, Nat.zero_le _, rfl, Gr.refl _⟩
    case round =>
      obtain ⟨q, hq, rfl, hG⟩ := hrel
      have c0 := hG.out.keep (p := ⟨w.heap.size, 0, none⟩) (v := .slice (some ⟨b, o, none⟩) n c) (by simp [go_sem])
      have c1 := hG.out.keep (p := ⟨w.heap.size + 1, 0, none⟩) (v := .slice (some ⟨b', o', none⟩) n c') (by simp [go_sem])
      have hz0 : w.heap.size < wr.heap.size := World.block_lt_of_cell? wr _ c0
      have hz1 : w.heap.size + 1 < wr.heap.size := World.block_lt_of_cell? wr _ c1
      by_cases hlt : q < n
      · have G1 := (((Gr.refl w).alloc (.cells #[.slice (some ⟨b, o, none⟩) n c, .int .i64 nx] 24)).alloc (.cells #[.slice (some ⟨b', o', none⟩) n c', .int .i64 nx] 24)).trans hG.out
        obtain ⟨k0, k1⟩ := (HS.out.gr G1).seg hlt
        obtain ⟨k2, k3⟩ := (HS'.out.gr G1).seg hlt
        clear G1
        generalize nuG gs q = m at *
        generalize byG gs q = x at *
        have hq0 : (0 : Int) ≤ q := by omega
        have hq1 : (q : Int) < n := by omega
        go_wp2
        go_quiet (fail)
        go_wp2
        go_roundw
        case rel => exact ⟨q + 1, by omega, by go_num, hG.out.drewN _⟩
        case measure => simp [intOf]; omega
      · go_wp2
        go_ret
        exact ⟨rfl, ((((Gr.refl w).alloc _).alloc _).trans hG.out)⟩

theorem is_any (A A' : Option Addr) (n c c' : Nat) (gs : List (Int × ByteArray)) (nx E N : Int) (S : ByteArray) (w : World) (hs : Sv w A n c 2 (sg gs)) (hs' : Sv w A' n c' 2 (sg gs)) :
    Calls Try.prog 22 #[.agg #[.slice A n c, .int .i64 nx], .int .i64 E, .agg #[.slice A' n c', .int .i64 nx, .int .i64 N, .string S, .int .i64 E]] w fun e w' => e = .returned (.bool true) ∧ Gr w w' := by
  have HS := Lib.hid hs
  have HS' := Lib.hid hs'
  clear hs hs'
  go_enter Try.func22, Try.ntmps22
  go_wp2_with ((go_at_call 41; (with_reducible refine (Same_any A A' n c c' gs nx _ (HS.out.gr (by repeat (first | (with_reducible exact Gr.refl _) | (with_reducible assumption) | (with_reducible refine Gr.alloc ?_ _) | (with_reducible refine Gr.drew ?_) | (with_reducible refine Gr.drewN ?_ _) | (with_reducible refine Gr.setCell ?_ (by simp <;> omega) _) | (with_reducible refine Gr.trans ?_ (by with_reducible assumption)) | exact Gr.refl _ | assumption | refine Gr.alloc ?_ _ | refine Gr.drew ?_ | refine Gr.drewN ?_ _ | refine Gr.setCell ?_ (by simp <;> omega) _ | refine Gr.trans ?_ (by assumption)))) (HS'.out.gr (by repeat (first | (with_reducible exact Gr.refl _) | (with_reducible assumption) | (with_reducible refine Gr.alloc ?_ _) | (with_reducible refine Gr.drew ?_) | (with_reducible refine Gr.drewN ?_ _) | (with_reducible refine Gr.setCell ?_ (by simp <;> omega) _) | (with_reducible refine Gr.trans ?_ (by with_reducible assumption)) | exact Gr.refl _ | assumption | refine Gr.alloc ?_ _ | refine Gr.drew ?_ | refine Gr.drewN ?_ _ | refine Gr.setCell ?_ (by simp <;> omega) _ | refine Gr.trans ?_ (by assumption))))).mono ?_); rintro e w1 ⟨rfl, hb⟩; obtain ⟨hc, hf⟩ := gcells hb (w.heap.size + 2) (by first | exact hz | omega | (simp; done) | (simp; omega)); have hz : w.heap.size + 2 ≤ w1.heap.size := (by have h := hb.size; (try simp at h); omega); have hz0 : w.heap.size < w1.heap.size := (by omega)))
  go_ret
  exact ⟨rfl, (by repeat (first | (with_reducible exact Gr.refl _) | (with_reducible assumption) | (with_reducible refine Gr.alloc ?_ _) | (with_reducible refine Gr.drew ?_) | (with_reducible refine Gr.drewN ?_ _) | (with_reducible refine Gr.setCell ?_ (by simp <;> omega) _) | (with_reducible refine Gr.trans ?_ (by with_reducible assumption)) | exact Gr.refl _ | assumption | refine Gr.alloc ?_ _ | refine Gr.drew ?_ | refine Gr.drewN ?_ _ | refine Gr.setCell ?_ (by simp <;> omega) _ | refine Gr.trans ?_ (by assumption)))⟩
end Go.Proofs.Ytljminmfldejnaa
