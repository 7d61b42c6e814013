/- The reference's fractions: LongOf as a slice that is read, FractionOf. -/
import Derived.Test.YtmejhccdiimmlaaRi
namespace Go.Proofs.Ytmejhccdiimmlaa
set_option linter.unusedSimpArgs false
set_option linter.unusedVariables false
open Go.RowKit

theorem cellsM {a b : World} (h : Gr a b) (n : Nat) (hn : n ≤ a.heap.size) : (∀ k o, k < n → b.cell? ⟨k, o, none⟩ = a.cell? ⟨k, o, none⟩) ∧ (∀ k o, k < n → b.frozen? ⟨k, o, none⟩ = a.frozen? ⟨k, o, none⟩) :=
  ⟨fun k o hk => h.cells.1 k o (by omega), fun k o hk => h.cells.2 k o (by omega)⟩
/-- A long number is returned: its sign, its amount. -/
def LongR (neg : Bool) (v : Int) (w : World) (e : Ending) (w' : World) : Prop :=
  ∃ p k c xs, e = .returned (.agg #[.bool neg, .slice p k c]) ∧ Sl w' p k c xs ∧ Cn xs ∧ vl xs = v ∧ Fr w.heap.size p ∧ Gr w w'
theorem LongOf_sl (n : Int) (z : Nat) (Z : Int) (hZ : Z = z) (hz : z ≤ 100) (h : -1000000000000000000 ≤ n) (h' : n ≤ 1000000000000000000) (w : World) :
    Calls Try.prog 84 #[.int .i64 n, .int .i64 Z] w (LongR (decide (n < 0)) (absI n * 10 ^ z) w) := by
  refine (LongOf_any n z Z hZ hz h h' w).mono fun e w' h => ?_
  obtain ⟨g, cap, xs, k, rfl, h1, h2, h3, h4, h5, h6, h7, h8⟩ := h
  exact ⟨_, k, cap, xs, rfl, ⟨h1, h2, h3, fun _ => ⟨g, rfl, h5⟩⟩, h6, h7, Fr.some h4, h8⟩
def PowR (n : Nat) (w : World) (e : Ending) (w' : World) : Prop :=
  ∃ p k c xs, e = .returned (.slice p k c) ∧ Sl w' p k c xs ∧ Cn xs ∧ vl xs = 10 ^ n ∧ k = n + 1 ∧ Fr w.heap.size p ∧ Gr w w'
theorem power_pr (n : Nat) (N : Int) (hN : N = n) (hb : n ≤ 1000) (w : World) : Calls Try.prog 110 #[.int .i64 N] w (PowR n w) := by
  refine (power_sl n N hN hb w).mono fun e w' h => ?_
  obtain ⟨p, cap, xs, rfl, h1, h2, h3, h4, h5⟩ := h
  exact ⟨p, n + 1, cap, xs, rfl, h1, h2, h3, rfl, h5, h4⟩
/-- A fraction is returned. -/
def FracR (neg : Bool) (v b : Int) (w : World) (e : Ending) (w' : World) : Prop :=
  ∃ p k c xs q l d ys, e = .returned (.agg #[.bool neg, .slice p k c, .slice q l d]) ∧ Sl w' p k c xs ∧ Cn xs ∧ vl xs = v ∧ Sl w' q l d ys ∧ Cn ys ∧ vl ys = b ∧ Fr w.heap.size p ∧ Fr w.heap.size q ∧ Gr w w'

set_option maxHeartbeats 2000000 in
set_option maxRecDepth 100000 in
theorem FractionOf_any (n : Int) (s : Nat) (S : Int) (hS : S = s) (hs : s ≤ 100) (h : -1000000000000000000 ≤ n) (h' : n ≤ 1000000000000000000) (w : World) :
    Calls Try.prog 69 #[.agg #[.int .i64 n, .int .i64 S]] w (FracR (decide (n < 0)) (absI n) (10 ^ s) w) := by
  have hL : ∀ w, Calls Try.prog 84 #[.int .i64 n, .int .i64 0] w (LongR (decide (n < 0)) (absI n) w) := fun w => by
    have := LongOf_sl n 0 0 rfl (by omega) h h' w
    simpa using this
  have hP : ∀ w, Calls Try.prog 110 #[.int .i64 S] w (PowR s w) := fun w => power_pr s S hS (by omega) w
  clear h h' hS
  go_enter Try.func69, Try.ntmps69
  go_wp2
  go_region_held3 (fun w' => w'.cell? ⟨w.heap.size, 0, none⟩ = some (.int .i64 n) ∧ w'.cell? ⟨w.heap.size, 1, none⟩ = some (.int .i64 S)) (first | (go_keep; done) | ((try go_split_ands); (repeat' apply And.intro) <;> ((try simp only [World.cell?_drew]); first | assumption | (refine hb.keep ?_; (try simp only [World.cell?_drew]); first | assumption | (simp [*, go_sem]; done)) | (simp [*, go_sem]; done)))) (first | (go_at_call 84; refine (hL _).mono ?_; rintro e wL ⟨p, k, c, xs, rfl, sL, cL, vL, rL, hb⟩; have rL2 := Lib.hid (rL.mono (show w.heap.size + 2 ≤ _ by first | exact hz | (simp; done) | (simp; omega))); clear rL; (obtain ⟨hc, hf⟩ := cellsM hb (w.heap.size + 2) (by first | exact hz | omega | (simp; done) | (simp; omega)); have hz : w.heap.size + 2 ≤ wL.heap.size := (by have h := Gr.size hb; (try simp at h); omega); have hz0 : w.heap.size < wL.heap.size := (by omega); have hz1 : w.heap.size + 1 < wL.heap.size := (by omega)); have gL := Lib.hid hb; have fL := Lib.hid (And.intro sL (And.intro cL vL)); clear sL cL vL) | (go_at_call 110; refine (hP _).mono ?_; rintro e wP ⟨q, l, d, ys, rfl, sP, cP, vP, lP, rP, hb⟩; have rP2 := Lib.hid (rP.mono (show w.heap.size + 2 ≤ _ by first | exact hz | (simp; done) | (simp; omega))); clear rP; (obtain ⟨hc, hf⟩ := cellsM hb (w.heap.size + 2) (by first | exact hz | omega | (simp; done) | (simp; omega)); have hz : w.heap.size + 2 ≤ wP.heap.size := (by have h := Gr.size hb; (try simp at h); omega); have hz0 : w.heap.size < wP.heap.size := (by omega); have hz1 : w.heap.size + 1 < wP.heap.size := (by omega)); have gP := Lib.hid hb; have fP := Lib.hid (And.intro sP (And.intro cP (And.intro vP lP))); clear sP cP vP lP))
  all_goals
    go_wp2
    obtain ⟨sL, cL, vL⟩ := fL.out
    obtain ⟨sP, cP, vP, lP⟩ := fP.out
    have n1 : ∀ a, p = some a → a.block ≠ w.heap.size + 1 := fun a e h => by have := rL2.out a e; omega
    have n2 : ∀ a, q = some a → a.block ≠ w.heap.size + 1 := fun a e h => by have := rP2.out a e; omega
    refine bodyPost_ret (v := .agg #[.bool (decide (n < 0)), .slice p k c, .slice q l d]) (by simp [results, Try.results69, go_sem, *]) rfl ?_
    first
    | exact ⟨p, k, c, xs, q, l, d, ys, rfl, (((sL.gr gP.out).setCell _ _ n1).setCell _ _ n1).setCell _ _ n1, cL, vL, ((sP.setCell _ _ n2).setCell _ _ n2).setCell _ _ n2, cP, vP, rL2.out.mono (by omega), rP2.out.mono (by omega), (by repeat (first | exact Gr.refl _ | assumption | refine Gr.alloc ?_ _ | refine Gr.drew ?_ | refine Gr.drewN ?_ _ | refine Gr.setCell ?_ (by simp <;> omega) _ | refine Gr.trans ?_ (by assumption)))⟩
    | exact ⟨p, k, c, xs, q, l, d, ys, rfl, ((sL.setCell _ _ n1).setCell _ _ n1).setCell _ _ n1, cL, vL, (((sP.gr gL.out).setCell _ _ n2).setCell _ _ n2).setCell _ _ n2, cP, vP, rL2.out.mono (by omega), rP2.out.mono (by omega), (by repeat (first | exact Gr.refl _ | assumption | refine Gr.alloc ?_ _ | refine Gr.drew ?_ | refine Gr.drewN ?_ _ | refine Gr.setCell ?_ (by simp <;> omega) _ | refine Gr.trans ?_ (by assumption)))⟩
end Go.Proofs.Ytmejhccdiimmlaa
