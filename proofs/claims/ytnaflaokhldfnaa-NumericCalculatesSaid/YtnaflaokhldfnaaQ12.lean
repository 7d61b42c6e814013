/- Texts of the walks, merged. -/
import Derived.Test.YtnaflaokhldfnaaQ09
import Derived.Deep.RegionLaw
namespace Go.Proofs.Ytnaflaokhldfnaa
set_option linter.unusedSimpArgs false
set_option linter.unusedVariables false
open Go.RowKit

set_option maxHeartbeats 1000000 in
theorem brought_any (b : Bool) (O U : Nat) (s sc : Int) (e N : Nat) (he : sc - s = (e : Int)) (hs : -1000 ≤ s) (hs' : s ≤ 1000) (he' : e ≤ 100) (hN : O * 10 ^ e = N) (hm : Sm N) (w : World) :
    Calls Try.prog 92 #[(.agg #[.bool b, .int .u64 ((wd (O) 0 : Nat) : Int), .int .u64 ((wd (O) 1 : Nat) : Int), .int .u64 ((wd (O) 2 : Nat) : Int), .int .u64 ((wd (U) 0 : Nat) : Int), .int .u64 ((wd (U) 1 : Nat) : Int), .int .u64 ((wd (U) 2 : Nat) : Int), .int .i64 (s)]), .int .i64 sc] w fun e w' => e = .returned (.agg #[.bool b, .int .u64 ((wd (N) 0 : Nat) : Int), .int .u64 ((wd (N) 1 : Nat) : Int), .int .u64 ((wd (N) 2 : Nat) : Int), .int .u64 ((wd (U) 0 : Nat) : Int), .int .u64 ((wd (U) 1 : Nat) : Int), .int .u64 ((wd (U) 2 : Nat) : Int), .int .i64 (sc)]) ∧ Gr w w' := by
  have hT := timesPower_any O e (by rw [hN]; exact hm) he'
  rw [hN] at hT
  generalize wd O 0 = o0 at *
  generalize wd O 1 = o1 at *
  generalize wd O 2 = o2 at *
  generalize wd U 0 = u0 at *
  generalize wd U 1 = u1 at *
  generalize wd U 2 = u2 at *
  generalize wd N 0 = n0 at *
  generalize wd N 1 = n1 at *
  generalize wd N 2 = n2 at *
  clear hN
  go_enter Try.func92, Try.ntmps92
  go_wp2_with (go_at_call 59; with_reducible refine (hT _).mono ?_; rintro e w1 ⟨rfl, hb⟩; obtain ⟨hc, hf⟩ := cellsN hb (w.heap.size + 2) (by first | exact hz | omega | (simp; done) | (simp; omega)); have hz : w.heap.size + 2 ≤ w1.heap.size := (by have h := hb.size; (try simp at h); omega); have hz0 : w.heap.size < w1.heap.size := (by omega); have hz1 : w.heap.size + 1 < w1.heap.size := (by omega))
  refine bodyPost_ret (v := .agg #[.bool b, .int .u64 (n0 : Int), .int .u64 (n1 : Int), .int .u64 (n2 : Int), .int .u64 (u0 : Int), .int .u64 (u1 : Int), .int .u64 (u2 : Int), .int .i64 sc]) ?_ rfl ⟨rfl, (by (repeat (first | with_reducible refine Gr.setCell ?_ (by simp <;> omega) _ | with_reducible refine Gr.drew ?_ | with_reducible refine Gr.drewN ?_ _ | with_reducible refine Gr.alloc ?_ _)); first | (with_reducible exact Gr.refl _) | (with_reducible assumption) | exact (by repeat (first | (with_reducible exact Gr.refl _) | (with_reducible assumption) | (with_reducible refine Gr.alloc ?_ _) | (with_reducible refine Gr.drew ?_) | (with_reducible refine Gr.drewN ?_ _) | (with_reducible refine Gr.setCell ?_ (by simp <;> omega) _) | (with_reducible refine Gr.trans ?_ (by with_reducible assumption)) | exact Gr.refl _ | assumption | refine Gr.alloc ?_ _ | refine Gr.drew ?_ | refine Gr.drewN ?_ _ | refine Gr.setCell ?_ (by simp <;> omega) _ | refine Gr.trans ?_ (by assumption))))⟩
  simp [results, Try.results92, go_sem, *]

theorem negated_any (b : Bool) (O U : Nat) (s : Int) (w : World) :
    Calls Try.prog 55 #[(.agg #[.bool b, .int .u64 ((wd (O) 0 : Nat) : Int), .int .u64 ((wd (O) 1 : Nat) : Int), .int .u64 ((wd (O) 2 : Nat) : Int), .int .u64 ((wd (U) 0 : Nat) : Int), .int .u64 ((wd (U) 1 : Nat) : Int), .int .u64 ((wd (U) 2 : Nat) : Int), .int .i64 (s)])] w fun e w' => e = .returned (.agg #[.bool (!b), .int .u64 ((wd (O) 0 : Nat) : Int), .int .u64 ((wd (O) 1 : Nat) : Int), .int .u64 ((wd (O) 2 : Nat) : Int), .int .u64 ((wd (U) 0 : Nat) : Int), .int .u64 ((wd (U) 1 : Nat) : Int), .int .u64 ((wd (U) 2 : Nat) : Int), .int .i64 (s)]) ∧ Gr w w' := by
  go_enter Try.func55, Try.ntmps55
  go_wp2
  refine bodyPost_ret (v := (.agg #[.bool (!b), .int .u64 ((wd (O) 0 : Nat) : Int), .int .u64 ((wd (O) 1 : Nat) : Int), .int .u64 ((wd (O) 2 : Nat) : Int), .int .u64 ((wd (U) 0 : Nat) : Int), .int .u64 ((wd (U) 1 : Nat) : Int), .int .u64 ((wd (U) 2 : Nat) : Int), .int .i64 (s)])) ?_ rfl ⟨rfl, (by (repeat (first | with_reducible refine Gr.setCell ?_ (by simp <;> omega) _ | with_reducible refine Gr.drew ?_ | with_reducible refine Gr.drewN ?_ _ | with_reducible refine Gr.alloc ?_ _)); first | (with_reducible exact Gr.refl _) | (with_reducible assumption) | exact (by repeat (first | (with_reducible exact Gr.refl _) | (with_reducible assumption) | (with_reducible refine Gr.alloc ?_ _) | (with_reducible refine Gr.drew ?_) | (with_reducible refine Gr.drewN ?_ _) | (with_reducible refine Gr.setCell ?_ (by simp <;> omega) _) | (with_reducible refine Gr.trans ?_ (by with_reducible assumption)) | exact Gr.refl _ | assumption | refine Gr.alloc ?_ _ | refine Gr.drew ?_ | refine Gr.drewN ?_ _ | refine Gr.setCell ?_ (by simp <;> omega) _ | refine Gr.trans ?_ (by assumption))))⟩
  simp [results, Try.results55, go_sem, *]

theorem eq_amt (a b c d e f : Int) (w : World) : (Op.equalIn 10000 69 (.agg #[.int .u64 a, .int .u64 b, .int .u64 c]) (.agg #[.int .u64 d, .int .u64 e, .int .u64 f])).run Try.prog w = .ok (a == d && b == e && c == f) w := by
  have u3 := Try.underlying67
  have a3 := Try.isAgg67
  have z3 := Try.sizeOf67
  rw [show (10000 : Nat) = 9999 + 1 from rfl, Op.equalIn]
  simp only [Sem.run_bind, run_underlying Try.underlying69, Result.andThen_ok]
  simp only [Std.Legacy.Range.forIn_eq_forIn_range', Std.Legacy.Range.size, Nat.sub_zero, Nat.add_sub_cancel, Nat.div_one, List.range'_succ, List.range'_zero, List.forIn_cons, List.forIn_nil]
  go_simp
  by_cases h1 : a = d <;> by_cases h2 : b = e <;> by_cases h3 : c = f <;> simp [h1, h2, h3]

theorem Bx.pute {w : World} {b t vs} (h : Bx w b t vs) (hl : vs.length = 8) (x : Bool) (a0 a1 a2 u0 u1 u2 : Nat) (S : Int) : Bx (((((((((w).setCell ⟨b, 0, none⟩ (.bool x)).setCell ⟨b, 1, none⟩ (.int .u64 ((a0 : Nat) : Int))).setCell ⟨b, 2, none⟩ (.int .u64 ((a1 : Nat) : Int))).setCell ⟨b, 3, none⟩ (.int .u64 ((a2 : Nat) : Int))).setCell ⟨b, 4, none⟩ (.int .u64 ((u0 : Nat) : Int))).setCell ⟨b, 5, none⟩ (.int .u64 ((u1 : Nat) : Int))).setCell ⟨b, 6, none⟩ (.int .u64 ((u2 : Nat) : Int))).setCell ⟨b, 7, none⟩ (.int .i64 S)) b t [.bool x, .int .u64 ((a0 : Nat) : Int), .int .u64 ((a1 : Nat) : Int), .int .u64 ((a2 : Nat) : Int), .int .u64 ((u0 : Nat) : Int), .int .u64 ((u1 : Nat) : Int), .int .u64 ((u2 : Nat) : Int), .int .i64 S] := by
  match vs, hl with
  | [_, _, _, _, _, _, _, _], _ => exact ((((((((h.set 0 _).set 1 _).set 2 _).set 3 _).set 4 _).set 5 _).set 6 _).set 7 _)
theorem Bx.pute_other {w : World} {b b' t vs} (h : Bx w b t vs) (hb : b ≠ b') (x : Bool) (a0 a1 a2 u0 u1 u2 : Nat) (S : Int) : Bx (((((((((w).setCell ⟨b', 0, none⟩ (.bool x)).setCell ⟨b', 1, none⟩ (.int .u64 ((a0 : Nat) : Int))).setCell ⟨b', 2, none⟩ (.int .u64 ((a1 : Nat) : Int))).setCell ⟨b', 3, none⟩ (.int .u64 ((a2 : Nat) : Int))).setCell ⟨b', 4, none⟩ (.int .u64 ((u0 : Nat) : Int))).setCell ⟨b', 5, none⟩ (.int .u64 ((u1 : Nat) : Int))).setCell ⟨b', 6, none⟩ (.int .u64 ((u2 : Nat) : Int))).setCell ⟨b', 7, none⟩ (.int .i64 S)) b t vs :=
  ((((((((h |>.other _ _ hb) |>.other _ _ hb) |>.other _ _ hb) |>.other _ _ hb) |>.other _ _ hb) |>.other _ _ hb) |>.other _ _ hb) |>.other _ _ hb)
theorem Gr.pute {a w : World} {b : Nat} (h : Gr a w) (hb : a.heap.size ≤ b) (x : Bool) (a0 a1 a2 u0 u1 u2 : Nat) (S : Int) : Gr a (((((((((w).setCell ⟨b, 0, none⟩ (.bool x)).setCell ⟨b, 1, none⟩ (.int .u64 ((a0 : Nat) : Int))).setCell ⟨b, 2, none⟩ (.int .u64 ((a1 : Nat) : Int))).setCell ⟨b, 3, none⟩ (.int .u64 ((a2 : Nat) : Int))).setCell ⟨b, 4, none⟩ (.int .u64 ((u0 : Nat) : Int))).setCell ⟨b, 5, none⟩ (.int .u64 ((u1 : Nat) : Int))).setCell ⟨b, 6, none⟩ (.int .u64 ((u2 : Nat) : Int))).setCell ⟨b, 7, none⟩ (.int .i64 S)) :=
  ((((((((h |>.setCell hb _) |>.setCell hb _) |>.setCell hb _) |>.setCell hb _) |>.setCell hb _) |>.setCell hb _) |>.setCell hb _) |>.setCell hb _)
end Go.Proofs.Ytnaflaokhldfnaa
