/- Texts of the walks, merged. -/
import Derived.Test.YtnaflaokhldfnaaDoorQ13
import Derived.Deep.RegionLaw
namespace Go.Proofs.YtnaflaokhldfnaaDoor
set_option linter.unusedSimpArgs false
set_option linter.unusedVariables false
open Go.RowKit

set_option maxHeartbeats 1000000 in
theorem brought_any (b : Bool) (O U : Nat) (s sc : Int) (e N : Nat) (he : sc - s = (e : Int)) (hs : -1000 ≤ s) (hs' : s ≤ 1000) (he' : e ≤ 100) (hN : O * 10 ^ e = N) (hm : Sm N) (w : World) :
    Calls Tryd.prog 41 #[(.agg #[.bool b, .int .u64 ((wd (O) 0 : Nat) : Int), .int .u64 ((wd (O) 1 : Nat) : Int), .int .u64 ((wd (O) 2 : Nat) : Int), .int .u64 ((wd (U) 0 : Nat) : Int), .int .u64 ((wd (U) 1 : Nat) : Int), .int .u64 ((wd (U) 2 : Nat) : Int), .int .i64 (s)]), .int .i64 sc] w fun e w' => e = .returned (.agg #[.bool b, .int .u64 ((wd (N) 0 : Nat) : Int), .int .u64 ((wd (N) 1 : Nat) : Int), .int .u64 ((wd (N) 2 : Nat) : Int), .int .u64 ((wd (U) 0 : Nat) : Int), .int .u64 ((wd (U) 1 : Nat) : Int), .int .u64 ((wd (U) 2 : Nat) : Int), .int .i64 (sc)]) ∧ Gr w w' := by
  have hT := timesPower_any O e (by rw [hN]; exact hm) he'
  rw [hN] at hT
  generalize wd O 0 = o0 at *
  generalize wd O 1 = o1 at *
  generalize wd O 2 = o2 at *
  generalize wd U 0 = u0 at *
  generalize wd U 1 = u1 at *
  generalize wd U 2 = u2 at *
  generalize wd N 0 = n0 at *
  generalize wd N 1 = n1 at *
  generalize wd N 2 = n2 at *
  clear hN
  go_enter Tryd.func41, Tryd.ntmps41
  go_wp2_with (go_at_call 68; with_reducible refine (hT _).mono ?_; rintro e w1 ⟨rfl, hb⟩; obtain ⟨hc, hf⟩ := cellsN hb (w.heap.size + 2) (by first | exact hz | omega | (simp; done) | (simp; omega)); have hz : w.heap.size + 2 ≤ w1.heap.size := (by have h := hb.size; (try simp at h); omega); have hz0 : w.heap.size < w1.heap.size := (by omega); have hz1 : w.heap.size + 1 < w1.heap.size := (by omega))
  refine bodyPost_ret (v := .agg #[.bool b, .int .u64 (n0 : Int), .int .u64 (n1 : Int), .int .u64 (n2 : Int), .int .u64 (u0 : Int), .int .u64 (u1 : Int), .int .u64 (u2 : Int), .int .i64 sc]) ?_ rfl ⟨rfl, (by (repeat (first | with_reducible refine Gr.setCell ?_ (by simp <;> omega) _ | with_reducible refine Gr.drew ?_ | with_reducible refine Gr.drewN ?_ _ | with_reducible refine Gr.alloc ?_ _)); first | (with_reducible exact Gr.refl _) | (with_reducible assumption) | exact (by repeat (first | (with_reducible exact Gr.refl _) | (with_reducible assumption) | (with_reducible refine Gr.alloc ?_ _) | (with_reducible refine Gr.drew ?_) | (with_reducible refine Gr.drewN ?_ _) | (with_reducible refine Gr.setCell ?_ (by simp <;> omega) _) | (with_reducible refine Gr.trans ?_ (by with_reducible assumption)) | exact Gr.refl _ | assumption | refine Gr.alloc ?_ _ | refine Gr.drew ?_ | refine Gr.drewN ?_ _ | refine Gr.setCell ?_ (by simp <;> omega) _ | refine Gr.trans ?_ (by assumption))))⟩
  simp [results, Tryd.results41, go_sem, *]

theorem negated_any (b : Bool) (O U : Nat) (s : Int) (w : World) :
    Calls Tryd.prog 20 #[(.agg #[.bool b, .int .u64 ((wd (O) 0 : Nat) : Int), .int .u64 ((wd (O) 1 : Nat) : Int), .int .u64 ((wd (O) 2 : Nat) : Int), .int .u64 ((wd (U) 0 : Nat) : Int), .int .u64 ((wd (U) 1 : Nat) : Int), .int .u64 ((wd (U) 2 : Nat) : Int), .int .i64 (s)])] w fun e w' => e = .returned (.agg #[.bool (!b), .int .u64 ((wd (O) 0 : Nat) : Int), .int .u64 ((wd (O) 1 : Nat) : Int), .int .u64 ((wd (O) 2 : Nat) : Int), .int .u64 ((wd (U) 0 : Nat) : Int), .int .u64 ((wd (U) 1 : Nat) : Int), .int .u64 ((wd (U) 2 : Nat) : Int), .int .i64 (s)]) ∧ Gr w w' := by
  go_enter Tryd.func20, Tryd.ntmps20
  go_wp2
  refine bodyPost_ret (v := (.agg #[.bool (!b), .int .u64 ((wd (O) 0 : Nat) : Int), .int .u64 ((wd (O) 1 : Nat) : Int), .int .u64 ((wd (O) 2 : Nat) : Int), .int .u64 ((wd (U) 0 : Nat) : Int), .int .u64 ((wd (U) 1 : Nat) : Int), .int .u64 ((wd (U) 2 : Nat) : Int), .int .i64 (s)])) ?_ rfl ⟨rfl, (by (repeat (first | with_reducible refine Gr.setCell ?_ (by simp <;> omega) _ | with_reducible refine Gr.drew ?_ | with_reducible refine Gr.drewN ?_ _ | with_reducible refine Gr.alloc ?_ _)); first | (with_reducible exact Gr.refl _) | (with_reducible assumption) | exact (by repeat (first | (with_reducible exact Gr.refl _) | (with_reducible assumption) | (with_reducible refine Gr.alloc ?_ _) | (with_reducible refine Gr.drew ?_) | (with_reducible refine Gr.drewN ?_ _) | (with_reducible refine Gr.setCell ?_ (by simp <;> omega) _) | (with_reducible refine Gr.trans ?_ (by with_reducible assumption)) | exact Gr.refl _ | assumption | refine Gr.alloc ?_ _ | refine Gr.drew ?_ | refine Gr.drewN ?_ _ | refine Gr.setCell ?_ (by simp <;> omega) _ | refine Gr.trans ?_ (by assumption))))⟩
  simp [results, Tryd.results20, go_sem, *]

theorem eq_amt (a b c d e f : Int) (w : World) : (Op.equalIn 10000 51 (.agg #[.int .u64 a, .int .u64 b, .int .u64 c]) (.agg #[.int .u64 d, .int .u64 e, .int .u64 f])).run Tryd.prog w = .ok (a == d && b == e && c == f) w := by
  have u3 := Tryd.underlying49
  have a3 := Tryd.isAgg49
  have z3 := Tryd.sizeOf49
  rw [show (10000 : Nat) = 9999 + 1 from rfl, Op.equalIn]
  simp only [Sem.run_bind, run_underlying Tryd.underlying51, Result.andThen_ok]
  simp only [Std.Legacy.Range.forIn_eq_forIn_range', Std.Legacy.Range.size, Nat.sub_zero, Nat.add_sub_cancel, Nat.div_one, List.range'_succ, List.range'_zero, List.forIn_cons, List.forIn_nil]
  go_simp
  by_cases h1 : a = d <;> by_cases h2 : b = e <;> by_cases h3 : c = f <;> simp [h1, h2, h3]

theorem sign_w (b : Bool) (o0 o1 o2 u0 u1 u2 : Nat) (s : Int) (z : Bool) (hz : (((o0 : Int) == 0 && (o1 : Int) == 0) && (o2 : Int) == 0) = z) /- 6 -/ (w : World) :
    Calls Tryd.prog 21 #[(.agg #[.bool b, .int .u64 ((o0 : Nat) : Int), .int .u64 ((o1 : Nat) : Int), .int .u64 ((o2 : Nat) : Int), .int .u64 ((u0 : Nat) : Int), .int .u64 ((u1 : Nat) : Int), .int .u64 ((u2 : Nat) : Int), .int .i64 s])] w fun e w' => e = .returned (.int .i64 (if z then 0 else if b then -1 else 1)) ∧ Gr w w' := by
  have he : ∀ w, (Op.equalIn 10000 51 (.agg #[.int .u64 (o0 : Int), .int .u64 (o1 : Int), .int .u64 (o2 : Int)]) (.agg #[.int .u64 0, .int .u64 0, .int .u64 0])).run Tryd.prog w = .ok z w := fun w => by rw [eq_amt, hz]
  clear hz
  cases z <;> cases b
  all_goals
    go_enter Tryd.func21, Tryd.ntmps21
    go_wp2
    go_ret
    exact ⟨ret_int (by simp), (by repeat (first | (with_reducible exact Gr.refl _) | (with_reducible assumption) | (with_reducible refine Gr.alloc ?_ _) | (with_reducible refine Gr.drew ?_) | (with_reducible refine Gr.drewN ?_ _) | (with_reducible refine Gr.setCell ?_ (by simp <;> omega) _) | (with_reducible refine Gr.trans ?_ (by with_reducible assumption)) | exact Gr.refl _ | assumption | refine Gr.alloc ?_ _ | refine Gr.drew ?_ | refine Gr.drewN ?_ _ | refine Gr.setCell ?_ (by simp <;> omega) _ | refine Gr.trans ?_ (by assumption)))⟩
theorem sign_any (b : Bool) (O U : Nat) (s : Int) /- 6 -/ (w : World) :
    Calls Tryd.prog 21 #[(.agg #[.bool b, .int .u64 ((wd (O) 0 : Nat) : Int), .int .u64 ((wd (O) 1 : Nat) : Int), .int .u64 ((wd (O) 2 : Nat) : Int), .int .u64 ((wd (U) 0 : Nat) : Int), .int .u64 ((wd (U) 1 : Nat) : Int), .int .u64 ((wd (U) 2 : Nat) : Int), .int .i64 (s)])] w fun e w' => e = .returned (.int .i64 (if O = 0 then 0 else if b then -1 else 1)) ∧ Gr w w' := by
  refine (sign_w b _ _ _ _ _ _ s (decide (O = 0)) ?_ w).mono fun e w' ⟨h1, h2⟩ => ⟨by rw [h1]; simp, h2⟩
  have e := wd_sum O
  by_cases h : O = 0
  · subst h; simp [wd]
  · simp only [decide_eq_false h]
    by_cases h0 : wd O 0 = 0 <;> by_cases h1 : wd O 1 = 0 <;> by_cases h2 : wd O 2 = 0 <;> simp [h0, h1, h2]
    rw [h0, h1, h2] at e; omega

theorem Bx.pute {w : World} {b t vs} (h : Bx w b t vs) (hl : vs.length = 8) (x : Bool) (a0 a1 a2 u0 u1 u2 : Nat) (S : Int) : Bx (((((((((w).setCell ⟨b, 0, none⟩ (.bool x)).setCell ⟨b, 1, none⟩ (.int .u64 ((a0 : Nat) : Int))).setCell ⟨b, 2, none⟩ (.int .u64 ((a1 : Nat) : Int))).setCell ⟨b, 3, none⟩ (.int .u64 ((a2 : Nat) : Int))).setCell ⟨b, 4, none⟩ (.int .u64 ((u0 : Nat) : Int))).setCell ⟨b, 5, none⟩ (.int .u64 ((u1 : Nat) : Int))).setCell ⟨b, 6, none⟩ (.int .u64 ((u2 : Nat) : Int))).setCell ⟨b, 7, none⟩ (.int .i64 S)) b t [.bool x, .int .u64 ((a0 : Nat) : Int), .int .u64 ((a1 : Nat) : Int), .int .u64 ((a2 : Nat) : Int), .int .u64 ((u0 : Nat) : Int), .int .u64 ((u1 : Nat) : Int), .int .u64 ((u2 : Nat) : Int), .int .i64 S] := by
  match vs, hl with
  | [_, _, _, _, _, _, _, _], _ => exact ((((((((h.set 0 _).set 1 _).set 2 _).set 3 _).set 4 _).set 5 _).set 6 _).set 7 _)
theorem Bx.pute_other {w : World} {b b' t vs} (h : Bx w b t vs) (hb : b ≠ b') (x : Bool) (a0 a1 a2 u0 u1 u2 : Nat) (S : Int) : Bx (((((((((w).setCell ⟨b', 0, none⟩ (.bool x)).setCell ⟨b', 1, none⟩ (.int .u64 ((a0 : Nat) : Int))).setCell ⟨b', 2, none⟩ (.int .u64 ((a1 : Nat) : Int))).setCell ⟨b', 3, none⟩ (.int .u64 ((a2 : Nat) : Int))).setCell ⟨b', 4, none⟩ (.int .u64 ((u0 : Nat) : Int))).setCell ⟨b', 5, none⟩ (.int .u64 ((u1 : Nat) : Int))).setCell ⟨b', 6, none⟩ (.int .u64 ((u2 : Nat) : Int))).setCell ⟨b', 7, none⟩ (.int .i64 S)) b t vs :=
  ((((((((h |>.other _ _ hb) |>.other _ _ hb) |>.other _ _ hb) |>.other _ _ hb) |>.other _ _ hb) |>.other _ _ hb) |>.other _ _ hb) |>.other _ _ hb)
theorem Gr.pute {a w : World} {b : Nat} (h : Gr a w) (hb : a.heap.size ≤ b) (x : Bool) (a0 a1 a2 u0 u1 u2 : Nat) (S : Int) : Gr a (((((((((w).setCell ⟨b, 0, none⟩ (.bool x)).setCell ⟨b, 1, none⟩ (.int .u64 ((a0 : Nat) : Int))).setCell ⟨b, 2, none⟩ (.int .u64 ((a1 : Nat) : Int))).setCell ⟨b, 3, none⟩ (.int .u64 ((a2 : Nat) : Int))).setCell ⟨b, 4, none⟩ (.int .u64 ((u0 : Nat) : Int))).setCell ⟨b, 5, none⟩ (.int .u64 ((u1 : Nat) : Int))).setCell ⟨b, 6, none⟩ (.int .u64 ((u2 : Nat) : Int))).setCell ⟨b, 7, none⟩ (.int .i64 S)) :=
  ((((((((h |>.setCell hb _) |>.setCell hb _) |>.setCell hb _) |>.setCell hb _) |>.setCell hb _) |>.setCell hb _) |>.setCell hb _) |>.setCell hb _)
end Go.Proofs.YtnaflaokhldfnaaDoor
