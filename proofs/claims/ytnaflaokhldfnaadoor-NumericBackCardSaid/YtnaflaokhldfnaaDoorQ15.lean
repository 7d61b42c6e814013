/- Texts of the walks, merged. -/
import Derived.Test.YtnaflaokhldfnaaDoorQ14
namespace Go.Proofs.YtnaflaokhldfnaaDoor
set_option linter.unusedSimpArgs false
set_option linter.unusedVariables false
open Go.RowKit

set_option maxHeartbeats 2000000 in
set_option maxRecDepth 100000 in
theorem sumOf_same (b1 b2 : Bool) (s1 s2 S cc : Int) (o0 o1 o2 p0 p1 p2 u0 u1 u2 v0 v1 v2 a0 a1 a2 c0 c1 c2 z0 z1 z2 : Nat) (hS : max s1 s2 = S)
    (h1 : ∀ w, Calls Tryd.prog 41 #[(.agg #[.bool b1, .int .u64 ((o0 : Nat) : Int), .int .u64 ((o1 : Nat) : Int), .int .u64 ((o2 : Nat) : Int), .int .u64 ((u0 : Nat) : Int), .int .u64 ((u1 : Nat) : Int), .int .u64 ((u2 : Nat) : Int), .int .i64 s1]), .int .i64 S] w fun e w' => e = .returned (.agg #[.bool b1, .int .u64 ((a0 : Nat) : Int), .int .u64 ((a1 : Nat) : Int), .int .u64 ((a2 : Nat) : Int), .int .u64 ((u0 : Nat) : Int), .int .u64 ((u1 : Nat) : Int), .int .u64 ((u2 : Nat) : Int), .int .i64 S]) ∧ Gr w w')
    (h2 : ∀ w, Calls Tryd.prog 41 #[(.agg #[.bool b2, .int .u64 ((p0 : Nat) : Int), .int .u64 ((p1 : Nat) : Int), .int .u64 ((p2 : Nat) : Int), .int .u64 ((v0 : Nat) : Int), .int .u64 ((v1 : Nat) : Int), .int .u64 ((v2 : Nat) : Int), .int .i64 s2]), .int .i64 S] w fun e w' => e = .returned (.agg #[.bool b2, .int .u64 ((c0 : Nat) : Int), .int .u64 ((c1 : Nat) : Int), .int .u64 ((c2 : Nat) : Int), .int .u64 ((v0 : Nat) : Int), .int .u64 ((v1 : Nat) : Int), .int .u64 ((v2 : Nat) : Int), .int .i64 S]) ∧ Gr w w')
    (hP : ∀ w, Calls Tryd.prog 42 #[(.agg #[.int .u64 ((a0 : Nat) : Int), .int .u64 ((a1 : Nat) : Int), .int .u64 ((a2 : Nat) : Int)]), (.agg #[.int .u64 ((c0 : Nat) : Int), .int .u64 ((c1 : Nat) : Int), .int .u64 ((c2 : Nat) : Int)])] w fun e w' => e = .returned (.agg #[.int .u64 ((z0 : Nat) : Int), .int .u64 ((z1 : Nat) : Int), .int .u64 ((z2 : Nat) : Int)]) ∧ Gr w w')
    (hb : (b1 == b2) = true)
    (w : World) :
    Calls Tryd.prog 18 #[(.agg #[.bool b1, .int .u64 ((o0 : Nat) : Int), .int .u64 ((o1 : Nat) : Int), .int .u64 ((o2 : Nat) : Int), .int .u64 ((u0 : Nat) : Int), .int .u64 ((u1 : Nat) : Int), .int .u64 ((u2 : Nat) : Int), .int .i64 s1]), (.agg #[.bool b2, .int .u64 ((p0 : Nat) : Int), .int .u64 ((p1 : Nat) : Int), .int .u64 ((p2 : Nat) : Int), .int .u64 ((v0 : Nat) : Int), .int .u64 ((v1 : Nat) : Int), .int .u64 ((v2 : Nat) : Int), .int .i64 s2])] w fun e w' => e = .returned (.agg #[.bool b1, .int .u64 ((z0 : Nat) : Int), .int .u64 ((z1 : Nat) : Int), .int .u64 ((z2 : Nat) : Int), .int .u64 ((u0 : Nat) : Int), .int .u64 ((u1 : Nat) : Int), .int .u64 ((u2 : Nat) : Int), .int .i64 S]) ∧ Gr w w' := by
  have HA0 := Lib.hid (((Bx.new w 53 #[.bool b1, .int .u64 ((o0 : Nat) : Int), .int .u64 ((o1 : Nat) : Int), .int .u64 ((o2 : Nat) : Int), .int .u64 ((u0 : Nat) : Int), .int .u64 ((u1 : Nat) : Int), .int .u64 ((u2 : Nat) : Int), .int .i64 s1]).alloc (.cells #[.bool b2, .int .u64 ((p0 : Nat) : Int), .int .u64 ((p1 : Nat) : Int), .int .u64 ((p2 : Nat) : Int), .int .u64 ((v0 : Nat) : Int), .int .u64 ((v1 : Nat) : Int), .int .u64 ((v2 : Nat) : Int), .int .i64 s2] 53)).alloc (.cells #[.bool false, .int .u64 0, .int .u64 0, .int .u64 0, .int .u64 0, .int .u64 0, .int .u64 0, .int .i64 0] 53))
  have HB0 := Lib.hid ((Bx.new (w.alloc (.cells #[.bool b1, .int .u64 ((o0 : Nat) : Int), .int .u64 ((o1 : Nat) : Int), .int .u64 ((o2 : Nat) : Int), .int .u64 ((u0 : Nat) : Int), .int .u64 ((u1 : Nat) : Int), .int .u64 ((u2 : Nat) : Int), .int .i64 s1] 53)) 53 #[.bool b2, .int .u64 ((p0 : Nat) : Int), .int .u64 ((p1 : Nat) : Int), .int .u64 ((p2 : Nat) : Int), .int .u64 ((v0 : Nat) : Int), .int .u64 ((v1 : Nat) : Int), .int .u64 ((v2 : Nat) : Int), .int .i64 s2]).alloc (.cells #[.bool false, .int .u64 0, .int .u64 0, .int .u64 0, .int .u64 0, .int .u64 0, .int .u64 0, .int .i64 0] 53))
  have HV0 := Lib.hid (Bx.new ((w.alloc (.cells #[.bool b1, .int .u64 ((o0 : Nat) : Int), .int .u64 ((o1 : Nat) : Int), .int .u64 ((o2 : Nat) : Int), .int .u64 ((u0 : Nat) : Int), .int .u64 ((u1 : Nat) : Int), .int .u64 ((u2 : Nat) : Int), .int .i64 s1] 53)).alloc (.cells #[.bool b2, .int .u64 ((p0 : Nat) : Int), .int .u64 ((p1 : Nat) : Int), .int .u64 ((p2 : Nat) : Int), .int .u64 ((v0 : Nat) : Int), .int .u64 ((v1 : Nat) : Int), .int .u64 ((v2 : Nat) : Int), .int .i64 s2] 53)) 53 #[.bool false, .int .u64 0, .int .u64 0, .int .u64 0, .int .u64 0, .int .u64 0, .int .u64 0, .int .i64 0])
  simp only [World.size_alloc] at HB0 HV0
  go_enter Tryd.func18, Tryd.ntmps18
  go_wp2
  go_region_law (first | (go_simp; (go_at_call 41; with_reducible refine (h1 _).mono ?_; rintro e w1 ⟨rfl, hb⟩; obtain ⟨hc, hf⟩ := cellsN hb (w.heap.size + 3) (by first | exact hz | omega | (simp; done) | (simp; omega)); have hz : w.heap.size + 3 ≤ w1.heap.size := (by have h := hb.size; (try simp at h); omega); have hz0 : w.heap.size < w1.heap.size := (by omega); have hz1 : w.heap.size + 1 < w1.heap.size := (by omega))) | (go_simp; (go_at_call 41; with_reducible refine (h2 _).mono ?_; rintro e w1 ⟨rfl, hb⟩; obtain ⟨hc, hf⟩ := cellsN hb (w.heap.size + 3) (by first | exact hz | omega | (simp; done) | (simp; omega)); have hz : w.heap.size + 3 ≤ w1.heap.size := (by have h := hb.size; (try simp at h); omega); have hz0 : w.heap.size < w1.heap.size := (by omega); have hz1 : w.heap.size + 1 < w1.heap.size := (by omega))))
  all_goals
    have HA := Lib.hid (((HA0.out.gr ((by (repeat (first | with_reducible refine Gr.setCell ?_ (by simp <;> omega) _ | with_reducible refine Gr.drew ?_ | with_reducible refine Gr.drewN ?_ _ | with_reducible refine Gr.alloc ?_ _)); first | (with_reducible exact Gr.refl _) | (with_reducible assumption) | exact (by repeat (first | (with_reducible exact Gr.refl _) | (with_reducible assumption) | (with_reducible refine Gr.alloc ?_ _) | (with_reducible refine Gr.drew ?_) | (with_reducible refine Gr.drewN ?_ _) | (with_reducible refine Gr.setCell ?_ (by simp <;> omega) _) | (with_reducible refine Gr.trans ?_ (by with_reducible assumption)) | exact Gr.refl _ | assumption | refine Gr.alloc ?_ _ | refine Gr.drew ?_ | refine Gr.drewN ?_ _ | refine Gr.setCell ?_ (by simp <;> omega) _ | refine Gr.trans ?_ (by assumption)))) : Gr _ w1)).pute rfl b1 a0 a1 a2 u0 u1 u2 S).pute_other (b' := w.heap.size + 1) (by omega) b2 c0 c1 c2 v0 v1 v2 S)
    have HB := Lib.hid (((HB0.out.gr ((by (repeat (first | with_reducible refine Gr.setCell ?_ (by simp <;> omega) _ | with_reducible refine Gr.drew ?_ | with_reducible refine Gr.drewN ?_ _ | with_reducible refine Gr.alloc ?_ _)); first | (with_reducible exact Gr.refl _) | (with_reducible assumption) | exact (by repeat (first | (with_reducible exact Gr.refl _) | (with_reducible assumption) | (with_reducible refine Gr.alloc ?_ _) | (with_reducible refine Gr.drew ?_) | (with_reducible refine Gr.drewN ?_ _) | (with_reducible refine Gr.setCell ?_ (by simp <;> omega) _) | (with_reducible refine Gr.trans ?_ (by with_reducible assumption)) | exact Gr.refl _ | assumption | refine Gr.alloc ?_ _ | refine Gr.drew ?_ | refine Gr.drewN ?_ _ | refine Gr.setCell ?_ (by simp <;> omega) _ | refine Gr.trans ?_ (by assumption)))) : Gr _ w1)).pute_other (b' := w.heap.size) (by omega) b1 a0 a1 a2 u0 u1 u2 S).pute rfl b2 c0 c1 c2 v0 v1 v2 S)
    have HV := Lib.hid (((HV0.out.gr ((by (repeat (first | with_reducible refine Gr.setCell ?_ (by simp <;> omega) _ | with_reducible refine Gr.drew ?_ | with_reducible refine Gr.drewN ?_ _ | with_reducible refine Gr.alloc ?_ _)); first | (with_reducible exact Gr.refl _) | (with_reducible assumption) | exact (by repeat (first | (with_reducible exact Gr.refl _) | (with_reducible assumption) | (with_reducible refine Gr.alloc ?_ _) | (with_reducible refine Gr.drew ?_) | (with_reducible refine Gr.drewN ?_ _) | (with_reducible refine Gr.setCell ?_ (by simp <;> omega) _) | (with_reducible refine Gr.trans ?_ (by with_reducible assumption)) | exact Gr.refl _ | assumption | refine Gr.alloc ?_ _ | refine Gr.drew ?_ | refine Gr.drewN ?_ _ | refine Gr.setCell ?_ (by simp <;> omega) _ | refine Gr.trans ?_ (by assumption)))) : Gr _ w1)).pute_other (b' := w.heap.size) (by omega) b1 a0 a1 a2 u0 u1 u2 S).pute_other (b' := w.heap.size + 1) (by omega) b2 c0 c1 c2 v0 v1 v2 S)
    have G1 : Gr w w1 := (by (repeat (first | with_reducible refine Gr.setCell ?_ (by simp <;> omega) _ | with_reducible refine Gr.drew ?_ | with_reducible refine Gr.drewN ?_ _ | with_reducible refine Gr.alloc ?_ _)); first | (with_reducible exact Gr.refl _) | (with_reducible assumption) | exact (by repeat (first | (with_reducible exact Gr.refl _) | (with_reducible assumption) | (with_reducible refine Gr.alloc ?_ _) | (with_reducible refine Gr.drew ?_) | (with_reducible refine Gr.drewN ?_ _) | (with_reducible refine Gr.setCell ?_ (by simp <;> omega) _) | (with_reducible refine Gr.trans ?_ (by with_reducible assumption)) | exact Gr.refl _ | assumption | refine Gr.alloc ?_ _ | refine Gr.drew ?_ | refine Gr.drewN ?_ _ | refine Gr.setCell ?_ (by simp <;> omega) _ | refine Gr.trans ?_ (by assumption))))
    have HG := Lib.hid ((G1.pute (b := w.heap.size) (by omega) b1 a0 a1 a2 u0 u1 u2 S).pute (b := w.heap.size + 1) (by omega) b2 c0 c1 c2 v0 v1 v2 S)
    clear HA0 HB0 HV0 G1
    generalize ((((((((((((((((((w1).setCell ⟨w.heap.size, 0, none⟩ (.bool b1)).setCell ⟨w.heap.size, 1, none⟩ (.int .u64 ((a0 : Nat) : Int))).setCell ⟨w.heap.size, 2, none⟩ (.int .u64 ((a1 : Nat) : Int))).setCell ⟨w.heap.size, 3, none⟩ (.int .u64 ((a2 : Nat) : Int))).setCell ⟨w.heap.size, 4, none⟩ (.int .u64 ((u0 : Nat) : Int))).setCell ⟨w.heap.size, 5, none⟩ (.int .u64 ((u1 : Nat) : Int))).setCell ⟨w.heap.size, 6, none⟩ (.int .u64 ((u2 : Nat) : Int))).setCell ⟨w.heap.size, 7, none⟩ (.int .i64 S))).setCell ⟨(w.heap.size + 1), 0, none⟩ (.bool b2)).setCell ⟨(w.heap.size + 1), 1, none⟩ (.int .u64 ((c0 : Nat) : Int))).setCell ⟨(w.heap.size + 1), 2, none⟩ (.int .u64 ((c1 : Nat) : Int))).setCell ⟨(w.heap.size + 1), 3, none⟩ (.int .u64 ((c2 : Nat) : Int))).setCell ⟨(w.heap.size + 1), 4, none⟩ (.int .u64 ((v0 : Nat) : Int))).setCell ⟨(w.heap.size + 1), 5, none⟩ (.int .u64 ((v1 : Nat) : Int))).setCell ⟨(w.heap.size + 1), 6, none⟩ (.int .u64 ((v2 : Nat) : Int))).setCell ⟨(w.heap.size + 1), 7, none⟩ (.int .i64 S)) = W5 at *
    have hz : w.heap.size + 3 ≤ W5.heap.size := by have := HV.out.lt; omega
    have x0 := HA.out.cell 0 rfl
    have y0 := HB.out.cell 0 rfl
    have t0 := HV.out.cell 0 rfl
    have fx0 := HA.out.frozen 0
    have fy0 := HB.out.frozen 0
    have ft0 := HV.out.frozen 0
    have x1 := HA.out.cell 1 rfl
    have y1 := HB.out.cell 1 rfl
    have t1 := HV.out.cell 1 rfl
    have fx1 := HA.out.frozen 1
    have fy1 := HB.out.frozen 1
    have ft1 := HV.out.frozen 1
    have x2 := HA.out.cell 2 rfl
    have y2 := HB.out.cell 2 rfl
    have t2 := HV.out.cell 2 rfl
    have fx2 := HA.out.frozen 2
    have fy2 := HB.out.frozen 2
    have ft2 := HV.out.frozen 2
    have x3 := HA.out.cell 3 rfl
    have y3 := HB.out.cell 3 rfl
    have t3 := HV.out.cell 3 rfl
    have fx3 := HA.out.frozen 3
    have fy3 := HB.out.frozen 3
    have ft3 := HV.out.frozen 3
    have x4 := HA.out.cell 4 rfl
    have y4 := HB.out.cell 4 rfl
    have t4 := HV.out.cell 4 rfl
    have fx4 := HA.out.frozen 4
    have fy4 := HB.out.frozen 4
    have ft4 := HV.out.frozen 4
    have x5 := HA.out.cell 5 rfl
    have y5 := HB.out.cell 5 rfl
    have t5 := HV.out.cell 5 rfl
    have fx5 := HA.out.frozen 5
    have fy5 := HB.out.frozen 5
    have ft5 := HV.out.frozen 5
    have x6 := HA.out.cell 6 rfl
    have y6 := HB.out.cell 6 rfl
    have t6 := HV.out.cell 6 rfl
    have fx6 := HA.out.frozen 6
    have fy6 := HB.out.frozen 6
    have ft6 := HV.out.frozen 6
    have x7 := HA.out.cell 7 rfl
    have y7 := HB.out.cell 7 rfl
    have t7 := HV.out.cell 7 rfl
    have fx7 := HA.out.frozen 7
    have fy7 := HB.out.frozen 7
    have ft7 := HV.out.frozen 7
    go_wp2_with (go_at_call 42; with_reducible refine (hP _).mono ?_; rintro e w1 ⟨rfl, hb⟩; obtain ⟨hc, hf⟩ := cellsN hb (w.heap.size + 3) (by first | exact hz | omega | (simp; done) | (simp; omega)); have hz : w.heap.size + 3 ≤ w1.heap.size := (by have h := hb.size; (try simp at h); omega); have hz0 : w.heap.size < w1.heap.size := (by omega); have hz1 : w.heap.size + 1 < w1.heap.size := (by omega))
    refine bodyPost_ret (v := (.agg #[.bool b1, .int .u64 ((z0 : Nat) : Int), .int .u64 ((z1 : Nat) : Int), .int .u64 ((z2 : Nat) : Int), .int .u64 ((u0 : Nat) : Int), .int .u64 ((u1 : Nat) : Int), .int .u64 ((u2 : Nat) : Int), .int .i64 S])) ?_ rfl ⟨rfl, ?_⟩
    · simp [results, Tryd.results18, go_sem, *]
    · have HG2 := HG.out
      exact (by (repeat (first | with_reducible refine Gr.setCell ?_ (by simp <;> omega) _ | with_reducible refine Gr.drew ?_ | with_reducible refine Gr.drewN ?_ _ | with_reducible refine Gr.alloc ?_ _)); first | (with_reducible exact Gr.refl _) | (with_reducible assumption) | exact (by repeat (first | (with_reducible exact Gr.refl _) | (with_reducible assumption) | (with_reducible refine Gr.alloc ?_ _) | (with_reducible refine Gr.drew ?_) | (with_reducible refine Gr.drewN ?_ _) | (with_reducible refine Gr.setCell ?_ (by simp <;> omega) _) | (with_reducible refine Gr.trans ?_ (by with_reducible assumption)) | exact Gr.refl _ | assumption | refine Gr.alloc ?_ _ | refine Gr.drew ?_ | refine Gr.drewN ?_ _ | refine Gr.setCell ?_ (by simp <;> omega) _ | refine Gr.trans ?_ (by assumption))))

set_option maxHeartbeats 2000000 in
set_option maxRecDepth 100000 in
theorem sumOf_more (b1 b2 : Bool) (s1 s2 S cc : Int) (o0 o1 o2 p0 p1 p2 u0 u1 u2 v0 v1 v2 a0 a1 a2 c0 c1 c2 z0 z1 z2 : Nat) (hS : max s1 s2 = S)
    (h1 : ∀ w, Calls Tryd.prog 41 #[(.agg #[.bool b1, .int .u64 ((o0 : Nat) : Int), .int .u64 ((o1 : Nat) : Int), .int .u64 ((o2 : Nat) : Int), .int .u64 ((u0 : Nat) : Int), .int .u64 ((u1 : Nat) : Int), .int .u64 ((u2 : Nat) : Int), .int .i64 s1]), .int .i64 S] w fun e w' => e = .returned (.agg #[.bool b1, .int .u64 ((a0 : Nat) : Int), .int .u64 ((a1 : Nat) : Int), .int .u64 ((a2 : Nat) : Int), .int .u64 ((u0 : Nat) : Int), .int .u64 ((u1 : Nat) : Int), .int .u64 ((u2 : Nat) : Int), .int .i64 S]) ∧ Gr w w')
    (h2 : ∀ w, Calls Tryd.prog 41 #[(.agg #[.bool b2, .int .u64 ((p0 : Nat) : Int), .int .u64 ((p1 : Nat) : Int), .int .u64 ((p2 : Nat) : Int), .int .u64 ((v0 : Nat) : Int), .int .u64 ((v1 : Nat) : Int), .int .u64 ((v2 : Nat) : Int), .int .i64 s2]), .int .i64 S] w fun e w' => e = .returned (.agg #[.bool b2, .int .u64 ((c0 : Nat) : Int), .int .u64 ((c1 : Nat) : Int), .int .u64 ((c2 : Nat) : Int), .int .u64 ((v0 : Nat) : Int), .int .u64 ((v1 : Nat) : Int), .int .u64 ((v2 : Nat) : Int), .int .i64 S]) ∧ Gr w w')
    (hC : ∀ w, Calls Tryd.prog 43 #[(.agg #[.int .u64 ((a0 : Nat) : Int), .int .u64 ((a1 : Nat) : Int), .int .u64 ((a2 : Nat) : Int)]), (.agg #[.int .u64 ((c0 : Nat) : Int), .int .u64 ((c1 : Nat) : Int), .int .u64 ((c2 : Nat) : Int)])] w fun e w' => e = .returned (.int .i64 cc) ∧ Gr w w')
    (hM : ∀ w, Calls Tryd.prog 44 #[(.agg #[.int .u64 ((a0 : Nat) : Int), .int .u64 ((a1 : Nat) : Int), .int .u64 ((a2 : Nat) : Int)]), (.agg #[.int .u64 ((c0 : Nat) : Int), .int .u64 ((c1 : Nat) : Int), .int .u64 ((c2 : Nat) : Int)])] w fun e w' => e = .returned (.agg #[.int .u64 ((z0 : Nat) : Int), .int .u64 ((z1 : Nat) : Int), .int .u64 ((z2 : Nat) : Int)]) ∧ Gr w w')
    (hb : (b1 == b2) = false) (hcc : 0 ≤ cc)
    (w : World) :
    Calls Tryd.prog 18 #[(.agg #[.bool b1, .int .u64 ((o0 : Nat) : Int), .int .u64 ((o1 : Nat) : Int), .int .u64 ((o2 : Nat) : Int), .int .u64 ((u0 : Nat) : Int), .int .u64 ((u1 : Nat) : Int), .int .u64 ((u2 : Nat) : Int), .int .i64 s1]), (.agg #[.bool b2, .int .u64 ((p0 : Nat) : Int), .int .u64 ((p1 : Nat) : Int), .int .u64 ((p2 : Nat) : Int), .int .u64 ((v0 : Nat) : Int), .int .u64 ((v1 : Nat) : Int), .int .u64 ((v2 : Nat) : Int), .int .i64 s2])] w fun e w' => e = .returned (.agg #[.bool b1, .int .u64 ((z0 : Nat) : Int), .int .u64 ((z1 : Nat) : Int), .int .u64 ((z2 : Nat) : Int), .int .u64 ((u0 : Nat) : Int), .int .u64 ((u1 : Nat) : Int), .int .u64 ((u2 : Nat) : Int), .int .i64 S]) ∧ Gr w w' := by
  have HA0 := Lib.hid (((Bx.new w 53 #[.bool b1, .int .u64 ((o0 : Nat) : Int), .int .u64 ((o1 : Nat) : Int), .int .u64 ((o2 : Nat) : Int), .int .u64 ((u0 : Nat) : Int), .int .u64 ((u1 : Nat) : Int), .int .u64 ((u2 : Nat) : Int), .int .i64 s1]).alloc (.cells #[.bool b2, .int .u64 ((p0 : Nat) : Int), .int .u64 ((p1 : Nat) : Int), .int .u64 ((p2 : Nat) : Int), .int .u64 ((v0 : Nat) : Int), .int .u64 ((v1 : Nat) : Int), .int .u64 ((v2 : Nat) : Int), .int .i64 s2] 53)).alloc (.cells #[.bool false, .int .u64 0, .int .u64 0, .int .u64 0, .int .u64 0, .int .u64 0, .int .u64 0, .int .i64 0] 53))
  have HB0 := Lib.hid ((Bx.new (w.alloc (.cells #[.bool b1, .int .u64 ((o0 : Nat) : Int), .int .u64 ((o1 : Nat) : Int), .int .u64 ((o2 : Nat) : Int), .int .u64 ((u0 : Nat) : Int), .int .u64 ((u1 : Nat) : Int), .int .u64 ((u2 : Nat) : Int), .int .i64 s1] 53)) 53 #[.bool b2, .int .u64 ((p0 : Nat) : Int), .int .u64 ((p1 : Nat) : Int), .int .u64 ((p2 : Nat) : Int), .int .u64 ((v0 : Nat) : Int), .int .u64 ((v1 : Nat) : Int), .int .u64 ((v2 : Nat) : Int), .int .i64 s2]).alloc (.cells #[.bool false, .int .u64 0, .int .u64 0, .int .u64 0, .int .u64 0, .int .u64 0, .int .u64 0, .int .i64 0] 53))
  have HV0 := Lib.hid (Bx.new ((w.alloc (.cells #[.bool b1, .int .u64 ((o0 : Nat) : Int), .int .u64 ((o1 : Nat) : Int), .int .u64 ((o2 : Nat) : Int), .int .u64 ((u0 : Nat) : Int), .int .u64 ((u1 : Nat) : Int), .int .u64 ((u2 : Nat) : Int), .int .i64 s1] 53)).alloc (.cells #[.bool b2, .int .u64 ((p0 : Nat) : Int), .int .u64 ((p1 : Nat) : Int), .int .u64 ((p2 : Nat) : Int), .int .u64 ((v0 : Nat) : Int), .int .u64 ((v1 : Nat) : Int), .int .u64 ((v2 : Nat) : Int), .int .i64 s2] 53)) 53 #[.bool false, .int .u64 0, .int .u64 0, .int .u64 0, .int .u64 0, .int .u64 0, .int .u64 0, .int .i64 0])
  simp only [World.size_alloc] at HB0 HV0
  go_enter Tryd.func18, Tryd.ntmps18
  go_wp2
  go_region_law (first | (go_simp; (go_at_call 41; with_reducible refine (h1 _).mono ?_; rintro e w1 ⟨rfl, hb⟩; obtain ⟨hc, hf⟩ := cellsN hb (w.heap.size + 3) (by first | exact hz | omega | (simp; done) | (simp; omega)); have hz : w.heap.size + 3 ≤ w1.heap.size := (by have h := hb.size; (try simp at h); omega); have hz0 : w.heap.size < w1.heap.size := (by omega); have hz1 : w.heap.size + 1 < w1.heap.size := (by omega))) | (go_simp; (go_at_call 41; with_reducible refine (h2 _).mono ?_; rintro e w1 ⟨rfl, hb⟩; obtain ⟨hc, hf⟩ := cellsN hb (w.heap.size + 3) (by first | exact hz | omega | (simp; done) | (simp; omega)); have hz : w.heap.size + 3 ≤ w1.heap.size := (by have h := hb.size; (try simp at h); omega); have hz0 : w.heap.size < w1.heap.size := (by omega); have hz1 : w.heap.size + 1 < w1.heap.size := (by omega))))
  all_goals
    have HA := Lib.hid (((HA0.out.gr ((by (repeat (first | with_reducible refine Gr.setCell ?_ (by simp <;> omega) _ | with_reducible refine Gr.drew ?_ | with_reducible refine Gr.drewN ?_ _ | with_reducible refine Gr.alloc ?_ _)); first | (with_reducible exact Gr.refl _) | (with_reducible assumption) | exact (by repeat (first | (with_reducible exact Gr.refl _) | (with_reducible assumption) | (with_reducible refine Gr.alloc ?_ _) | (with_reducible refine Gr.drew ?_) | (with_reducible refine Gr.drewN ?_ _) | (with_reducible refine Gr.setCell ?_ (by simp <;> omega) _) | (with_reducible refine Gr.trans ?_ (by with_reducible assumption)) | exact Gr.refl _ | assumption | refine Gr.alloc ?_ _ | refine Gr.drew ?_ | refine Gr.drewN ?_ _ | refine Gr.setCell ?_ (by simp <;> omega) _ | refine Gr.trans ?_ (by assumption)))) : Gr _ w1)).pute rfl b1 a0 a1 a2 u0 u1 u2 S).pute_other (b' := w.heap.size + 1) (by omega) b2 c0 c1 c2 v0 v1 v2 S)
    have HB := Lib.hid (((HB0.out.gr ((by (repeat (first | with_reducible refine Gr.setCell ?_ (by simp <;> omega) _ | with_reducible refine Gr.drew ?_ | with_reducible refine Gr.drewN ?_ _ | with_reducible refine Gr.alloc ?_ _)); first | (with_reducible exact Gr.refl _) | (with_reducible assumption) | exact (by repeat (first | (with_reducible exact Gr.refl _) | (with_reducible assumption) | (with_reducible refine Gr.alloc ?_ _) | (with_reducible refine Gr.drew ?_) | (with_reducible refine Gr.drewN ?_ _) | (with_reducible refine Gr.setCell ?_ (by simp <;> omega) _) | (with_reducible refine Gr.trans ?_ (by with_reducible assumption)) | exact Gr.refl _ | assumption | refine Gr.alloc ?_ _ | refine Gr.drew ?_ | refine Gr.drewN ?_ _ | refine Gr.setCell ?_ (by simp <;> omega) _ | refine Gr.trans ?_ (by assumption)))) : Gr _ w1)).pute_other (b' := w.heap.size) (by omega) b1 a0 a1 a2 u0 u1 u2 S).pute rfl b2 c0 c1 c2 v0 v1 v2 S)
    have HV := Lib.hid (((HV0.out.gr ((by (repeat (first | with_reducible refine Gr.setCell ?_ (by simp <;> omega) _ | with_reducible refine Gr.drew ?_ | with_reducible refine Gr.drewN ?_ _ | with_reducible refine Gr.alloc ?_ _)); first | (with_reducible exact Gr.refl _) | (with_reducible assumption) | exact (by repeat (first | (with_reducible exact Gr.refl _) | (with_reducible assumption) | (with_reducible refine Gr.alloc ?_ _) | (with_reducible refine Gr.drew ?_) | (with_reducible refine Gr.drewN ?_ _) | (with_reducible refine Gr.setCell ?_ (by simp <;> omega) _) | (with_reducible refine Gr.trans ?_ (by with_reducible assumption)) | exact Gr.refl _ | assumption | refine Gr.alloc ?_ _ | refine Gr.drew ?_ | refine Gr.drewN ?_ _ | refine Gr.setCell ?_ (by simp <;> omega) _ | refine Gr.trans ?_ (by assumption)))) : Gr _ w1)).pute_other (b' := w.heap.size) (by omega) b1 a0 a1 a2 u0 u1 u2 S).pute_other (b' := w.heap.size + 1) (by omega) b2 c0 c1 c2 v0 v1 v2 S)
    have G1 : Gr w w1 := (by (repeat (first | with_reducible refine Gr.setCell ?_ (by simp <;> omega) _ | with_reducible refine Gr.drew ?_ | with_reducible refine Gr.drewN ?_ _ | with_reducible refine Gr.alloc ?_ _)); first | (with_reducible exact Gr.refl _) | (with_reducible assumption) | exact (by repeat (first | (with_reducible exact Gr.refl _) | (with_reducible assumption) | (with_reducible refine Gr.alloc ?_ _) | (with_reducible refine Gr.drew ?_) | (with_reducible refine Gr.drewN ?_ _) | (with_reducible refine Gr.setCell ?_ (by simp <;> omega) _) | (with_reducible refine Gr.trans ?_ (by with_reducible assumption)) | exact Gr.refl _ | assumption | refine Gr.alloc ?_ _ | refine Gr.drew ?_ | refine Gr.drewN ?_ _ | refine Gr.setCell ?_ (by simp <;> omega) _ | refine Gr.trans ?_ (by assumption))))
    have HG := Lib.hid ((G1.pute (b := w.heap.size) (by omega) b1 a0 a1 a2 u0 u1 u2 S).pute (b := w.heap.size + 1) (by omega) b2 c0 c1 c2 v0 v1 v2 S)
    clear HA0 HB0 HV0 G1
    generalize ((((((((((((((((((w1).setCell ⟨w.heap.size, 0, none⟩ (.bool b1)).setCell ⟨w.heap.size, 1, none⟩ (.int .u64 ((a0 : Nat) : Int))).setCell ⟨w.heap.size, 2, none⟩ (.int .u64 ((a1 : Nat) : Int))).setCell ⟨w.heap.size, 3, none⟩ (.int .u64 ((a2 : Nat) : Int))).setCell ⟨w.heap.size, 4, none⟩ (.int .u64 ((u0 : Nat) : Int))).setCell ⟨w.heap.size, 5, none⟩ (.int .u64 ((u1 : Nat) : Int))).setCell ⟨w.heap.size, 6, none⟩ (.int .u64 ((u2 : Nat) : Int))).setCell ⟨w.heap.size, 7, none⟩ (.int .i64 S))).setCell ⟨(w.heap.size + 1), 0, none⟩ (.bool b2)).setCell ⟨(w.heap.size + 1), 1, none⟩ (.int .u64 ((c0 : Nat) : Int))).setCell ⟨(w.heap.size + 1), 2, none⟩ (.int .u64 ((c1 : Nat) : Int))).setCell ⟨(w.heap.size + 1), 3, none⟩ (.int .u64 ((c2 : Nat) : Int))).setCell ⟨(w.heap.size + 1), 4, none⟩ (.int .u64 ((v0 : Nat) : Int))).setCell ⟨(w.heap.size + 1), 5, none⟩ (.int .u64 ((v1 : Nat) : Int))).setCell ⟨(w.heap.size + 1), 6, none⟩ (.int .u64 ((v2 : Nat) : Int))).setCell ⟨(w.heap.size + 1), 7, none⟩ (.int .i64 S)) = W5 at *
    have hz : w.heap.size + 3 ≤ W5.heap.size := by have := HV.out.lt; omega
    have x0 := HA.out.cell 0 rfl
    have y0 := HB.out.cell 0 rfl
    have t0 := HV.out.cell 0 rfl
    have fx0 := HA.out.frozen 0
    have fy0 := HB.out.frozen 0
    have ft0 := HV.out.frozen 0
    have x1 := HA.out.cell 1 rfl
    have y1 := HB.out.cell 1 rfl
    have t1 := HV.out.cell 1 rfl
    have fx1 := HA.out.frozen 1
    have fy1 := HB.out.frozen 1
    have ft1 := HV.out.frozen 1
    have x2 := HA.out.cell 2 rfl
    have y2 := HB.out.cell 2 rfl
    have t2 := HV.out.cell 2 rfl
    have fx2 := HA.out.frozen 2
    have fy2 := HB.out.frozen 2
    have ft2 := HV.out.frozen 2
    have x3 := HA.out.cell 3 rfl
    have y3 := HB.out.cell 3 rfl
    have t3 := HV.out.cell 3 rfl
    have fx3 := HA.out.frozen 3
    have fy3 := HB.out.frozen 3
    have ft3 := HV.out.frozen 3
    have x4 := HA.out.cell 4 rfl
    have y4 := HB.out.cell 4 rfl
    have t4 := HV.out.cell 4 rfl
    have fx4 := HA.out.frozen 4
    have fy4 := HB.out.frozen 4
    have ft4 := HV.out.frozen 4
    have x5 := HA.out.cell 5 rfl
    have y5 := HB.out.cell 5 rfl
    have t5 := HV.out.cell 5 rfl
    have fx5 := HA.out.frozen 5
    have fy5 := HB.out.frozen 5
    have ft5 := HV.out.frozen 5
    have x6 := HA.out.cell 6 rfl
    have y6 := HB.out.cell 6 rfl
    have t6 := HV.out.cell 6 rfl
    have fx6 := HA.out.frozen 6
    have fy6 := HB.out.frozen 6
    have ft6 := HV.out.frozen 6
    have x7 := HA.out.cell 7 rfl
    have y7 := HB.out.cell 7 rfl
    have t7 := HV.out.cell 7 rfl
    have fx7 := HA.out.frozen 7
    have fy7 := HB.out.frozen 7
    have ft7 := HV.out.frozen 7
    go_wp2_with (first | (go_at_call 43; with_reducible refine (hC _).mono ?_; rintro e w1 ⟨rfl, hb⟩; obtain ⟨hc, hf⟩ := cellsN hb (w.heap.size + 3) (by first | exact hz | omega | (simp; done) | (simp; omega)); have hz : w.heap.size + 3 ≤ w1.heap.size := (by have h := hb.size; (try simp at h); omega); have hz0 : w.heap.size < w1.heap.size := (by omega); have hz1 : w.heap.size + 1 < w1.heap.size := (by omega)) | (go_at_call 44; with_reducible refine (hM _).mono ?_; rintro e w1 ⟨rfl, hb⟩; obtain ⟨hc, hf⟩ := cellsN hb (w.heap.size + 3) (by first | exact hz | omega | (simp; done) | (simp; omega)); have hz : w.heap.size + 3 ≤ w1.heap.size := (by have h := hb.size; (try simp at h); omega); have hz0 : w.heap.size < w1.heap.size := (by omega); have hz1 : w.heap.size + 1 < w1.heap.size := (by omega)))
    refine bodyPost_ret (v := (.agg #[.bool b1, .int .u64 ((z0 : Nat) : Int), .int .u64 ((z1 : Nat) : Int), .int .u64 ((z2 : Nat) : Int), .int .u64 ((u0 : Nat) : Int), .int .u64 ((u1 : Nat) : Int), .int .u64 ((u2 : Nat) : Int), .int .i64 S])) ?_ rfl ⟨rfl, ?_⟩
    · simp [results, Tryd.results18, go_sem, *]
    · have HG2 := HG.out
      exact (by (repeat (first | with_reducible refine Gr.setCell ?_ (by simp <;> omega) _ | with_reducible refine Gr.drew ?_ | with_reducible refine Gr.drewN ?_ _ | with_reducible refine Gr.alloc ?_ _)); first | (with_reducible exact Gr.refl _) | (with_reducible assumption) | exact (by repeat (first | (with_reducible exact Gr.refl _) | (with_reducible assumption) | (with_reducible refine Gr.alloc ?_ _) | (with_reducible refine Gr.drew ?_) | (with_reducible refine Gr.drewN ?_ _) | (with_reducible refine Gr.setCell ?_ (by simp <;> omega) _) | (with_reducible refine Gr.trans ?_ (by with_reducible assumption)) | exact Gr.refl _ | assumption | refine Gr.alloc ?_ _ | refine Gr.drew ?_ | refine Gr.drewN ?_ _ | refine Gr.setCell ?_ (by simp <;> omega) _ | refine Gr.trans ?_ (by assumption))))

end Go.Proofs.YtnaflaokhldfnaaDoor
