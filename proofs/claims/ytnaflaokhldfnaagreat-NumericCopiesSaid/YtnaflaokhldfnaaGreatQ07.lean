/- Texts of the walks, merged. -/
import Derived.Test.YtnaflaokhldfnaaGreatQ06
namespace Go.Proofs.YtnaflaokhldfnaaGreat
set_option linter.unusedSimpArgs false
set_option linter.unusedVariables false
open Go.RowKit

theorem byWord_any (M x : Nat) (hm : Sm M) (h0 : 0 < x) (hx : x < 18446744073709551616) (w : World) :
    Calls Tryz.prog 87 #[(.agg #[.int .u64 ((wd (M) 0 : Nat) : Int), .int .u64 ((wd (M) 1 : Nat) : Int), .int .u64 ((wd (M) 2 : Nat) : Int)]), .int .u64 (x : Int)] w fun e w' => e = .returned (.tuple #[(.agg #[.int .u64 ((wd ((M / x)) 0 : Nat) : Int), .int .u64 ((wd ((M / x)) 1 : Nat) : Int), .int .u64 ((wd ((M / x)) 2 : Nat) : Int)]), (.agg #[.int .u64 ((wd ((M % x)) 0 : Nat) : Int), .int .u64 ((wd ((M % x)) 1 : Nat) : Int), .int .u64 ((wd ((M % x)) 2 : Nat) : Int)])]) ∧ Gr w w' := by
  have e := wd_sum M
  have m0 := wd_lt hm 0
  have m1 := wd_lt hm 1
  have m2 := wd_lt hm 2
  have q := word_div_q (a0 := wd M 0) (a1 := wd M 1) (a2 := wd M 2) (b := 18446744073709551616) h0
  rw [← e] at q
  generalize wd M 0 = a0 at *
  generalize wd M 1 = a1 at *
  generalize wd M 2 = a2 at *
  have d2 := Div64_any 0 a2 x h0 m2 hx
  have d1 := Div64_any (a2 % x) a1 x (Nat.mod_lt _ h0) m1 hx
  have d0 := Div64_any ((a2 % x * 18446744073709551616 + a1) % x) a0 x (Nat.mod_lt _ h0) m0 hx
  rw [show 0 * 18446744073709551616 + a2 = a2 by omega] at d2
  have lt : ∀ r z, r < x → z < 18446744073709551616 → (r * 18446744073709551616 + z) / x < 18446744073709551616 := fun r z hr hz => by
    rw [Nat.div_lt_iff_lt_mul h0]
    have : (r + 1) * 18446744073709551616 ≤ x * 18446744073709551616 := Nat.mul_le_mul_right _ hr
    omega
  have w1 := wd_of q.1 (lt _ _ (Nat.mod_lt _ h0) m0) (lt _ _ (Nat.mod_lt _ h0) m1)
  have rl : ((a2 % x * 18446744073709551616 + a1) % x * 18446744073709551616 + a0) % x < 18446744073709551616 := Nat.lt_trans (Nat.mod_lt _ h0) hx
  have w2 := wd_of (N := M % x) (a0 := ((a2 % x * 18446744073709551616 + a1) % x * 18446744073709551616 + a0) % x) (a1 := 0) (a2 := 0) (by rw [q.2]; omega) rl (by omega)
  rw [w1.1, w1.2.1, w1.2.2, w2.1, w2.2.1, w2.2.2]
  exact byWord_w _ _ _ _ _ _ _ _ _ _ d2 d1 d0 w
end Go.Proofs.YtnaflaokhldfnaaGreat
namespace Go.Proofs.YtnaflaokhldfnaaGreat
set_option linter.unusedSimpArgs false
set_option linter.unusedVariables false
open Go.RowKit

theorem isLen_64 {N L : Nat} (h : IsLen N L) (h0 : 0 < N) : (L ≤ 64 ↔ N < 18446744073709551616) := by
  obtain ⟨h1, h2, h3⟩ := h
  have h2 := h2 (by omega)
  constructor
  · intro hl
    have : 2 ^ L ≤ 2 ^ 64 := Nat.pow_le_pow_right (by omega) hl
    exact Nat.lt_of_lt_of_le h1 this
  · intro hn
    rcases Nat.lt_or_ge 64 L with k | k
    · have : 2 ^ 64 ≤ 2 ^ (L - 1) := Nat.pow_le_pow_right (by omega) (by omega)
      have e : (2 : Nat) ^ 64 = 18446744073709551616 := rfl
      omega
    · exact k

set_option maxHeartbeats 1000000 in
theorem divided_small (M N : Nat) (hm : Sm M) (h0 : 0 < N) (hN : N < 18446744073709551616) (w : World) :
    Calls Tryz.prog 68 #[(.agg #[.int .u64 ((wd (M) 0 : Nat) : Int), .int .u64 ((wd (M) 1 : Nat) : Int), .int .u64 ((wd (M) 2 : Nat) : Int)]), (.agg #[.int .u64 ((wd (N) 0 : Nat) : Int), .int .u64 ((wd (N) 1 : Nat) : Int), .int .u64 ((wd (N) 2 : Nat) : Int)])] w fun e w' => e = .returned (.tuple #[(.agg #[.int .u64 ((wd ((M / N)) 0 : Nat) : Int), .int .u64 ((wd ((M / N)) 1 : Nat) : Int), .int .u64 ((wd ((M / N)) 2 : Nat) : Int)]), (.agg #[.int .u64 ((wd ((M % N)) 0 : Nat) : Int), .int .u64 ((wd ((M % N)) 1 : Nat) : Int), .int .u64 ((wd ((M % N)) 2 : Nat) : Int)])]) ∧ Gr w w' := by
  have hn : Sm N := by unfold Sm; omega
  have hL := length_any N hn
  have hD := byWord_any M N hm h0 hN
  have e0 : N = wd N 0 := by have := (wd_of (N := N) (a0 := N) (a1 := 0) (a2 := 0) (by omega) hN (by omega)).1; omega
  have K : ∀ L : Nat, IsLen N L → (L : Int) ≤ 64 := fun L h => by have := (isLen_64 h h0).2 hN; omega
  have hK := Lib.hid K
  have hD' : ∀ w, Calls Tryz.prog 87 #[(.agg #[.int .u64 ((wd (M) 0 : Nat) : Int), .int .u64 ((wd (M) 1 : Nat) : Int), .int .u64 ((wd (M) 2 : Nat) : Int)]), .int .u64 ((wd N 0 : Nat) : Int)] w fun e w' => e = .returned (.tuple #[(.agg #[.int .u64 ((wd ((M / N)) 0 : Nat) : Int), .int .u64 ((wd ((M / N)) 1 : Nat) : Int), .int .u64 ((wd ((M / N)) 2 : Nat) : Int)]), (.agg #[.int .u64 ((wd ((M % N)) 0 : Nat) : Int), .int .u64 ((wd ((M % N)) 1 : Nat) : Int), .int .u64 ((wd ((M % N)) 2 : Nat) : Int)])]) ∧ Gr w w' := by rw [← e0]; exact hD
  clear K e0 hD hn h0 hm
  generalize wd (M / N) 0 = q0 at *
  generalize wd (M / N) 1 = q1 at *
  generalize wd (M / N) 2 = q2 at *
  generalize wd (M % N) 0 = r0 at *
  generalize wd (M % N) 1 = r1 at *
  generalize wd (M % N) 2 = r2 at *
  go_enter Tryz.func68, Tryz.ntmps68
  go_wp2_with (first | (go_at_call 86; refine (hL _).mono ?_; rintro e w1 ⟨⟨L, rfl, hl⟩, hb⟩; have hl64 := hK.out L hl; clear hl; obtain ⟨hc, hf⟩ := cellsN hb (w.heap.size + 4) (by simp); have hz : w.heap.size + 4 ≤ w1.heap.size := (by have h := hb.size; simp at h; omega)) | (go_at_call 87; refine (hD' _).mono ?_; rintro e w1 ⟨rfl, hb⟩; obtain ⟨hc, hf⟩ := cellsN hb (w.heap.size + 4) (by first | omega | ((try simp) <;> omega)); have hz : w.heap.size + 4 ≤ w1.heap.size := (by have h := hb.size; (try simp at h); omega)))
  refine bodyPost_ret (v := .tuple #[.agg #[.int .u64 (q0 : Int), .int .u64 (q1 : Int), .int .u64 (q2 : Int)], .agg #[.int .u64 (r0 : Int), .int .u64 (r1 : Int), .int .u64 (r2 : Int)]]) ?_ rfl ⟨rfl, (by (repeat (first | with_reducible refine Gr.setCell ?_ (by simp <;> omega) _ | with_reducible refine Gr.drew ?_ | with_reducible refine Gr.drewN ?_ _ | with_reducible refine Gr.alloc ?_ _)); first | (with_reducible exact Gr.refl _) | (with_reducible assumption) | exact (by repeat (first | (with_reducible exact Gr.refl _) | (with_reducible assumption) | (with_reducible refine Gr.alloc ?_ _) | (with_reducible refine Gr.drew ?_) | (with_reducible refine Gr.drewN ?_ _) | (with_reducible refine Gr.setCell ?_ (by simp <;> omega) _) | (with_reducible refine Gr.trans ?_ (by with_reducible assumption)) | exact Gr.refl _ | assumption | refine Gr.alloc ?_ _ | refine Gr.drew ?_ | refine Gr.drewN ?_ _ | refine Gr.setCell ?_ (by simp <;> omega) _ | refine Gr.trans ?_ (by assumption))))⟩
  simp [results, Tryz.results68, go_sem, *]

set_option maxHeartbeats 200000 in
set_option maxRecDepth 100000 in
theorem exactOf_any (n s : Int) (h : -1000000000000000000 ≤ n) (h' : n ≤ 1000000000000000000) (w : World) :
    Calls Tryz.prog 34 #[.agg #[.int .i64 n, .int .i64 s]] w fun e w' => e = .returned (.agg #[.bool (decide (n < 0)), .int .u64 ((wd (n.natAbs) 0 : Nat) : Int), .int .u64 ((wd (n.natAbs) 1 : Nat) : Int), .int .u64 ((wd (n.natAbs) 2 : Nat) : Int), .int .u64 ((wd (1) 0 : Nat) : Int), .int .u64 ((wd (1) 1 : Nat) : Int), .int .u64 ((wd (1) 2 : Nat) : Int), .int .i64 (s)]) ∧ Gr w w' := by
  have h1 : ∀ w, Calls Tryz.prog 66 #[.int .i64 1] w fun e w' => e = .returned (.agg #[.int .u64 ((wd (1) 0 : Nat) : Int), .int .u64 ((wd (1) 1 : Nat) : Int), .int .u64 ((wd (1) 2 : Nat) : Int)]) ∧ Gr w w' := fun w => amountOf_any 1 (by omega) (by omega) w
  have hn := amountOf_any n h h'
  have H0 := Lib.hid h
  clear h h'
  generalize wd n.natAbs 0 = a0 at *
  generalize wd n.natAbs 1 = a1 at *
  generalize wd n.natAbs 2 = a2 at *
  generalize wd 1 0 = b0 at *
  generalize wd 1 1 = b1 at *
  generalize wd 1 2 = b2 at *
  go_enter Tryz.func34, Tryz.ntmps34
  go_wp2
  go_region_held3 (fun w' => w'.cell? ⟨w.heap.size, 0, none⟩ = some (.int .i64 n) ∧ w'.cell? ⟨w.heap.size, 1, none⟩ = some (.int .i64 s)) (first | (go_keep; done) | ((try go_split_ands); (repeat' apply And.intro) <;> ((try simp only [World.cell?_drew]); first | (with_reducible assumption) | (refine hb.keep ?_; (try simp only [World.cell?_drew]); first | (with_reducible assumption) | (simp [*, go_sem]; done)) | (simp [*, go_sem]; done)))) (first | (go_at_call 66; with_reducible refine (hn _).mono ?_; rintro e w1 ⟨rfl, hb⟩; obtain ⟨hc, hf⟩ := cellsN hb (w.heap.size + 2) (by first | exact hz | omega | (simp; done) | (simp; omega)); have hz : w.heap.size + 2 ≤ w1.heap.size := (by have h := hb.size; (try simp at h); omega); have hz0 : w.heap.size < w1.heap.size := (by omega); have hz1 : w.heap.size + 1 < w1.heap.size := (by omega)) | (go_at_call 66; with_reducible refine (h1 _).mono ?_; rintro e w1 ⟨rfl, hb⟩; obtain ⟨hc, hf⟩ := cellsN hb (w.heap.size + 2) (by first | exact hz | omega | (simp; done) | (simp; omega)); have hz : w.heap.size + 2 ≤ w1.heap.size := (by have h := hb.size; (try simp at h); omega); have hz0 : w.heap.size < w1.heap.size := (by omega); have hz1 : w.heap.size + 1 < w1.heap.size := (by omega)))
  all_goals
    go_wp2
    refine bodyPost_ret (v := .agg #[.bool (decide (n < 0)), .int .u64 (a0 : Int), .int .u64 (a1 : Int), .int .u64 (a2 : Int), .int .u64 (b0 : Int), .int .u64 (b1 : Int), .int .u64 (b2 : Int), .int .i64 s]) ?_ rfl ⟨rfl, (by (repeat (first | with_reducible refine Gr.setCell ?_ (by simp <;> omega) _ | with_reducible refine Gr.drew ?_ | with_reducible refine Gr.drewN ?_ _ | with_reducible refine Gr.alloc ?_ _)); first | (with_reducible exact Gr.refl _) | (with_reducible assumption) | exact (by repeat (first | (with_reducible exact Gr.refl _) | (with_reducible assumption) | (with_reducible refine Gr.alloc ?_ _) | (with_reducible refine Gr.drew ?_) | (with_reducible refine Gr.drewN ?_ _) | (with_reducible refine Gr.setCell ?_ (by simp <;> omega) _) | (with_reducible refine Gr.trans ?_ (by with_reducible assumption)) | exact Gr.refl _ | assumption | refine Gr.alloc ?_ _ | refine Gr.drew ?_ | refine Gr.drewN ?_ _ | refine Gr.setCell ?_ (by simp <;> omega) _ | refine Gr.trans ?_ (by assumption))))⟩
    simp [results, Tryz.results34, go_sem, *]
end Go.Proofs.YtnaflaokhldfnaaGreat
