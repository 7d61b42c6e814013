/- Texts of the walks, merged. -/
import Derived.Test.YtnaflaokhldfnaaQ07
namespace Go.Proofs.Ytnaflaokhldfnaa
set_option linter.unusedSimpArgs false
set_option linter.unusedVariables false
open Go.RowKit

theorem bit_low {x s : Nat} (hs : s < 64) : x % 18446744073709551616 / 2 ^ s % 2 = x / 2 ^ s % 2 := by
  have h := Nat.testBit_mod_two_pow x 64 s
  rw [Nat.testBit_eq_decide_div_mod_eq, Nat.testBit_eq_decide_div_mod_eq, show (2 : Nat) ^ 64 = 18446744073709551616 from rfl] at h
  simp only [hs, decide_true, Bool.true_and] at h
  have a := Nat.mod_lt (x % 18446744073709551616 / 2 ^ s) (show 0 < 2 by omega)
  have b := Nat.mod_lt (x / 2 ^ s) (show 0 < 2 by omega)
  have h2 := decide_eq_decide.1 h
  omega
theorem wd_bit {M s : Nat} (hs : s < 64) : wd M 0 / 2 ^ s % 2 = M / 2 ^ s % 2 ∧ wd M 1 / 2 ^ s % 2 = M / 2 ^ (64 + s) % 2 ∧ wd M 2 / 2 ^ s % 2 = M / 2 ^ (128 + s) % 2 := by
  have e1 : (2 : Nat) ^ (64 + s) = 18446744073709551616 * 2 ^ s := by rw [Nat.pow_add]
  have e2 : (2 : Nat) ^ (128 + s) = 18446744073709551616 * (18446744073709551616 * 2 ^ s) := by rw [Nat.pow_add]; rw [show (2 : Nat) ^ 128 = 18446744073709551616 * 18446744073709551616 from rfl, Nat.mul_assoc]
  refine ⟨bit_low hs, ?_, ?_⟩
  · rw [e1, ← Nat.div_div_eq_div_mul]; exact bit_low hs
  · rw [e2, ← Nat.div_div_eq_div_mul, ← Nat.div_div_eq_div_mul]; rfl
theorem top_bit (M p : Nat) : M / 2 ^ p = 2 * (M / 2 ^ (p + 1)) + M / 2 ^ p % 2 := by
  rw [Nat.pow_succ, ← Nat.div_div_eq_div_mul]; omega

/-- Block b holds three words, which may be written. -/
def A3 (w : World) (b : Nat) (x0 x1 x2 : Nat) : Prop :=
  w.cell? ⟨b, 0, none⟩ = some (.int .u64 (x0 : Int)) ∧ w.cell? ⟨b, 1, none⟩ = some (.int .u64 (x1 : Int)) ∧ w.cell? ⟨b, 2, none⟩ = some (.int .u64 (x2 : Int)) ∧
  w.frozen? ⟨b, 0, none⟩ = false ∧ w.frozen? ⟨b, 1, none⟩ = false ∧ w.frozen? ⟨b, 2, none⟩ = false
theorem A3.gr {a w : World} {b x0 x1 x2} (h : A3 a b x0 x1 x2) (g : Gr a w) : A3 w b x0 x1 x2 := by
  have hl := World.block_lt_of_cell? a _ h.1
  exact ⟨g.keep h.1, g.keep h.2.1, g.keep h.2.2.1, (g.cells.2 _ _ hl).trans h.2.2.2.1, (g.cells.2 _ _ hl).trans h.2.2.2.2.1, (g.cells.2 _ _ hl).trans h.2.2.2.2.2⟩
theorem A3.far {w : World} {b c o x0 x1 x2} (h : A3 w b x0 x1 x2) (v : Value) (hne : c ≠ b) : A3 (w.setCell ⟨c, o, none⟩ v) b x0 x1 x2 := by
  obtain ⟨h0, h1, h2, h3, h4, h5⟩ := h
  have hne' : ¬ c = b := hne
  refine ⟨?_, ?_, ?_, ?_, ?_, ?_⟩ <;> simp [go_sem, hne', *]
theorem A3.put {w : World} {b x0 x1 x2} (h : A3 w b x0 x1 x2) (y0 y1 y2 : Nat) : A3 (((w.setCell ⟨b, 0, none⟩ (.int .u64 (y0 : Int))).setCell ⟨b, 1, none⟩ (.int .u64 (y1 : Int))).setCell ⟨b, 2, none⟩ (.int .u64 (y2 : Int))) b y0 y1 y2 := by
  obtain ⟨h0, h1, h2, h3, h4, h5⟩ := h
  refine ⟨?_, ?_, ?_, ?_, ?_, ?_⟩ <;> simp [go_sem, *]
theorem A3.put0 {w : World} {b x0 x1 x2} (h : A3 w b x0 x1 x2) (y0 : Nat) : A3 (w.setCell ⟨b, 0, none⟩ (.int .u64 (y0 : Int))) b y0 x1 x2 := by
  obtain ⟨h0, h1, h2, h3, h4, h5⟩ := h
  refine ⟨?_, ?_, ?_, ?_, ?_, ?_⟩ <;> simp [go_sem, *]

theorem A3.drew {w : World} {b x0 x1 x2} (h : A3 w b x0 x1 x2) : A3 w.drew b x0 x1 x2 := h
/-- The state of the division: T is what the bits so far make. -/
def DvB (w : World) (M N T : Nat) (wr : World) : Prop :=
  A3 wr w.heap.size (wd M 0) (wd M 1) (wd M 2) ∧ A3 wr (w.heap.size + 1) (wd N 0) (wd N 1) (wd N 2) ∧
  A3 wr (w.heap.size + 2) (wd (T / N) 0) (wd (T / N) 1) (wd (T / N) 2) ∧ A3 wr (w.heap.size + 3) (wd (T % N) 0) (wd (T % N) 1) (wd (T % N) 2) ∧ Gr w wr

theorem low_bit {X t B h : Nat} (hB : B = 2 * h) (hh : 0 < h) (hX : X % 2 = 0) (ht : t < 2) : (X + t) % B = X % B + t ∧ (X + t) / B = X / B := by
  have h1 := Nat.div_add_mod X B
  have h2 := Nat.mod_lt X (show 0 < B by omega)
  generalize X / B = q at *
  generalize X % B = r at *
  have hr : r % 2 = 0 := by
    have : (B * q) % 2 = 0 := by rw [hB, Nat.mul_assoc]; exact Nat.mul_mod_right 2 _
    omega
  have e : X + t = (r + t) + B * q := by omega
  have hlt : r + t < B := by omega
  rw [e, Nat.add_mul_mod_self_left, Nat.add_mul_div_left _ _ (by omega), Nat.mod_eq_of_lt hlt, Nat.div_eq_of_lt hlt]
  exact ⟨rfl, by omega⟩
theorem wd_lowbit {X t : Nat} (hX : X % 2 = 0) (ht : t < 2) : wd (X + t) 0 = wd X 0 + t ∧ wd (X + t) 1 = wd X 1 ∧ wd (X + t) 2 = wd X 2 := by
  obtain ⟨h1, h2⟩ := low_bit (X := X) (t := t) (B := 18446744073709551616) (h := 9223372036854775808) rfl (by omega) hX ht
  refine ⟨h1, ?_, ?_⟩
  · show (X + t) / 18446744073709551616 % _ = _; rw [h2]; rfl
  · show (X + t) / 18446744073709551616 / _ = _; rw [h2]; rfl
theorem or_bit {x t : Nat} (hx : x % 2 = 0) (hx1 : x < 18446744073709551616) (ht : t < 2) : bits .or .u64 (x : Int) (t : Int) = ((x + t : Nat) : Int) := by
  have := bits_join .u64 64 (by decide) (fun n h0 h1 => by rw [IntKind.wrap_u64]; omega) 1 (x : Int) (t : Int) (by omega) (by omega) (by omega) (by omega) (by omega) (by omega)
  rw [this]; push_cast; rfl
theorem and_bit {x : Int} (h0 : 0 ≤ x) (h1 : x < 18446744073709551616) : bits .and .u64 x 1 = x % 2 := by
  have := bits_mask .u64 64 (by decide) (fun n h0 h1 => by rw [IntKind.wrap_u64]; omega) 1 (by omega) x h0 (by omega)
  simpa using this
theorem and_wd {m s t : Nat} (hm : m < 18446744073709551616) (h : m / 2 ^ s % 2 = t) : bits .and .u64 ((m : Int) / 2 ^ s) 1 = (t : Int) := by
  have e : ((m : Int) / 2 ^ s) = ((m / 2 ^ s : Nat) : Int) := by push_cast; rfl
  have hl : m / 2 ^ s ≤ m := Nat.div_le_self _ _
  rw [e]
  generalize m / 2 ^ s = q at *
  rw [and_bit (by omega) (by omega), ← h]; push_cast; rfl
theorem even_low (X : Nat) : wd (X + X) 0 % 2 = 0 := by
  show (X + X) % 18446744073709551616 % 2 = 0; omega
theorem sm_two {R N : Nat} (h : R < N) (hN : N < 2 ^ 190) : Sm (R + R) := by
  unfold Sm
  have e : (2 : Nat) ^ 190 = 1569275433846670190958947355801916604025588861116008628224 := by decide
  omega

set_option maxHeartbeats 2000000 in
set_option maxRecDepth 100000 in
theorem divided_large (M N : Nat) (hm : Sm M) (h64 : 18446744073709551616 ≤ N) (hN : N < 2 ^ 190) (w : World) :
    Calls Try.prog 60 #[(.agg #[.int .u64 ((wd (M) 0 : Nat) : Int), .int .u64 ((wd (M) 1 : Nat) : Int), .int .u64 ((wd (M) 2 : Nat) : Int)]), (.agg #[.int .u64 ((wd (N) 0 : Nat) : Int), .int .u64 ((wd (N) 1 : Nat) : Int), .int .u64 ((wd (N) 2 : Nat) : Int)])] w fun e w' => e = .returned (.tuple #[(.agg #[.int .u64 ((wd ((M / N)) 0 : Nat) : Int), .int .u64 ((wd ((M / N)) 1 : Nat) : Int), .int .u64 ((wd ((M / N)) 2 : Nat) : Int)]), (.agg #[.int .u64 ((wd ((M % N)) 0 : Nat) : Int), .int .u64 ((wd ((M % N)) 1 : Nat) : Int), .int .u64 ((wd ((M % N)) 2 : Nat) : Int)])]) ∧ Gr w w' := by
  have hn : Sm N := by
    unfold Sm
    have e : (2 : Nat) ^ 190 = 1569275433846670190958947355801916604025588861116008628224 := by decide
    omega
  have hLM := length_any M hm
  have hLN := length_any N hn
  have HL := Lib.hid (fun L (h : IsLen N L) => (not_congr (isLen_64 h (by omega))).2 (show ¬ N < 18446744073709551616 by omega))
  have HM := Lib.hid hm
  have HN := Lib.hid hn
  have H64 := Lib.hid h64
  have HB := Lib.hid hN
  clear hm hn h64 hN
  go_enter Try.func60, Try.ntmps60
  go_wp2_with (first | (go_at_call 95; (with_reducible refine (hLN _).mono ?_); rintro e w1 ⟨⟨L, rfl, hl⟩, hb⟩; have hl64 := HL.out L hl; have hl65 : (64 : Int) < L := (by omega); clear hl; obtain ⟨hc, hf⟩ := cellsN hb (w.heap.size + 4) (by simp); have hz : w.heap.size + 4 ≤ w1.heap.size := (by have h := hb.size; simp at h; omega); have hb1 := Lib.hid hb) | (go_at_call 95; (with_reducible refine (hLM _).mono ?_); rintro e w2 ⟨⟨K, rfl, hK⟩, hb⟩; have hb2 := Lib.hid hb; have HK := Lib.hid hK; clear hK))
  have hg := Lib.hid (hb1.out.trans hb2.out)
  clear hb hb1 hb2 hc hf
  have z0 : A3 w2 w.heap.size (wd M 0) (wd M 1) (wd M 2) := A3.gr (by refine ⟨?_, ?_, ?_, ?_, ?_, ?_⟩ <;> simp [go_sem]) hg.out
  have z1 : A3 w2 (w.heap.size + 1) (wd N 0) (wd N 1) (wd N 2) := A3.gr (by refine ⟨?_, ?_, ?_, ?_, ?_, ?_⟩ <;> simp [go_sem]) hg.out
  have z2 : A3 w2 (w.heap.size + 2) 0 0 0 := A3.gr (by refine ⟨?_, ?_, ?_, ?_, ?_, ?_⟩ <;> simp [go_sem]) hg.out
  have z3 : A3 w2 (w.heap.size + 3) 0 0 0 := A3.gr (by refine ⟨?_, ?_, ?_, ?_, ?_, ?_⟩ <;> simp [go_sem]) hg.out
  have zG : Gr w w2 := Gr.trans (by repeat (first | (with_reducible exact Gr.refl _) | (with_reducible assumption) | (with_reducible refine Gr.alloc ?_ _) | (with_reducible refine Gr.drew ?_) | (with_reducible refine Gr.drewN ?_ _) | (with_reducible refine Gr.setCell ?_ (by simp <;> omega) _) | (with_reducible refine Gr.trans ?_ (by with_reducible assumption)) | exact Gr.refl _ | assumption | refine Gr.alloc ?_ _ | refine Gr.drew ?_ | refine Gr.drewN ?_ _ | refine Gr.setCell ?_ (by simp <;> omega) _ | refine Gr.trans ?_ (by assumption))) hg.out
  have HZ := Lib.hid (show DvB w M N (M / 2 ^ K) w2 by
    have e0 : M / 2 ^ K = 0 := Nat.div_eq_of_lt HK.out.1
    unfold DvB
    rw [e0, Nat.zero_div, Nat.zero_mod]
    exact ⟨z0, z1, z2, z3, zG⟩)
  have hK192 := HK.out.2.2
  clear z0 z1 z2 z3 zG hg hl64 hl65 hz
  go_loopw [21] (fun j wr => ∃ k : Nat, k ≤ K ∧ j = .int .i64 k ∧ Hid (DvB w M N (M / 2 ^ (K - k)) wr)) (fun j _ => K + 1 - (intOf j).toNat)
  case atStart => exact ⟨0, Nat.zero_le _, rfl, HZ.out⟩
  case round =>
    obtain ⟨k, hk, rfl, hD⟩ := hrel
    by_cases hlt : k < K
    · obtain ⟨p, hp⟩ : ∃ p : Nat, K = k + p + 1 := ⟨K - k - 1, by omega⟩
      have hT : M / 2 ^ (K - k) = M / 2 ^ (p + 1) := by rw [show K - k = p + 1 by omega]
      have hT2 : M / 2 ^ (K - (k + 1)) = M / 2 ^ p := by rw [show K - (k + 1) = p by omega]
      have hpi : (K : Int) - 1 - k = p := by omega
      have htop := top_bit M p
      obtain ⟨T, eT⟩ : ∃ T, M / 2 ^ (p + 1) = T := ⟨_, rfl⟩
      obtain ⟨t, et⟩ : ∃ t, M / 2 ^ p % 2 = t := ⟨_, rfl⟩
      have ht2 : t < 2 := by omega
      rw [eT, et] at htop
      rw [hT, eT] at hD
      have HT2 := Lib.hid (hT2.trans htop)
      have Hbit := Lib.hid et
      have HPK := Lib.hid hp
      clear hT hT2 htop eT et hp
      obtain ⟨z0, z1, z2, z3, zG⟩ := hD.out
      have hRN : T % N < N := Nat.mod_lt _ (by have := H64.out; omega)
      have hP1 := plus_any (T % N) (T % N) (sm_two hRN HB.out)
      have hev := even_low (T % N)
      have hdl := wd_lt (sm_two hRN HB.out) 0
      obtain ⟨g0, eg0⟩ : ∃ g0, wd (T % N + T % N) 0 + t = g0 := ⟨_, rfl⟩
      have hor := or_bit hev hdl ht2
      rw [eg0] at hor
      have Hg0 := Lib.hid eg0
      have p192 : p < 192 := by have := HPK.out; omega
      clear eg0 hev hdl hRN hD
      obtain ⟨r30, r31, r32, _, _, _⟩ := id z3
      have HSQ := Lib.hid (show Sm (T / N + T / N) by
        have h1 : T / N + T / N ≤ M := by
          have h2 : T / N ≤ T := Nat.div_le_self _ _
          have h3 : 2 * T ≤ M := by
            have h4 : 2 * T + t ≤ M := by rw [← HT2.out]; exact Nat.div_le_self _ _
            omega
          omega
        exact sm_le HM.out h1)
      have hP2 := plus_any (T / N) (T / N) HSQ.out
      have hSR := Lib.hid (show Sm (T % N + T % N + t) by
        have hr : T % N < N := Nat.mod_lt _ (by have := H64.out; omega)
        have hb9 := HB.out
        have e9 : (2 : Nat) ^ 190 = 1569275433846670190958947355801916604025588861116008628224 := by decide
        unfold Sm; omega)
      rcases (by omega : p < 64 ∨ (64 ≤ p ∧ p < 128) ∨ 128 ≤ p) with hp1 | hp1 | hp1
      · obtain ⟨s, es⟩ : ∃ s : Nat, p = 0 + s := ⟨p - 0, by omega⟩
        have hs64 : s < 64 := by omega
        have pj : (p : Int).tdiv 64 = 0 := by rw [Int.tdiv_eq_ediv_of_nonneg (by omega)]; omega
        have ps : (p : Int).tmod 64 = s := by rw [Int.tmod_eq_emod_of_nonneg (by omega)]; omega
        have pw0 : IntKind.i64.wrap (s : Int) = s := IntWalk.i64_in _ (by omega)
        have pz : IntKind.i64.wrap 0 = 0 := rfl
        have hand : bits .and .u64 ((wd M 0 : Int) / 2 ^ s) 1 = (t : Int) := and_wd (wd_lt HM.out 0) (((wd_bit hs64).1).trans (by rw [← Hbit.out, es]; congr 2; rw [Nat.zero_add]))
        have HES := Lib.hid es
        clear es
        go_wp2_with (first | (go_at_call 61; (with_reducible refine (hP1 _).mono ?_); rintro e w3 ⟨rfl, hb⟩; have y0 := Lib.hid (z0.gr hb); have y1 := Lib.hid (z1.gr hb); have y2 := Lib.hid (z2.gr hb); have y3 := Lib.hid (z3.gr hb); have yG := Lib.hid (zG.trans hb); obtain ⟨a00, a01, a02, _, _, _⟩ := y0.out; obtain ⟨b00, b01, b02, b03, b04, b05⟩ := y3.out))
        have v0 : A3 (((w3.setCell ⟨w.heap.size + 1 + 1 + 1, 0, none⟩ (.int .u64 (wd (T % N + T % N) 0 : Int))).setCell ⟨w.heap.size + 1 + 1 + 1, 1, none⟩ (.int .u64 (wd (T % N + T % N) 1 : Int))).setCell ⟨w.heap.size + 1 + 1 + 1, 2, none⟩ (.int .u64 (wd (T % N + T % N) 2 : Int))) w.heap.size (wd M 0) (wd M 1) (wd M 2) := by
          with_reducible refine A3.far ?_ _ (by omega); with_reducible refine A3.far ?_ _ (by omega); with_reducible refine A3.far ?_ _ (by omega); exact y0.out
        have v1 : A3 (((w3.setCell ⟨w.heap.size + 1 + 1 + 1, 0, none⟩ (.int .u64 (wd (T % N + T % N) 0 : Int))).setCell ⟨w.heap.size + 1 + 1 + 1, 1, none⟩ (.int .u64 (wd (T % N + T % N) 1 : Int))).setCell ⟨w.heap.size + 1 + 1 + 1, 2, none⟩ (.int .u64 (wd (T % N + T % N) 2 : Int))) (w.heap.size + 1) (wd N 0) (wd N 1) (wd N 2) := by
          with_reducible refine A3.far ?_ _ (by omega); with_reducible refine A3.far ?_ _ (by omega); with_reducible refine A3.far ?_ _ (by omega); exact y1.out
        have v2 : A3 (((w3.setCell ⟨w.heap.size + 1 + 1 + 1, 0, none⟩ (.int .u64 (wd (T % N + T % N) 0 : Int))).setCell ⟨w.heap.size + 1 + 1 + 1, 1, none⟩ (.int .u64 (wd (T % N + T % N) 1 : Int))).setCell ⟨w.heap.size + 1 + 1 + 1, 2, none⟩ (.int .u64 (wd (T % N + T % N) 2 : Int))) (w.heap.size + 1 + 1) (wd (T / N) 0) (wd (T / N) 1) (wd (T / N) 2) := by
          with_reducible refine A3.far ?_ _ (by omega); with_reducible refine A3.far ?_ _ (by omega); with_reducible refine A3.far ?_ _ (by omega); exact y2.out
        have v3 : A3 (((w3.setCell ⟨w.heap.size + 1 + 1 + 1, 0, none⟩ (.int .u64 (wd (T % N + T % N) 0 : Int))).setCell ⟨w.heap.size + 1 + 1 + 1, 1, none⟩ (.int .u64 (wd (T % N + T % N) 1 : Int))).setCell ⟨w.heap.size + 1 + 1 + 1, 2, none⟩ (.int .u64 (wd (T % N + T % N) 2 : Int))) (w.heap.size + 1 + 1 + 1) (wd (T % N + T % N) 0) (wd (T % N + T % N) 1) (wd (T % N + T % N) 2) := A3.put y3.out _ _ _
        have vG : Gr w (((w3.setCell ⟨w.heap.size + 1 + 1 + 1, 0, none⟩ (.int .u64 (wd (T % N + T % N) 0 : Int))).setCell ⟨w.heap.size + 1 + 1 + 1, 1, none⟩ (.int .u64 (wd (T % N + T % N) 1 : Int))).setCell ⟨w.heap.size + 1 + 1 + 1, 2, none⟩ (.int .u64 (wd (T % N + T % N) 2 : Int))) := by
          (repeat (with_reducible refine Gr.setCell ?_ (by simp <;> omega) _))
          exact yG.out
        generalize ((w3.setCell ⟨w.heap.size + 1 + 1 + 1, 0, none⟩ (.int .u64 (wd (T % N + T % N) 0 : Int))).setCell ⟨w.heap.size + 1 + 1 + 1, 1, none⟩ (.int .u64 (wd (T % N + T % N) 1 : Int))).setCell ⟨w.heap.size + 1 + 1 + 1, 2, none⟩ (.int .u64 (wd (T % N + T % N) 2 : Int)) = W at v0 v1 v2 v3 vG ⊢
        clear z0 z1 z2 z3 zG y0 y1 y2 y3 yG b00 b01 b02 b03 b04 b05 r30 r31 r32 hb
        obtain ⟨x00, x01, x02, _, _, _⟩ := id v0
        obtain ⟨x30, x31, x32, x33, x34, x35⟩ := id v3
        go_region
        have u0 : A3 ((W.setCell ⟨w.heap.size + 1 + 1 + 1, 0, none⟩ (.int .u64 (g0 : Int))).drew) w.heap.size (wd M 0) (wd M 1) (wd M 2) := A3.drew (v0.far _ (by omega))
        have u1 : A3 ((W.setCell ⟨w.heap.size + 1 + 1 + 1, 0, none⟩ (.int .u64 (g0 : Int))).drew) (w.heap.size + 1) (wd N 0) (wd N 1) (wd N 2) := A3.drew (v1.far _ (by omega))
        have u2 : A3 ((W.setCell ⟨w.heap.size + 1 + 1 + 1, 0, none⟩ (.int .u64 (g0 : Int))).drew) (w.heap.size + 1 + 1) (wd (T / N) 0) (wd (T / N) 1) (wd (T / N) 2) := A3.drew (v2.far _ (by omega))
        have u3 : A3 ((W.setCell ⟨w.heap.size + 1 + 1 + 1, 0, none⟩ (.int .u64 (g0 : Int))).drew) (w.heap.size + 1 + 1 + 1) g0 (wd (T % N + T % N) 1) (wd (T % N + T % N) 2) := A3.drew (v3.put0 g0)
        have uG : Gr w ((W.setCell ⟨w.heap.size + 1 + 1 + 1, 0, none⟩ (.int .u64 (g0 : Int))).drew) := Gr.drew (Gr.setCell vG (by simp <;> omega) _)
        generalize (W.setCell ⟨w.heap.size + 1 + 1 + 1, 0, none⟩ (.int .u64 (g0 : Int))).drew = W2 at u0 u1 u2 u3 uG ⊢
        have hwl := wd_lowbit (X := T % N + T % N) (t := t) (by omega) ht2
        rw [← Hg0.out, ← hwl.1, ← hwl.2.1, ← hwl.2.2] at u3
        have u0 := Lib.hid u0
        have u1 := Lib.hid u1
        have u2 := Lib.hid u2
        have u3 := Lib.hid u3
        have uG := Lib.hid uG
        obtain ⟨x20, x21, x22, _, _, _⟩ := u2.out
        clear v0 v1 v2 v3 vG x00 x01 x02 x30 x31 x32 x33 x34 x35 hwl hor hand
        by_cases hge : N ≤ T % N + T % N + t
        · have hcmp : 0 ≤ cmpI (T % N + T % N + t : Nat) N := by unfold cmpI; split <;> (try split) <;> omega
          have hC := compare_any (T % N + T % N + t) N hSR.out HN.out
          obtain ⟨cv, ecv⟩ : ∃ cv, cmpI (T % N + T % N + t : Nat) N = cv := ⟨_, rfl⟩
          rw [ecv] at hC hcmp
          have hM2 := minus_any (T % N + T % N + t) N hSR.out hge
          have HGE := Lib.hid hge
          clear ecv hge
          go_wp2_with (first | (go_at_call 61; (with_reducible refine (hP2 _).mono ?_); rintro e w4 ⟨rfl, hb⟩; have y0 := Lib.hid (u0.out.gr hb); have y1 := Lib.hid (u1.out.gr hb); have y2 := Lib.hid (u2.out.gr hb); have y3 := Lib.hid (u3.out.gr hb); have yG := Lib.hid (uG.out.trans hb); obtain ⟨c20, c21, c22, c23, c24, c25⟩ := y2.out; obtain ⟨c30, c31, c32, _, _, _⟩ := y3.out; obtain ⟨c10, c11, c12, _, _, _⟩ := y1.out) | (go_at_call 62; (with_reducible refine (hC _).mono ?_); rintro e w5 ⟨rfl, hb⟩; have s0 := Lib.hid (A3.gr (b := w.heap.size) (x0 := wd M 0) (x1 := wd M 1) (x2 := wd M 2) (by (with_reducible refine A3.far ?_ _ (by omega)); (with_reducible refine A3.far ?_ _ (by omega)); (with_reducible refine A3.far ?_ _ (by omega)); exact y0.out) hb); have s1 := Lib.hid (A3.gr (b := w.heap.size + 1) (x0 := wd N 0) (x1 := wd N 1) (x2 := wd N 2) (by (with_reducible refine A3.far ?_ _ (by omega)); (with_reducible refine A3.far ?_ _ (by omega)); (with_reducible refine A3.far ?_ _ (by omega)); exact y1.out) hb); have s2 := Lib.hid (A3.gr (A3.put y2.out (wd (T / N + T / N) 0) (wd (T / N + T / N) 1) (wd (T / N + T / N) 2)) hb); have s3 := Lib.hid (A3.gr (b := w.heap.size + 1 + 1 + 1) (x0 := wd (T % N + T % N + t) 0) (x1 := wd (T % N + T % N + t) 1) (x2 := wd (T % N + T % N + t) 2) (by (with_reducible refine A3.far ?_ _ (by omega)); (with_reducible refine A3.far ?_ _ (by omega)); (with_reducible refine A3.far ?_ _ (by omega)); exact y3.out) hb); have sG := Lib.hid (Gr.trans (a := w) (by (repeat (with_reducible refine Gr.setCell ?_ (by simp <;> omega) _)); exact yG.out) hb); obtain ⟨k30, k31, k32, _, _, _⟩ := s3.out; obtain ⟨k10, k11, k12, _, _, _⟩ := s1.out) | (go_at_call 93; (with_reducible refine (hM2 _).mono ?_); rintro e w6 ⟨rfl, hb⟩; have n0 := Lib.hid (s0.out.gr hb); have n1 := Lib.hid (s1.out.gr hb); have n2 := Lib.hid (s2.out.gr hb); have n3 := Lib.hid (s3.out.gr hb); have nG := Lib.hid (sG.out.trans hb); obtain ⟨l30, l31, l32, l33, l34, l35⟩ := n3.out; obtain ⟨l20, l21, l22, l23, l24, l25⟩ := n2.out))
          go_roundw
          case rel =>
            refine ⟨k + 1, by omega, by go_num, Lib.hid ?_⟩
            obtain ⟨d1, d2⟩ := bit_div (T := T) (N := N) (t := t) (by have := H64.out; omega) ht2
            rw [if_pos (by have := HGE.out; omega)] at d1 d2
            have hoq : bits BinOp.or IntKind.u64 (wd (T / N + T / N) 0 : Int) 1 = ((wd (T / N + T / N) 0 + 1 : Nat) : Int) := or_bit (t := 1) (even_low (T / N)) (wd_lt HSQ.out 0) (by omega)
            have hwq := wd_lowbit (X := T / N + T / N) (t := 1) (by omega) (by omega)
            rw [hoq, HT2.out]
            unfold DvB
            rw [d1, d2, show 2 * (T / N) + 1 = T / N + T / N + 1 by omega, show 2 * (T % N) + t - N = T % N + T % N + t - N by omega, hwq.1, hwq.2.1, hwq.2.2]
            refine ⟨?_, ?_, ?_, ?_, ?_⟩
            · (with_reducible refine A3.far ?_ _ (by omega)); (with_reducible refine A3.far ?_ _ (by omega)); (with_reducible refine A3.far ?_ _ (by omega)); (with_reducible refine A3.far ?_ _ (by omega)); exact n0.out
            · (with_reducible refine A3.far ?_ _ (by omega)); (with_reducible refine A3.far ?_ _ (by omega)); (with_reducible refine A3.far ?_ _ (by omega)); (with_reducible refine A3.far ?_ _ (by omega)); exact n1.out
            · refine A3.put0 (x0 := wd (T / N + T / N) 0) ?_ _
              (with_reducible refine A3.far ?_ _ (by omega)); (with_reducible refine A3.far ?_ _ (by omega)); (with_reducible refine A3.far ?_ _ (by omega)); exact n2.out
            · (with_reducible refine A3.far ?_ _ (by omega)); exact A3.put n3.out _ _ _
            · (repeat (with_reducible refine Gr.setCell ?_ (by simp <;> omega) _)); exact nG.out
          case measure => simp [intOf]; omega
        · have hcmp : cmpI (T % N + T % N + t : Nat) N = -1 := by unfold cmpI; rw [if_pos (by omega)]
          have hC := compare_any (T % N + T % N + t) N hSR.out HN.out
          rw [hcmp] at hC
          have HGE := Lib.hid hge
          clear hcmp hge
          go_wp2_with (first | (go_at_call 61; (with_reducible refine (hP2 _).mono ?_); rintro e w4 ⟨rfl, hb⟩; have y0 := Lib.hid (u0.out.gr hb); have y1 := Lib.hid (u1.out.gr hb); have y2 := Lib.hid (u2.out.gr hb); have y3 := Lib.hid (u3.out.gr hb); have yG := Lib.hid (uG.out.trans hb); obtain ⟨c20, c21, c22, c23, c24, c25⟩ := y2.out; obtain ⟨c30, c31, c32, _, _, _⟩ := y3.out; obtain ⟨c10, c11, c12, _, _, _⟩ := y1.out) | (go_at_call 62; (with_reducible refine (hC _).mono ?_); rintro e w5 ⟨rfl, hb⟩; have s0 := Lib.hid (A3.gr (b := w.heap.size) (x0 := wd M 0) (x1 := wd M 1) (x2 := wd M 2) (by (with_reducible refine A3.far ?_ _ (by omega)); (with_reducible refine A3.far ?_ _ (by omega)); (with_reducible refine A3.far ?_ _ (by omega)); exact y0.out) hb); have s1 := Lib.hid (A3.gr (b := w.heap.size + 1) (x0 := wd N 0) (x1 := wd N 1) (x2 := wd N 2) (by (with_reducible refine A3.far ?_ _ (by omega)); (with_reducible refine A3.far ?_ _ (by omega)); (with_reducible refine A3.far ?_ _ (by omega)); exact y1.out) hb); have s2 := Lib.hid (A3.gr (A3.put y2.out (wd (T / N + T / N) 0) (wd (T / N + T / N) 1) (wd (T / N + T / N) 2)) hb); have s3 := Lib.hid (A3.gr (b := w.heap.size + 1 + 1 + 1) (x0 := wd (T % N + T % N + t) 0) (x1 := wd (T % N + T % N + t) 1) (x2 := wd (T % N + T % N + t) 2) (by (with_reducible refine A3.far ?_ _ (by omega)); (with_reducible refine A3.far ?_ _ (by omega)); (with_reducible refine A3.far ?_ _ (by omega)); exact y3.out) hb); have sG := Lib.hid (Gr.trans (a := w) (by (repeat (with_reducible refine Gr.setCell ?_ (by simp <;> omega) _)); exact yG.out) hb)))
          go_roundw
          case rel =>
            refine ⟨k + 1, by omega, by go_num, Lib.hid ?_⟩
            obtain ⟨d1, d2⟩ := bit_div (T := T) (N := N) (t := t) (by have := H64.out; omega) ht2
            rw [if_neg (by have := HGE.out; omega)] at d1 d2
            rw [HT2.out]
            unfold DvB
            rw [d1, d2, show 2 * (T / N) + 0 = T / N + T / N by omega, show 2 * (T % N) + t = T % N + T % N + t by omega]
            exact ⟨s0.out, s1.out, s2.out, s3.out, sG.out⟩
          case measure => simp [intOf]; omega
      · obtain ⟨s, es⟩ : ∃ s : Nat, p = 64 + s := ⟨p - 64, by omega⟩
        have hs64 : s < 64 := by omega
        have pj : (p : Int).tdiv 64 = 1 := by rw [Int.tdiv_eq_ediv_of_nonneg (by omega)]; omega
        have ps : (p : Int).tmod 64 = s := by rw [Int.tmod_eq_emod_of_nonneg (by omega)]; omega
        have pw0 : IntKind.i64.wrap (s : Int) = s := IntWalk.i64_in _ (by omega)
        have pz : IntKind.i64.wrap 1 = 1 := rfl
        have hand : bits .and .u64 ((wd M 1 : Int) / 2 ^ s) 1 = (t : Int) := and_wd (wd_lt HM.out 1) (((wd_bit hs64).2.1).trans (by rw [← Hbit.out, es]))
        have HES := Lib.hid es
        clear es
        go_wp2_with (first | (go_at_call 61; (with_reducible refine (hP1 _).mono ?_); rintro e w3 ⟨rfl, hb⟩; have y0 := Lib.hid (z0.gr hb); have y1 := Lib.hid (z1.gr hb); have y2 := Lib.hid (z2.gr hb); have y3 := Lib.hid (z3.gr hb); have yG := Lib.hid (zG.trans hb); obtain ⟨a00, a01, a02, _, _, _⟩ := y0.out; obtain ⟨b00, b01, b02, b03, b04, b05⟩ := y3.out))
        have v0 : A3 (((w3.setCell ⟨w.heap.size + 1 + 1 + 1, 0, none⟩ (.int .u64 (wd (T % N + T % N) 0 : Int))).setCell ⟨w.heap.size + 1 + 1 + 1, 1, none⟩ (.int .u64 (wd (T % N + T % N) 1 : Int))).setCell ⟨w.heap.size + 1 + 1 + 1, 2, none⟩ (.int .u64 (wd (T % N + T % N) 2 : Int))) w.heap.size (wd M 0) (wd M 1) (wd M 2) := by
          with_reducible refine A3.far ?_ _ (by omega); with_reducible refine A3.far ?_ _ (by omega); with_reducible refine A3.far ?_ _ (by omega); exact y0.out
        have v1 : A3 (((w3.setCell ⟨w.heap.size + 1 + 1 + 1, 0, none⟩ (.int .u64 (wd (T % N + T % N) 0 : Int))).setCell ⟨w.heap.size + 1 + 1 + 1, 1, none⟩ (.int .u64 (wd (T % N + T % N) 1 : Int))).setCell ⟨w.heap.size + 1 + 1 + 1, 2, none⟩ (.int .u64 (wd (T % N + T % N) 2 : Int))) (w.heap.size + 1) (wd N 0) (wd N 1) (wd N 2) := by
          with_reducible refine A3.far ?_ _ (by omega); with_reducible refine A3.far ?_ _ (by omega); with_reducible refine A3.far ?_ _ (by omega); exact y1.out
        have v2 : A3 (((w3.setCell ⟨w.heap.size + 1 + 1 + 1, 0, none⟩ (.int .u64 (wd (T % N + T % N) 0 : Int))).setCell ⟨w.heap.size + 1 + 1 + 1, 1, none⟩ (.int .u64 (wd (T % N + T % N) 1 : Int))).setCell ⟨w.heap.size + 1 + 1 + 1, 2, none⟩ (.int .u64 (wd (T % N + T % N) 2 : Int))) (w.heap.size + 1 + 1) (wd (T / N) 0) (wd (T / N) 1) (wd (T / N) 2) := by
          with_reducible refine A3.far ?_ _ (by omega); with_reducible refine A3.far ?_ _ (by omega); with_reducible refine A3.far ?_ _ (by omega); exact y2.out
        have v3 : A3 (((w3.setCell ⟨w.heap.size + 1 + 1 + 1, 0, none⟩ (.int .u64 (wd (T % N + T % N) 0 : Int))).setCell ⟨w.heap.size + 1 + 1 + 1, 1, none⟩ (.int .u64 (wd (T % N + T % N) 1 : Int))).setCell ⟨w.heap.size + 1 + 1 + 1, 2, none⟩ (.int .u64 (wd (T % N + T % N) 2 : Int))) (w.heap.size + 1 + 1 + 1) (wd (T % N + T % N) 0) (wd (T % N + T % N) 1) (wd (T % N + T % N) 2) := A3.put y3.out _ _ _
        have vG : Gr w (((w3.setCell ⟨w.heap.size + 1 + 1 + 1, 0, none⟩ (.int .u64 (wd (T % N + T % N) 0 : Int))).setCell ⟨w.heap.size + 1 + 1 + 1, 1, none⟩ (.int .u64 (wd (T % N + T % N) 1 : Int))).setCell ⟨w.heap.size + 1 + 1 + 1, 2, none⟩ (.int .u64 (wd (T % N + T % N) 2 : Int))) := by
          (repeat (with_reducible refine Gr.setCell ?_ (by simp <;> omega) _))
          exact yG.out
        generalize ((w3.setCell ⟨w.heap.size + 1 + 1 + 1, 0, none⟩ (.int .u64 (wd (T % N + T % N) 0 : Int))).setCell ⟨w.heap.size + 1 + 1 + 1, 1, none⟩ (.int .u64 (wd (T % N + T % N) 1 : Int))).setCell ⟨w.heap.size + 1 + 1 + 1, 2, none⟩ (.int .u64 (wd (T % N + T % N) 2 : Int)) = W at v0 v1 v2 v3 vG ⊢
        clear z0 z1 z2 z3 zG y0 y1 y2 y3 yG b00 b01 b02 b03 b04 b05 r30 r31 r32 hb
        obtain ⟨x00, x01, x02, _, _, _⟩ := id v0
        obtain ⟨x30, x31, x32, x33, x34, x35⟩ := id v3
        go_region
        have u0 : A3 ((W.setCell ⟨w.heap.size + 1 + 1 + 1, 0, none⟩ (.int .u64 (g0 : Int))).drew) w.heap.size (wd M 0) (wd M 1) (wd M 2) := A3.drew (v0.far _ (by omega))
        have u1 : A3 ((W.setCell ⟨w.heap.size + 1 + 1 + 1, 0, none⟩ (.int .u64 (g0 : Int))).drew) (w.heap.size + 1) (wd N 0) (wd N 1) (wd N 2) := A3.drew (v1.far _ (by omega))
        have u2 : A3 ((W.setCell ⟨w.heap.size + 1 + 1 + 1, 0, none⟩ (.int .u64 (g0 : Int))).drew) (w.heap.size + 1 + 1) (wd (T / N) 0) (wd (T / N) 1) (wd (T / N) 2) := A3.drew (v2.far _ (by omega))
        have u3 : A3 ((W.setCell ⟨w.heap.size + 1 + 1 + 1, 0, none⟩ (.int .u64 (g0 : Int))).drew) (w.heap.size + 1 + 1 + 1) g0 (wd (T % N + T % N) 1) (wd (T % N + T % N) 2) := A3.drew (v3.put0 g0)
        have uG : Gr w ((W.setCell ⟨w.heap.size + 1 + 1 + 1, 0, none⟩ (.int .u64 (g0 : Int))).drew) := Gr.drew (Gr.setCell vG (by simp <;> omega) _)
        generalize (W.setCell ⟨w.heap.size + 1 + 1 + 1, 0, none⟩ (.int .u64 (g0 : Int))).drew = W2 at u0 u1 u2 u3 uG ⊢
        have hwl := wd_lowbit (X := T % N + T % N) (t := t) (by omega) ht2
        rw [← Hg0.out, ← hwl.1, ← hwl.2.1, ← hwl.2.2] at u3
        have u0 := Lib.hid u0
        have u1 := Lib.hid u1
        have u2 := Lib.hid u2
        have u3 := Lib.hid u3
        have uG := Lib.hid uG
        obtain ⟨x20, x21, x22, _, _, _⟩ := u2.out
        clear v0 v1 v2 v3 vG x00 x01 x02 x30 x31 x32 x33 x34 x35 hwl hor hand
        by_cases hge : N ≤ T % N + T % N + t
        · have hcmp : 0 ≤ cmpI (T % N + T % N + t : Nat) N := by unfold cmpI; split <;> (try split) <;> omega
          have hC := compare_any (T % N + T % N + t) N hSR.out HN.out
          obtain ⟨cv, ecv⟩ : ∃ cv, cmpI (T % N + T % N + t : Nat) N = cv := ⟨_, rfl⟩
          rw [ecv] at hC hcmp
          have hM2 := minus_any (T % N + T % N + t) N hSR.out hge
          have HGE := Lib.hid hge
          clear ecv hge
          go_wp2_with (first | (go_at_call 61; (with_reducible refine (hP2 _).mono ?_); rintro e w4 ⟨rfl, hb⟩; have y0 := Lib.hid (u0.out.gr hb); have y1 := Lib.hid (u1.out.gr hb); have y2 := Lib.hid (u2.out.gr hb); have y3 := Lib.hid (u3.out.gr hb); have yG := Lib.hid (uG.out.trans hb); obtain ⟨c20, c21, c22, c23, c24, c25⟩ := y2.out; obtain ⟨c30, c31, c32, _, _, _⟩ := y3.out; obtain ⟨c10, c11, c12, _, _, _⟩ := y1.out) | (go_at_call 62; (with_reducible refine (hC _).mono ?_); rintro e w5 ⟨rfl, hb⟩; have s0 := Lib.hid (A3.gr (b := w.heap.size) (x0 := wd M 0) (x1 := wd M 1) (x2 := wd M 2) (by (with_reducible refine A3.far ?_ _ (by omega)); (with_reducible refine A3.far ?_ _ (by omega)); (with_reducible refine A3.far ?_ _ (by omega)); exact y0.out) hb); have s1 := Lib.hid (A3.gr (b := w.heap.size + 1) (x0 := wd N 0) (x1 := wd N 1) (x2 := wd N 2) (by (with_reducible refine A3.far ?_ _ (by omega)); (with_reducible refine A3.far ?_ _ (by omega)); (with_reducible refine A3.far ?_ _ (by omega)); exact y1.out) hb); have s2 := Lib.hid (A3.gr (A3.put y2.out (wd (T / N + T / N) 0) (wd (T / N + T / N) 1) (wd (T / N + T / N) 2)) hb); have s3 := Lib.hid (A3.gr (b := w.heap.size + 1 + 1 + 1) (x0 := wd (T % N + T % N + t) 0) (x1 := wd (T % N + T % N + t) 1) (x2 := wd (T % N + T % N + t) 2) (by (with_reducible refine A3.far ?_ _ (by omega)); (with_reducible refine A3.far ?_ _ (by omega)); (with_reducible refine A3.far ?_ _ (by omega)); exact y3.out) hb); have sG := Lib.hid (Gr.trans (a := w) (by (repeat (with_reducible refine Gr.setCell ?_ (by simp <;> omega) _)); exact yG.out) hb); obtain ⟨k30, k31, k32, _, _, _⟩ := s3.out; obtain ⟨k10, k11, k12, _, _, _⟩ := s1.out) | (go_at_call 93; (with_reducible refine (hM2 _).mono ?_); rintro e w6 ⟨rfl, hb⟩; have n0 := Lib.hid (s0.out.gr hb); have n1 := Lib.hid (s1.out.gr hb); have n2 := Lib.hid (s2.out.gr hb); have n3 := Lib.hid (s3.out.gr hb); have nG := Lib.hid (sG.out.trans hb); obtain ⟨l30, l31, l32, l33, l34, l35⟩ := n3.out; obtain ⟨l20, l21, l22, l23, l24, l25⟩ := n2.out))
          go_roundw
          case rel =>
            refine ⟨k + 1, by omega, by go_num, Lib.hid ?_⟩
            obtain ⟨d1, d2⟩ := bit_div (T := T) (N := N) (t := t) (by have := H64.out; omega) ht2
            rw [if_pos (by have := HGE.out; omega)] at d1 d2
            have hoq : bits BinOp.or IntKind.u64 (wd (T / N + T / N) 0 : Int) 1 = ((wd (T / N + T / N) 0 + 1 : Nat) : Int) := or_bit (t := 1) (even_low (T / N)) (wd_lt HSQ.out 0) (by omega)
            have hwq := wd_lowbit (X := T / N + T / N) (t := 1) (by omega) (by omega)
            rw [hoq, HT2.out]
            unfold DvB
            rw [d1, d2, show 2 * (T / N) + 1 = T / N + T / N + 1 by omega, show 2 * (T % N) + t - N = T % N + T % N + t - N by omega, hwq.1, hwq.2.1, hwq.2.2]
            refine ⟨?_, ?_, ?_, ?_, ?_⟩
            · (with_reducible refine A3.far ?_ _ (by omega)); (with_reducible refine A3.far ?_ _ (by omega)); (with_reducible refine A3.far ?_ _ (by omega)); (with_reducible refine A3.far ?_ _ (by omega)); exact n0.out
            · (with_reducible refine A3.far ?_ _ (by omega)); (with_reducible refine A3.far ?_ _ (by omega)); (with_reducible refine A3.far ?_ _ (by omega)); (with_reducible refine A3.far ?_ _ (by omega)); exact n1.out
            · refine A3.put0 (x0 := wd (T / N + T / N) 0) ?_ _
              (with_reducible refine A3.far ?_ _ (by omega)); (with_reducible refine A3.far ?_ _ (by omega)); (with_reducible refine A3.far ?_ _ (by omega)); exact n2.out
            · (with_reducible refine A3.far ?_ _ (by omega)); exact A3.put n3.out _ _ _
            · (repeat (with_reducible refine Gr.setCell ?_ (by simp <;> omega) _)); exact nG.out
          case measure => simp [intOf]; omega
        · have hcmp : cmpI (T % N + T % N + t : Nat) N = -1 := by unfold cmpI; rw [if_pos (by omega)]
          have hC := compare_any (T % N + T % N + t) N hSR.out HN.out
          rw [hcmp] at hC
          have HGE := Lib.hid hge
          clear hcmp hge
          go_wp2_with (first | (go_at_call 61; (with_reducible refine (hP2 _).mono ?_); rintro e w4 ⟨rfl, hb⟩; have y0 := Lib.hid (u0.out.gr hb); have y1 := Lib.hid (u1.out.gr hb); have y2 := Lib.hid (u2.out.gr hb); have y3 := Lib.hid (u3.out.gr hb); have yG := Lib.hid (uG.out.trans hb); obtain ⟨c20, c21, c22, c23, c24, c25⟩ := y2.out; obtain ⟨c30, c31, c32, _, _, _⟩ := y3.out; obtain ⟨c10, c11, c12, _, _, _⟩ := y1.out) | (go_at_call 62; (with_reducible refine (hC _).mono ?_); rintro e w5 ⟨rfl, hb⟩; have s0 := Lib.hid (A3.gr (b := w.heap.size) (x0 := wd M 0) (x1 := wd M 1) (x2 := wd M 2) (by (with_reducible refine A3.far ?_ _ (by omega)); (with_reducible refine A3.far ?_ _ (by omega)); (with_reducible refine A3.far ?_ _ (by omega)); exact y0.out) hb); have s1 := Lib.hid (A3.gr (b := w.heap.size + 1) (x0 := wd N 0) (x1 := wd N 1) (x2 := wd N 2) (by (with_reducible refine A3.far ?_ _ (by omega)); (with_reducible refine A3.far ?_ _ (by omega)); (with_reducible refine A3.far ?_ _ (by omega)); exact y1.out) hb); have s2 := Lib.hid (A3.gr (A3.put y2.out (wd (T / N + T / N) 0) (wd (T / N + T / N) 1) (wd (T / N + T / N) 2)) hb); have s3 := Lib.hid (A3.gr (b := w.heap.size + 1 + 1 + 1) (x0 := wd (T % N + T % N + t) 0) (x1 := wd (T % N + T % N + t) 1) (x2 := wd (T % N + T % N + t) 2) (by (with_reducible refine A3.far ?_ _ (by omega)); (with_reducible refine A3.far ?_ _ (by omega)); (with_reducible refine A3.far ?_ _ (by omega)); exact y3.out) hb); have sG := Lib.hid (Gr.trans (a := w) (by (repeat (with_reducible refine Gr.setCell ?_ (by simp <;> omega) _)); exact yG.out) hb)))
          go_roundw
          case rel =>
            refine ⟨k + 1, by omega, by go_num, Lib.hid ?_⟩
            obtain ⟨d1, d2⟩ := bit_div (T := T) (N := N) (t := t) (by have := H64.out; omega) ht2
            rw [if_neg (by have := HGE.out; omega)] at d1 d2
            rw [HT2.out]
            unfold DvB
            rw [d1, d2, show 2 * (T / N) + 0 = T / N + T / N by omega, show 2 * (T % N) + t = T % N + T % N + t by omega]
            exact ⟨s0.out, s1.out, s2.out, s3.out, sG.out⟩
          case measure => simp [intOf]; omega
      · obtain ⟨s, es⟩ : ∃ s : Nat, p = 128 + s := ⟨p - 128, by omega⟩
        have hs64 : s < 64 := by omega
        have pj : (p : Int).tdiv 64 = 2 := by rw [Int.tdiv_eq_ediv_of_nonneg (by omega)]; omega
        have ps : (p : Int).tmod 64 = s := by rw [Int.tmod_eq_emod_of_nonneg (by omega)]; omega
        have pw0 : IntKind.i64.wrap (s : Int) = s := IntWalk.i64_in _ (by omega)
        have pz : IntKind.i64.wrap 2 = 2 := rfl
        have hand : bits .and .u64 ((wd M 2 : Int) / 2 ^ s) 1 = (t : Int) := and_wd (wd_lt HM.out 2) (((wd_bit hs64).2.2).trans (by rw [← Hbit.out, es]))
        have HES := Lib.hid es
        clear es
        go_wp2_with (first | (go_at_call 61; (with_reducible refine (hP1 _).mono ?_); rintro e w3 ⟨rfl, hb⟩; have y0 := Lib.hid (z0.gr hb); have y1 := Lib.hid (z1.gr hb); have y2 := Lib.hid (z2.gr hb); have y3 := Lib.hid (z3.gr hb); have yG := Lib.hid (zG.trans hb); obtain ⟨a00, a01, a02, _, _, _⟩ := y0.out; obtain ⟨b00, b01, b02, b03, b04, b05⟩ := y3.out))
        have v0 : A3 (((w3.setCell ⟨w.heap.size + 1 + 1 + 1, 0, none⟩ (.int .u64 (wd (T % N + T % N) 0 : Int))).setCell ⟨w.heap.size + 1 + 1 + 1, 1, none⟩ (.int .u64 (wd (T % N + T % N) 1 : Int))).setCell ⟨w.heap.size + 1 + 1 + 1, 2, none⟩ (.int .u64 (wd (T % N + T % N) 2 : Int))) w.heap.size (wd M 0) (wd M 1) (wd M 2) := by
          with_reducible refine A3.far ?_ _ (by omega); with_reducible refine A3.far ?_ _ (by omega); with_reducible refine A3.far ?_ _ (by omega); exact y0.out
        have v1 : A3 (((w3.setCell ⟨w.heap.size + 1 + 1 + 1, 0, none⟩ (.int .u64 (wd (T % N + T % N) 0 : Int))).setCell ⟨w.heap.size + 1 + 1 + 1, 1, none⟩ (.int .u64 (wd (T % N + T % N) 1 : Int))).setCell ⟨w.heap.size + 1 + 1 + 1, 2, none⟩ (.int .u64 (wd (T % N + T % N) 2 : Int))) (w.heap.size + 1) (wd N 0) (wd N 1) (wd N 2) := by
          with_reducible refine A3.far ?_ _ (by omega); with_reducible refine A3.far ?_ _ (by omega); with_reducible refine A3.far ?_ _ (by omega); exact y1.out
        have v2 : A3 (((w3.setCell ⟨w.heap.size + 1 + 1 + 1, 0, none⟩ (.int .u64 (wd (T % N + T % N) 0 : Int))).setCell ⟨w.heap.size + 1 + 1 + 1, 1, none⟩ (.int .u64 (wd (T % N + T % N) 1 : Int))).setCell ⟨w.heap.size + 1 + 1 + 1, 2, none⟩ (.int .u64 (wd (T % N + T % N) 2 : Int))) (w.heap.size + 1 + 1) (wd (T / N) 0) (wd (T / N) 1) (wd (T / N) 2) := by
          with_reducible refine A3.far ?_ _ (by omega); with_reducible refine A3.far ?_ _ (by omega); with_reducible refine A3.far ?_ _ (by omega); exact y2.out
        have v3 : A3 (((w3.setCell ⟨w.heap.size + 1 + 1 + 1, 0, none⟩ (.int .u64 (wd (T % N + T % N) 0 : Int))).setCell ⟨w.heap.size + 1 + 1 + 1, 1, none⟩ (.int .u64 (wd (T % N + T % N) 1 : Int))).setCell ⟨w.heap.size + 1 + 1 + 1, 2, none⟩ (.int .u64 (wd (T % N + T % N) 2 : Int))) (w.heap.size + 1 + 1 + 1) (wd (T % N + T % N) 0) (wd (T % N + T % N) 1) (wd (T % N + T % N) 2) := A3.put y3.out _ _ _
        have vG : Gr w (((w3.setCell ⟨w.heap.size + 1 + 1 + 1, 0, none⟩ (.int .u64 (wd (T % N + T % N) 0 : Int))).setCell ⟨w.heap.size + 1 + 1 + 1, 1, none⟩ (.int .u64 (wd (T % N + T % N) 1 : Int))).setCell ⟨w.heap.size + 1 + 1 + 1, 2, none⟩ (.int .u64 (wd (T % N + T % N) 2 : Int))) := by
          (repeat (with_reducible refine Gr.setCell ?_ (by simp <;> omega) _))
          exact yG.out
        generalize ((w3.setCell ⟨w.heap.size + 1 + 1 + 1, 0, none⟩ (.int .u64 (wd (T % N + T % N) 0 : Int))).setCell ⟨w.heap.size + 1 + 1 + 1, 1, none⟩ (.int .u64 (wd (T % N + T % N) 1 : Int))).setCell ⟨w.heap.size + 1 + 1 + 1, 2, none⟩ (.int .u64 (wd (T % N + T % N) 2 : Int)) = W at v0 v1 v2 v3 vG ⊢
        clear z0 z1 z2 z3 zG y0 y1 y2 y3 yG b00 b01 b02 b03 b04 b05 r30 r31 r32 hb
        obtain ⟨x00, x01, x02, _, _, _⟩ := id v0
        obtain ⟨x30, x31, x32, x33, x34, x35⟩ := id v3
        go_region
        have u0 : A3 ((W.setCell ⟨w.heap.size + 1 + 1 + 1, 0, none⟩ (.int .u64 (g0 : Int))).drew) w.heap.size (wd M 0) (wd M 1) (wd M 2) := A3.drew (v0.far _ (by omega))
        have u1 : A3 ((W.setCell ⟨w.heap.size + 1 + 1 + 1, 0, none⟩ (.int .u64 (g0 : Int))).drew) (w.heap.size + 1) (wd N 0) (wd N 1) (wd N 2) := A3.drew (v1.far _ (by omega))
        have u2 : A3 ((W.setCell ⟨w.heap.size + 1 + 1 + 1, 0, none⟩ (.int .u64 (g0 : Int))).drew) (w.heap.size + 1 + 1) (wd (T / N) 0) (wd (T / N) 1) (wd (T / N) 2) := A3.drew (v2.far _ (by omega))
        have u3 : A3 ((W.setCell ⟨w.heap.size + 1 + 1 + 1, 0, none⟩ (.int .u64 (g0 : Int))).drew) (w.heap.size + 1 + 1 + 1) g0 (wd (T % N + T % N) 1) (wd (T % N + T % N) 2) := A3.drew (v3.put0 g0)
        have uG : Gr w ((W.setCell ⟨w.heap.size + 1 + 1 + 1, 0, none⟩ (.int .u64 (g0 : Int))).drew) := Gr.drew (Gr.setCell vG (by simp <;> omega) _)
        generalize (W.setCell ⟨w.heap.size + 1 + 1 + 1, 0, none⟩ (.int .u64 (g0 : Int))).drew = W2 at u0 u1 u2 u3 uG ⊢
        have hwl := wd_lowbit (X := T % N + T % N) (t := t) (by omega) ht2
        rw [← Hg0.out, ← hwl.1, ← hwl.2.1, ← hwl.2.2] at u3
        have u0 := Lib.hid u0
        have u1 := Lib.hid u1
        have u2 := Lib.hid u2
        have u3 := Lib.hid u3
        have uG := Lib.hid uG
        obtain ⟨x20, x21, x22, _, _, _⟩ := u2.out
        clear v0 v1 v2 v3 vG x00 x01 x02 x30 x31 x32 x33 x34 x35 hwl hor hand
        by_cases hge : N ≤ T % N + T % N + t
        · have hcmp : 0 ≤ cmpI (T % N + T % N + t : Nat) N := by unfold cmpI; split <;> (try split) <;> omega
          have hC := compare_any (T % N + T % N + t) N hSR.out HN.out
          obtain ⟨cv, ecv⟩ : ∃ cv, cmpI (T % N + T % N + t : Nat) N = cv := ⟨_, rfl⟩
          rw [ecv] at hC hcmp
          have hM2 := minus_any (T % N + T % N + t) N hSR.out hge
          have HGE := Lib.hid hge
          clear ecv hge
          go_wp2_with (first | (go_at_call 61; (with_reducible refine (hP2 _).mono ?_); rintro e w4 ⟨rfl, hb⟩; have y0 := Lib.hid (u0.out.gr hb); have y1 := Lib.hid (u1.out.gr hb); have y2 := Lib.hid (u2.out.gr hb); have y3 := Lib.hid (u3.out.gr hb); have yG := Lib.hid (uG.out.trans hb); obtain ⟨c20, c21, c22, c23, c24, c25⟩ := y2.out; obtain ⟨c30, c31, c32, _, _, _⟩ := y3.out; obtain ⟨c10, c11, c12, _, _, _⟩ := y1.out) | (go_at_call 62; (with_reducible refine (hC _).mono ?_); rintro e w5 ⟨rfl, hb⟩; have s0 := Lib.hid (A3.gr (b := w.heap.size) (x0 := wd M 0) (x1 := wd M 1) (x2 := wd M 2) (by (with_reducible refine A3.far ?_ _ (by omega)); (with_reducible refine A3.far ?_ _ (by omega)); (with_reducible refine A3.far ?_ _ (by omega)); exact y0.out) hb); have s1 := Lib.hid (A3.gr (b := w.heap.size + 1) (x0 := wd N 0) (x1 := wd N 1) (x2 := wd N 2) (by (with_reducible refine A3.far ?_ _ (by omega)); (with_reducible refine A3.far ?_ _ (by omega)); (with_reducible refine A3.far ?_ _ (by omega)); exact y1.out) hb); have s2 := Lib.hid (A3.gr (A3.put y2.out (wd (T / N + T / N) 0) (wd (T / N + T / N) 1) (wd (T / N + T / N) 2)) hb); have s3 := Lib.hid (A3.gr (b := w.heap.size + 1 + 1 + 1) (x0 := wd (T % N + T % N + t) 0) (x1 := wd (T % N + T % N + t) 1) (x2 := wd (T % N + T % N + t) 2) (by (with_reducible refine A3.far ?_ _ (by omega)); (with_reducible refine A3.far ?_ _ (by omega)); (with_reducible refine A3.far ?_ _ (by omega)); exact y3.out) hb); have sG := Lib.hid (Gr.trans (a := w) (by (repeat (with_reducible refine Gr.setCell ?_ (by simp <;> omega) _)); exact yG.out) hb); obtain ⟨k30, k31, k32, _, _, _⟩ := s3.out; obtain ⟨k10, k11, k12, _, _, _⟩ := s1.out) | (go_at_call 93; (with_reducible refine (hM2 _).mono ?_); rintro e w6 ⟨rfl, hb⟩; have n0 := Lib.hid (s0.out.gr hb); have n1 := Lib.hid (s1.out.gr hb); have n2 := Lib.hid (s2.out.gr hb); have n3 := Lib.hid (s3.out.gr hb); have nG := Lib.hid (sG.out.trans hb); obtain ⟨l30, l31, l32, l33, l34, l35⟩ := n3.out; obtain ⟨l20, l21, l22, l23, l24, l25⟩ := n2.out))
          go_roundw
          case rel =>
            refine ⟨k + 1, by omega, by go_num, Lib.hid ?_⟩
            obtain ⟨d1, d2⟩ := bit_div (T := T) (N := N) (t := t) (by have := H64.out; omega) ht2
            rw [if_pos (by have := HGE.out; omega)] at d1 d2
            have hoq : bits BinOp.or IntKind.u64 (wd (T / N + T / N) 0 : Int) 1 = ((wd (T / N + T / N) 0 + 1 : Nat) : Int) := or_bit (t := 1) (even_low (T / N)) (wd_lt HSQ.out 0) (by omega)
            have hwq := wd_lowbit (X := T / N + T / N) (t := 1) (by omega) (by omega)
            rw [hoq, HT2.out]
            unfold DvB
            rw [d1, d2, show 2 * (T / N) + 1 = T / N + T / N + 1 by omega, show 2 * (T % N) + t - N = T % N + T % N + t - N by omega, hwq.1, hwq.2.1, hwq.2.2]
            refine ⟨?_, ?_, ?_, ?_, ?_⟩
            · (with_reducible refine A3.far ?_ _ (by omega)); (with_reducible refine A3.far ?_ _ (by omega)); (with_reducible refine A3.far ?_ _ (by omega)); (with_reducible refine A3.far ?_ _ (by omega)); exact n0.out
            · (with_reducible refine A3.far ?_ _ (by omega)); (with_reducible refine A3.far ?_ _ (by omega)); (with_reducible refine A3.far ?_ _ (by omega)); (with_reducible refine A3.far ?_ _ (by omega)); exact n1.out
            · refine A3.put0 (x0 := wd (T / N + T / N) 0) ?_ _
              (with_reducible refine A3.far ?_ _ (by omega)); (with_reducible refine A3.far ?_ _ (by omega)); (with_reducible refine A3.far ?_ _ (by omega)); exact n2.out
            · (with_reducible refine A3.far ?_ _ (by omega)); exact A3.put n3.out _ _ _
            · (repeat (with_reducible refine Gr.setCell ?_ (by simp <;> omega) _)); exact nG.out
          case measure => simp [intOf]; omega
        · have hcmp : cmpI (T % N + T % N + t : Nat) N = -1 := by unfold cmpI; rw [if_pos (by omega)]
          have hC := compare_any (T % N + T % N + t) N hSR.out HN.out
          rw [hcmp] at hC
          have HGE := Lib.hid hge
          clear hcmp hge
          go_wp2_with (first | (go_at_call 61; (with_reducible refine (hP2 _).mono ?_); rintro e w4 ⟨rfl, hb⟩; have y0 := Lib.hid (u0.out.gr hb); have y1 := Lib.hid (u1.out.gr hb); have y2 := Lib.hid (u2.out.gr hb); have y3 := Lib.hid (u3.out.gr hb); have yG := Lib.hid (uG.out.trans hb); obtain ⟨c20, c21, c22, c23, c24, c25⟩ := y2.out; obtain ⟨c30, c31, c32, _, _, _⟩ := y3.out; obtain ⟨c10, c11, c12, _, _, _⟩ := y1.out) | (go_at_call 62; (with_reducible refine (hC _).mono ?_); rintro e w5 ⟨rfl, hb⟩; have s0 := Lib.hid (A3.gr (b := w.heap.size) (x0 := wd M 0) (x1 := wd M 1) (x2 := wd M 2) (by (with_reducible refine A3.far ?_ _ (by omega)); (with_reducible refine A3.far ?_ _ (by omega)); (with_reducible refine A3.far ?_ _ (by omega)); exact y0.out) hb); have s1 := Lib.hid (A3.gr (b := w.heap.size + 1) (x0 := wd N 0) (x1 := wd N 1) (x2 := wd N 2) (by (with_reducible refine A3.far ?_ _ (by omega)); (with_reducible refine A3.far ?_ _ (by omega)); (with_reducible refine A3.far ?_ _ (by omega)); exact y1.out) hb); have s2 := Lib.hid (A3.gr (A3.put y2.out (wd (T / N + T / N) 0) (wd (T / N + T / N) 1) (wd (T / N + T / N) 2)) hb); have s3 := Lib.hid (A3.gr (b := w.heap.size + 1 + 1 + 1) (x0 := wd (T % N + T % N + t) 0) (x1 := wd (T % N + T % N + t) 1) (x2 := wd (T % N + T % N + t) 2) (by (with_reducible refine A3.far ?_ _ (by omega)); (with_reducible refine A3.far ?_ _ (by omega)); (with_reducible refine A3.far ?_ _ (by omega)); exact y3.out) hb); have sG := Lib.hid (Gr.trans (a := w) (by (repeat (with_reducible refine Gr.setCell ?_ (by simp <;> omega) _)); exact yG.out) hb)))
          go_roundw
          case rel =>
            refine ⟨k + 1, by omega, by go_num, Lib.hid ?_⟩
            obtain ⟨d1, d2⟩ := bit_div (T := T) (N := N) (t := t) (by have := H64.out; omega) ht2
            rw [if_neg (by have := HGE.out; omega)] at d1 d2
            rw [HT2.out]
            unfold DvB
            rw [d1, d2, show 2 * (T / N) + 0 = T / N + T / N by omega, show 2 * (T % N) + t = T % N + T % N + t by omega]
            exact ⟨s0.out, s1.out, s2.out, s3.out, sG.out⟩
          case measure => simp [intOf]; omega
    · obtain rfl : k = K := by omega
      rw [Nat.sub_self, Nat.pow_zero, Nat.div_one] at hD
      obtain ⟨z0, z1, z2, z3, zG⟩ := hD.out
      have ZG := Lib.hid zG
      have Z2 := Lib.hid z2
      have Z3 := Lib.hid z3
      obtain ⟨q00, q01, q02, q03, q04, q05⟩ := z2
      obtain ⟨r00, r01, r02, r03, r04, r05⟩ := z3
      clear hD z0 z1 zG HZ
      generalize eq0 : wd (M / N) 0 = q0 at *
      generalize eq1 : wd (M / N) 1 = q1 at *
      generalize eq2 : wd (M / N) 2 = q2 at *
      generalize er0 : wd (M % N) 0 = r0 at *
      generalize er1 : wd (M % N) 1 = r1 at *
      generalize er2 : wd (M % N) 2 = r2 at *
      have HE := Lib.hid (And.intro eq0 (And.intro eq1 (And.intro eq2 (And.intro er0 (And.intro er1 er2)))))
      clear eq0 eq1 eq2 er0 er1 er2
      go_wp2
      go_region
      all_goals
        have y2 : A3 (((((((wr.setCell ⟨w.heap.size + 1 + 1, 0, none⟩ (.int .u64 (q0 : Int))).setCell ⟨w.heap.size + 1 + 1, 1, none⟩ (.int .u64 (q1 : Int))).setCell ⟨w.heap.size + 1 + 1, 2, none⟩ (.int .u64 (q2 : Int))).setCell ⟨w.heap.size + 1 + 1 + 1, 0, none⟩ (.int .u64 (r0 : Int))).setCell ⟨w.heap.size + 1 + 1 + 1, 1, none⟩ (.int .u64 (r1 : Int))).setCell ⟨w.heap.size + 1 + 1 + 1, 2, none⟩ (.int .u64 (r2 : Int))).drew) (w.heap.size + 1 + 1) q0 q1 q2 := by
          with_reducible refine A3.drew ?_
          with_reducible refine A3.far ?_ _ (by omega)
          with_reducible refine A3.far ?_ _ (by omega)
          with_reducible refine A3.far ?_ _ (by omega)
          exact A3.put Z2.out q0 q1 q2
        have y3 : A3 (((((((wr.setCell ⟨w.heap.size + 1 + 1, 0, none⟩ (.int .u64 (q0 : Int))).setCell ⟨w.heap.size + 1 + 1, 1, none⟩ (.int .u64 (q1 : Int))).setCell ⟨w.heap.size + 1 + 1, 2, none⟩ (.int .u64 (q2 : Int))).setCell ⟨w.heap.size + 1 + 1 + 1, 0, none⟩ (.int .u64 (r0 : Int))).setCell ⟨w.heap.size + 1 + 1 + 1, 1, none⟩ (.int .u64 (r1 : Int))).setCell ⟨w.heap.size + 1 + 1 + 1, 2, none⟩ (.int .u64 (r2 : Int))).drew) (w.heap.size + 1 + 1 + 1) r0 r1 r2 := by
          with_reducible refine A3.drew ?_
          with_reducible refine A3.put (x0 := r0) (x1 := r1) (x2 := r2) ?_ r0 r1 r2
          with_reducible refine A3.far ?_ _ (by omega)
          with_reducible refine A3.far ?_ _ (by omega)
          with_reducible refine A3.far ?_ _ (by omega)
          exact Z3.out
        have yG : Gr w (((((((wr.setCell ⟨w.heap.size + 1 + 1, 0, none⟩ (.int .u64 (q0 : Int))).setCell ⟨w.heap.size + 1 + 1, 1, none⟩ (.int .u64 (q1 : Int))).setCell ⟨w.heap.size + 1 + 1, 2, none⟩ (.int .u64 (q2 : Int))).setCell ⟨w.heap.size + 1 + 1 + 1, 0, none⟩ (.int .u64 (r0 : Int))).setCell ⟨w.heap.size + 1 + 1 + 1, 1, none⟩ (.int .u64 (r1 : Int))).setCell ⟨w.heap.size + 1 + 1 + 1, 2, none⟩ (.int .u64 (r2 : Int))).drew) := by
          with_reducible refine Gr.drew ?_
          (repeat (with_reducible refine Gr.setCell ?_ (by simp <;> omega) _))
          exact ZG.out
        generalize ((((((wr.setCell ⟨w.heap.size + 1 + 1, 0, none⟩ (.int .u64 (q0 : Int))).setCell ⟨w.heap.size + 1 + 1, 1, none⟩ (.int .u64 (q1 : Int))).setCell ⟨w.heap.size + 1 + 1, 2, none⟩ (.int .u64 (q2 : Int))).setCell ⟨w.heap.size + 1 + 1 + 1, 0, none⟩ (.int .u64 (r0 : Int))).setCell ⟨w.heap.size + 1 + 1 + 1, 1, none⟩ (.int .u64 (r1 : Int))).setCell ⟨w.heap.size + 1 + 1 + 1, 2, none⟩ (.int .u64 (r2 : Int))).drew = W at y2 y3 yG ⊢
        obtain ⟨x0, x1, x2, _, _, _⟩ := y2
        obtain ⟨x3, x4, x5, _, _, _⟩ := y3
        clear q00 q01 q02 q03 q04 q05 r00 r01 r02 r03 r04 r05
        go_wp2
        refine bodyPost_ret (v := .tuple #[.agg #[.int .u64 (q0 : Int), .int .u64 (q1 : Int), .int .u64 (q2 : Int)], .agg #[.int .u64 (r0 : Int), .int .u64 (r1 : Int), .int .u64 (r2 : Int)]]) ?_ rfl ⟨by rw [HE.out.1, HE.out.2.1, HE.out.2.2.1, HE.out.2.2.2.1, HE.out.2.2.2.2.1, HE.out.2.2.2.2.2], yG⟩
        simp [results, Try.results60, go_sem, *]
theorem divided_any (M N : Nat) (hm : Sm M) (h0 : 0 < N) (hN : N < 2 ^ 190) (w : World) :
    Calls Try.prog 60 #[(.agg #[.int .u64 ((wd (M) 0 : Nat) : Int), .int .u64 ((wd (M) 1 : Nat) : Int), .int .u64 ((wd (M) 2 : Nat) : Int)]), (.agg #[.int .u64 ((wd (N) 0 : Nat) : Int), .int .u64 ((wd (N) 1 : Nat) : Int), .int .u64 ((wd (N) 2 : Nat) : Int)])] w fun e w' => e = .returned (.tuple #[(.agg #[.int .u64 ((wd ((M / N)) 0 : Nat) : Int), .int .u64 ((wd ((M / N)) 1 : Nat) : Int), .int .u64 ((wd ((M / N)) 2 : Nat) : Int)]), (.agg #[.int .u64 ((wd ((M % N)) 0 : Nat) : Int), .int .u64 ((wd ((M % N)) 1 : Nat) : Int), .int .u64 ((wd ((M % N)) 2 : Nat) : Int)])]) ∧ Gr w w' := by
  rcases Nat.lt_or_ge N 18446744073709551616 with h | h
  · exact divided_small M N hm h0 h w
  · exact divided_large M N hm h hN w
end Go.Proofs.Ytnaflaokhldfnaa
