/- Texts of the walks, merged. -/
import Derived.Test.YtnaflaokhldfnaaGreatQ01
namespace Go.Proofs.YtnaflaokhldfnaaGreat
set_option linter.unusedSimpArgs false
set_option linter.unusedVariables false

/-- The two halves of a divisor, and its bounds. -/
structure Dv (u v y1 y0 Y : Int) : Prop where
  y : Y = y1 * 4294967296 + y0
  y1l : 2147483648 ≤ y1
  y1h : y1 < 4294967296
  y0l : 0 ≤ y0
  y0h : y0 < 4294967296
  ul : 0 ≤ u
  uh : u < Y
  vl : 0 ≤ v
  vh : v < 4294967296
theorem Dv.pos {u v y1 y0 Y : Int} (h : Dv u v y1 y0 Y) : 0 < Y := by have := h.y; have := h.y1l; have := h.y0l; omega
theorem Dv.start {u v y1 y0 Y : Int} (h : Dv u v y1 y0 Y) : u = u / y1 * y1 + u % y1 ∧ 0 ≤ u % y1 ∧ u % y1 < 4294967296 ∧ 0 ≤ u / y1 ∧ u / y1 ≤ 4294967297 ∧ (u * 4294967296 + v) / Y ≤ u / y1 := by
  obtain ⟨hy, a1, a2, b1, b2, c1, c2, d1, d2⟩ := h
  have hy1 : 0 < y1 := by omega
  have e := Int.mul_ediv_add_emod u y1
  have r0 := Int.emod_nonneg u (show y1 ≠ 0 by omega)
  have r1 := Int.emod_lt_of_pos u hy1
  have q0 := Int.ediv_nonneg c1 (Int.le_of_lt hy1)
  have hq : u / y1 ≤ 4294967297 := by
    have : u / y1 < 4294967298 := (Int.ediv_lt_iff_lt_mul hy1).2 (by omega)
    omega
  refine ⟨by rw [Int.mul_comm]; omega, r0, by omega, q0, hq, ?_⟩
  have hY : 0 < Y := by omega
  have : (u * 4294967296 + v) / Y < u / y1 + 1 := by
    rw [Int.ediv_lt_iff_lt_mul hY]
    generalize u / y1 = q at *
    generalize u % y1 = r at *
    have e2 : (q + 1) * Y = (q + 1) * y1 * 4294967296 + (q + 1) * y0 := by rw [hy, Int.mul_add, Int.mul_assoc]
    have e3 : (q + 1) * y1 = y1 * q + y1 := by rw [Int.add_mul, Int.mul_comm]; omega
    have e4 : 0 ≤ (q + 1) * y0 := Int.mul_nonneg (by omega) b1
    rw [e2, e3]; omega
  omega
theorem Dv.high {u v y1 y0 Y q : Int} (h : Dv u v y1 y0 Y) (hq : 4294967296 ≤ q) : (u * 4294967296 + v) / Y ≤ q - 1 := by
  have hY := h.pos
  obtain ⟨hy, a1, a2, b1, b2, c1, c2, d1, d2⟩ := h
  have : (u * 4294967296 + v) / Y < 4294967296 := by
    rw [Int.ediv_lt_iff_lt_mul hY]; omega
  omega
theorem Dv.over {u v y1 y0 Y q r : Int} (h : Dv u v y1 y0 Y) (hu : u = q * y1 + r) (hq : 4294967296 * r + v < q * y0) : (u * 4294967296 + v) / Y ≤ q - 1 := by
  have hY := h.pos
  have hy := h.y
  have : (u * 4294967296 + v) / Y < q := by
    rw [Int.ediv_lt_iff_lt_mul hY]
    have e1 : q * Y = q * y1 * 4294967296 + q * y0 := by rw [hy, Int.mul_add, Int.mul_assoc]
    omega
  omega
theorem Dv.exit {u v y1 y0 Y q r : Int} (h : Dv u v y1 y0 Y) (hu : u = q * y1 + r) (hq : q * y0 ≤ 4294967296 * r + v) (hQ : (u * 4294967296 + v) / Y ≤ q) : q = (u * 4294967296 + v) / Y := by
  have hY := h.pos
  have hy := h.y
  have : q ≤ (u * 4294967296 + v) / Y := by
    rw [Int.le_ediv_iff_mul_le hY]
    have e1 : q * Y = q * y1 * 4294967296 + q * y0 := by rw [hy, Int.mul_add, Int.mul_assoc]
    omega
  omega
theorem Dv.brk {u v y1 y0 Y q r : Int} (h : Dv u v y1 y0 Y) (hu : u = q * y1 + r) (hr : 4294967296 ≤ r) (h0 : 0 ≤ q) (hq : q ≤ 4294967296) (hQ : (u * 4294967296 + v) / Y ≤ q) : q = (u * 4294967296 + v) / Y := by
  refine h.exit hu ?_ hQ
  have e1 : q * y0 ≤ 4294967296 * y0 := Int.mul_le_mul_of_nonneg_right hq h.y0l
  have := h.y0h; have := h.vl; omega
theorem Dv.one {u v y1 y0 Y q r : Int} (h : Dv u v y1 y0 Y) (hu : u = q * y1 + r) (h1 : 0 ≤ r) (h0 : 0 ≤ q) (hc : 4294967296 ≤ q ∨ 4294967296 * r + v < q * y0) : 1 ≤ q := by
  rcases hc with hc | hc
  · omega
  · rcases Int.lt_or_le 0 q with k | k
    · omega
    · have : q = 0 := by omega
      subst this
      have := h.vl; simp at hc; omega
theorem Dv.less {u y1 q r : Int} (hu : u = q * y1 + r) : u = (q - 1) * y1 + (r + y1) := by rw [hu, Int.sub_mul]; omega
theorem Dv.prod {u v y1 y0 Y q : Int} (h : Dv u v y1 y0 Y) (h0 : 0 ≤ q) (hq : q < 4294967296) : 0 ≤ q * y0 ∧ q * y0 ≤ 18446744073709551615 := by
  have e1 : q * y0 ≤ 4294967295 * y0 := Int.mul_le_mul_of_nonneg_right (by omega) h.y0l
  have := h.y0h
  exact ⟨Int.mul_nonneg h0 h.y0l, by omega⟩
/-- What is left of the number, in words that wrap. -/
theorem Dv.rest {u v y1 y0 Y q : Int} (h : Dv u v y1 y0 Y) (hY : Y ≤ 18446744073709551615) (hq : q = (u * 4294967296 + v) / Y) :
    ((u * 4294967296 % 18446744073709551616 + v) % 18446744073709551616 - q * Y % 18446744073709551616) % 18446744073709551616 = (u * 4294967296 + v) % Y ∧ 0 ≤ (u * 4294967296 + v) % Y ∧ (u * 4294967296 + v) % Y < Y ∧ 0 ≤ q ∧ q < 4294967296 := by
  have hp := h.pos
  have e := Int.mul_ediv_add_emod (u * 4294967296 + v) Y
  have r0 := Int.emod_nonneg (u * 4294967296 + v) (show Y ≠ 0 by omega)
  have r1 := Int.emod_lt_of_pos (u * 4294967296 + v) hp
  have hh := h.high (q := 4294967296) (by omega)
  have h0 := h.ul
  have h1 := h.vl
  have hn : 0 ≤ (u * 4294967296 + v) / Y := Int.ediv_nonneg (by omega) (by omega)
  rw [Int.mul_comm, ← hq] at e
  rw [← hq] at hh hn
  generalize (u * 4294967296 + v) % Y = r at *
  generalize q * Y = p at *
  refine ⟨by omega, r0, r1, hn, by omega⟩
theorem Dv.next {u v y1 y0 Y v0 : Int} (h : Dv u v y1 y0 Y) (h0 : 0 ≤ v0) (h1 : v0 < 4294967296) : Dv ((u * 4294967296 + v) % Y) v0 y1 y0 Y :=
  ⟨h.y, h.y1l, h.y1h, h.y0l, h.y0h, Int.emod_nonneg _ (by have := h.pos; omega), Int.emod_lt_of_pos _ h.pos, h0, h1⟩
theorem Dv.two {u v y1 y0 Y z : Int} (h : Dv u v y1 y0 Y) : ((u * 4294967296 + v) * 4294967296 + z) / Y = (u * 4294967296 + v) / Y * 4294967296 + ((u * 4294967296 + v) % Y * 4294967296 + z) / Y ∧ ((u * 4294967296 + v) * 4294967296 + z) % Y = ((u * 4294967296 + v) % Y * 4294967296 + z) % Y := by
  have hY := h.pos
  generalize u * 4294967296 + v = N
  have e : N * 4294967296 + z = (N % Y * 4294967296 + z) + Y * (N / Y * 4294967296) := by
    have := Int.mul_ediv_add_emod N Y
    have e2 : N * 4294967296 = (Y * (N / Y) + N % Y) * 4294967296 := by rw [this]
    rw [e2, Int.add_mul, Int.mul_assoc]; omega
  rw [e, Int.add_mul_ediv_left _ _ (by omega), Int.add_mul_emod_self_left]
  exact ⟨by omega, rfl⟩
/-- The shift: the divisor, the dividend. -/
theorem shift_parts {hi lo y P R : Int} (hPR : P * R = 18446744073709551616) (hP : 0 < P) (hR : 0 < R) (hlo : 0 ≤ lo) :
    (hi * 18446744073709551616 + lo) * P = (hi * P + lo / R) * 18446744073709551616 + lo * P % 18446744073709551616 ∧ 0 ≤ lo / R ∧ (lo ≤ 18446744073709551615 → lo / R < P) := by
  have e := Int.mul_ediv_add_emod lo R
  have r0 := Int.emod_nonneg lo (show R ≠ 0 by omega)
  have r1 := Int.emod_lt_of_pos lo hR
  have hm : lo * P % 18446744073709551616 = lo % R * P := by
    rw [← hPR, Int.mul_comm lo P, Int.mul_emod_mul_of_pos _ _ hP, Int.mul_comm]

  refine ⟨?_, Int.ediv_nonneg hlo (by omega), fun h => ?_⟩
  · rw [hm]
    generalize lo / R = q at *
    generalize lo % R = r at *
    rw [← e, ← hPR]
    grind
  · rw [Int.ediv_lt_iff_lt_mul hR, hPR]; omega
end Go.Proofs.YtnaflaokhldfnaaGreat
namespace Go.Proofs.YtnaflaokhldfnaaGreat
set_option linter.unusedSimpArgs false
set_option linter.unusedVariables false
open Go.RowKit

theorem pow_bd (k : Nat) (h : k ≤ 18) : 1 ≤ (10 : Int) ^ k ∧ (10 : Int) ^ k ≤ 1000000000000000000 := by
  have h1 : (10 : Nat) ^ k ≤ 10 ^ 18 := Nat.pow_le_pow_right (by omega) h
  have h2 : 0 < (10 : Nat) ^ k := Nat.pow_pos (by omega)
  have e : ((10 ^ k : Nat) : Int) = (10 : Int) ^ k := by simp
  rw [← e]
  have e18 : (10 : Nat) ^ 18 = 1000000000000000000 := by decide
  rw [e18] at h1
  omega

def p10 (n : Int) : Int := 10 ^ n.toNat
theorem p10_bd (n : Int) (h : n ≤ 18) : 1 ≤ p10 n ∧ p10 n ≤ 1000000000000000000 := pow_bd _ (by omega)

theorem powerOfTen_any (n : Int) (h : n ≤ 18) (w : World) :
    Calls Tryz.prog 91 #[.int .i64 n] w fun e w' => e = .returned (.int .i64 (p10 n)) ∧ w = w' := by
  go_enter Tryz.func91, Tryz.ntmps91
  go_wp2
  go_loop [3, 5] (fun p i => ∃ k : Nat, (k : Int) ≤ max n 0 ∧ i = .int .i64 k ∧ p = .int .i64 (10 ^ k)) (fun _ i => n.toNat - (intOf i).toNat)
  case atStart => exact ⟨0, by omega, rfl, rfl⟩
  case round =>
    obtain ⟨k, hk, rfl, rfl⟩ := hrel
    have hb := pow_bd k (by omega)
    by_cases hlt : (k : Int) < n
    · have hb1 := pow_bd (k + 1) (by omega)
      rw [Int.pow_succ] at hb1
      go_wp2
      go_round
      case rel => exact ⟨k + 1, by omega, by go_num, by rw [Int.pow_succ]⟩
      case measure => simp [intOf]; omega
    · go_wp2
      go_ret
      exact ⟨ret_int (by unfold p10; congr 1; omega), rfl⟩

def most (l : Int) : Int := p10 l - 1
theorem greatest_any (k l s : Int) (h : l ≤ 18) (w : World) :
    Calls Tryz.prog 71 #[.agg #[.int .i64 k, .int .i64 l, .int .i64 s]] w fun e w' => e = .returned (.int .i64 (most l)) ∧ Gr w w' := by
  have hp := p10_bd l h
  go_enter Tryz.func71, Tryz.ntmps71
  go_wp2_with (go_at_call 91; refine (powerOfTen_any _ h _).mono ?_; rintro e w1 ⟨rfl, rfl⟩)
  go_ret
  exact ⟨rfl, (by repeat (first | (with_reducible exact Gr.refl _) | (with_reducible assumption) | (with_reducible refine Gr.alloc ?_ _) | (with_reducible refine Gr.drew ?_) | (with_reducible refine Gr.drewN ?_ _) | (with_reducible refine Gr.setCell ?_ (by simp <;> omega) _) | (with_reducible refine Gr.trans ?_ (by with_reducible assumption)) | exact Gr.refl _ | assumption | refine Gr.alloc ?_ _ | refine Gr.drew ?_ | refine Gr.drewN ?_ _ | refine Gr.setCell ?_ (by simp <;> omega) _ | refine Gr.trans ?_ (by assumption)))⟩

def fitsB (n l : Int) : Bool := decide (-(most l) ≤ n ∧ n ≤ most l)
theorem fits_any (n k l s : Int) (h : l ≤ 18) (w : World) :
    Calls Tryz.prog 53 #[.int .i64 n, .agg #[.int .i64 k, .int .i64 l, .int .i64 s]] w fun e w' => e = .returned (.bool (fitsB n l)) ∧ Gr w w' := by
  have hp : 0 ≤ most l ∧ most l ≤ 1000000000000000000 := by have := p10_bd l h; unfold most; omega
  go_enter Tryz.func53, Tryz.ntmps53
  go_wp2_with (go_at_call 71; refine (greatest_any _ _ _ h _).mono ?_; rintro e w1 ⟨rfl, hb⟩; obtain ⟨hc, hf⟩ := hb.cells; have hz : w.heap.size < w1.heap.size := by have h := hb.size; (try simp at h); omega)
  all_goals (go_ret; exact ⟨ret_bool (by grind [fitsB]), (by repeat (first | (with_reducible exact Gr.refl _) | (with_reducible assumption) | (with_reducible refine Gr.alloc ?_ _) | (with_reducible refine Gr.drew ?_) | (with_reducible refine Gr.drewN ?_ _) | (with_reducible refine Gr.setCell ?_ (by simp <;> omega) _) | (with_reducible refine Gr.trans ?_ (by with_reducible assumption)) | exact Gr.refl _ | assumption | refine Gr.alloc ?_ _ | refine Gr.drew ?_ | refine Gr.drewN ?_ _ | refine Gr.setCell ?_ (by simp <;> omega) _ | refine Gr.trans ?_ (by assumption)))⟩)

set_option maxRecDepth 100000 in
theorem checkString_any (k l s n : Int) (x : ByteArray) (w : World) :
    Calls Tryz.prog 52 #[.agg #[.int .i64 k, .int .i64 l, .int .i64 s], .agg #[.int .i64 n, .string x]] w fun e w' => e = .returned (.int .i64 (first0 [pick (n != 0) 5, pick ((x.size : Int) != l) 18])) ∧ Gr w w' := by
  go_enter Tryz.func52, Tryz.ntmps52
  go_wp2
  go_region_held3 (fun w' => w'.cell? ⟨w.heap.size, 0, none⟩ = some (.int .i64 k) ∧ w'.cell? ⟨w.heap.size, 1, none⟩ = some (.int .i64 l) ∧ w'.cell? ⟨w.heap.size, 2, none⟩ = some (.int .i64 s) ∧ w'.cell? ⟨w.heap.size + 1, 0, none⟩ = some (.int .i64 n) ∧ w'.cell? ⟨w.heap.size + 1, 1, none⟩ = some (.string x)) (first | (go_keep; done) | ((try go_split_ands); (repeat' apply And.intro) <;> ((try simp only [World.cell?_drew]); first | (with_reducible assumption) | (refine hb.keep ?_; (try simp only [World.cell?_drew]); first | (with_reducible assumption) | (simp [*, go_sem]; done)) | (simp [*, go_sem]; done)))) (first | (go_at_call 57; refine (errorIf_any _ _ _).mono ?_; rintro e w1 ⟨rfl, rfl⟩) | (go_at_call 10; refine (firstError2 (pick (n != 0) 5) (pick ((x.size : Int) != l) 18) _ _ _ (by first | (simp; done) | (simp [go_sem]; done)) (by first | (simp; done) | (simp [go_sem]; done))).mono ?_; rintro e w1 ⟨rfl, rfl⟩))
  go_wp2
  go_ret
  exact ⟨rfl, (by repeat (first | (with_reducible exact Gr.refl _) | (with_reducible assumption) | (with_reducible refine Gr.alloc ?_ _) | (with_reducible refine Gr.drew ?_) | (with_reducible refine Gr.drewN ?_ _) | (with_reducible refine Gr.setCell ?_ (by simp <;> omega) _) | (with_reducible refine Gr.trans ?_ (by with_reducible assumption)) | exact Gr.refl _ | assumption | refine Gr.alloc ?_ _ | refine Gr.drew ?_ | refine Gr.drewN ?_ _ | refine Gr.setCell ?_ (by simp <;> omega) _ | refine Gr.trans ?_ (by assumption)))⟩

end Go.Proofs.YtnaflaokhldfnaaGreat
