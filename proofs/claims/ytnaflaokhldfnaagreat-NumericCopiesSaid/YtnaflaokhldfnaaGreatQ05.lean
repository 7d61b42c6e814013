/- Texts of the walks, merged. -/
import Derived.Test.YtnaflaokhldfnaaGreatQ03
import Derived.Test.YtnaflaokhldfnaaGreatQ04
namespace Go.Proofs.YtnaflaokhldfnaaGreat
set_option linter.unusedSimpArgs false
set_option linter.unusedVariables false
open Go.RowKit

theorem lead_any (y : Nat) (h : y < 18446744073709551616) (w : World) :
    Calls Tryz.prog 103 #[.int .u64 (y : Int)] w fun e w' => e = .returned (.int .i64 (64 - (Lib.bitLen y : Nat))) ∧ w = w' :=
  (Tryz.bits_LeadingZeros64 y w (by omega) (by omega)).mono fun e w' ⟨a, b⟩ => ⟨by rw [a, Int.toNat_natCast], b.symm⟩

theorem Div64_low (lo y : Int) (hy : 0 < y) (hl : 0 ≤ lo) (hlW : lo ≤ 18446744073709551615) (w : World) :
    Calls Tryz.prog 99 #[.int .u64 0, .int .u64 lo, .int .u64 y] w fun e w' => e = .returned (.tuple #[.int .u64 (lo / y), .int .u64 (lo % y)]) ∧ Gr w w' := by
  have y1 : (y == 0) = false := by simp; omega
  have y2 : (1 : Int) ≤ y := by omega
  have y3 : IntKind.u64.wrap (lo / y) = lo / y := IntWalk.u64_in _ ⟨Int.ediv_nonneg hl (by omega), Int.le_trans (Int.ediv_le_self _ hl) hlW⟩
  have y4 : ¬ y ≤ 0 := by omega
  go_enter Tryz.func99, Tryz.ntmps99
  go_wp2
  go_quiet (fail)
  go_wp2
  go_ret2
  exact ⟨by simp, (by repeat (first | (with_reducible exact Gr.refl _) | (with_reducible assumption) | (with_reducible refine Gr.alloc ?_ _) | (with_reducible refine Gr.drew ?_) | (with_reducible refine Gr.drewN ?_ _) | (with_reducible refine Gr.setCell ?_ (by simp <;> omega) _) | (with_reducible refine Gr.trans ?_ (by with_reducible assumption)) | exact Gr.refl _ | assumption | refine Gr.alloc ?_ _ | refine Gr.drew ?_ | refine Gr.drewN ?_ _ | refine Gr.setCell ?_ (by simp <;> omega) _ | refine Gr.trans ?_ (by assumption)))⟩


theorem u64_mod (n : Int) : IntKind.u64.wrap n = n % 18446744073709551616 := IntKind.wrap_u64 n
theorem mask32 (n : Int) (h0 : 0 ≤ n) (h1 : n < 18446744073709551616) : bits .and .u64 n 4294967295 = n % 4294967296 := bits_mask .u64 64 (by decide) (fun n h0 h1 => by rw [IntKind.wrap_u64]; omega) 32 (by decide) n h0 h1

theorem ret_div {u v Y z R R0 Q Q0 : Int} {s : Nat} (e : ((u * 4294967296 + v) * 4294967296 + z) / Y = (u * 4294967296 + v) / Y * 4294967296 + ((u * 4294967296 + v) % Y * 4294967296 + z) / Y ∧ ((u * 4294967296 + v) * 4294967296 + z) % Y = ((u * 4294967296 + v) % Y * 4294967296 + z) % Y)
    (hR : (u * 4294967296 + v) % Y = R) (hQ : Q = (u * 4294967296 + v) / Y) (hZ : Q0 = (R * 4294967296 + z) / Y) (hR0 : (R * 4294967296 + z) % Y = R0) :
    Ending.returned (.tuple #[.int .u64 (Q * 4294967296 + Q0), .int .u64 (R0 / 2 ^ s)]) = .returned (.tuple #[.int .u64 (((u * 4294967296 + v) * 4294967296 + z) / Y), .int .u64 (((u * 4294967296 + v) * 4294967296 + z) % Y / 2 ^ s)]) := by
  rw [e.1, e.2, hR, ← hQ, ← hZ, hR0]
set_option maxHeartbeats 4000000 in
theorem Div64_core (hi lo y : Int) (s : Nat) (h0 : 0 < hi) (hy : hi < y) (hs63 : s ≤ 63)
    (Y y1 y0 H l u T v1 v0 : Int)
    (eY : IntKind.u64.wrap (y * 2 ^ s) = Y) (ey1 : Y / 4294967296 = y1) (ey0 : bits .and .u64 Y 4294967295 = y0)
    (eH : IntKind.u64.wrap (hi * 2 ^ s) = H) (el : lo / 2 ^ (64 - s) = l) (eu : bits .or .u64 H l = u)
    (eT : IntKind.u64.wrap (lo * 2 ^ s) = T) (ev1 : T / 4294967296 = v1) (ev0 : bits .and .u64 T 4294967295 = v0)
    (D : Dv u v1 y1 y0 Y) (hY : Y ≤ 18446744073709551615) (hv0 : 0 ≤ v0) (hv0' : v0 < 4294967296)
    (hlo : 0 ≤ lo)
    (hlead : ∀ w, Calls Tryz.prog 103 #[.int .u64 y] w fun e w' => e = .returned (.int .i64 (s : Nat)) ∧ w = w') (w : World) :
    Calls Tryz.prog 99 #[.int .u64 hi, .int .u64 lo, .int .u64 y] w fun e w' => e = .returned (.tuple #[.int .u64 (((u * 4294967296 + v1) * 4294967296 + v0) / Y), .int .u64 (((u * 4294967296 + v1) * 4294967296 + v0) % Y / 2 ^ s)]) ∧ Gr w w' := by
  have b1 : (y == 0) = false := by simp; omega
  have b2 : (hi == 0) = false := by simp; omega
  have b3 : decide (y ≤ hi) = false := by simp; omega
  have d1 := D.y1l
  have d2 := D.y1h
  have d3 := D.y0l
  have d4 := D.y0h
  have d5 := D.ul
  have d6 : u ≤ 18446744073709551615 := by have := D.uh; omega
  have d7 := D.vl
  have d8 := D.vh
  have HD := Lib.hid D
  have hst := D.start
  obtain ⟨q, hq⟩ : ∃ q, u / y1 = q := ⟨_, rfl⟩
  obtain ⟨r, hr⟩ : ∃ r, u % y1 = r := ⟨_, rfl⟩
  rw [hq, hr] at hst
  obtain ⟨st1, st2, st3, st4, st5, st6⟩ := hst
  have ST1 := Lib.hid st1
  have ST6 := Lib.hid st6
  have eqr : IntKind.u64.wrap (u - IntKind.u64.wrap (q * y1)) = r := by rw [u64_mod, u64_mod]; generalize q * y1 = p at *; omega
  clear st1 st6 D hr
  go_enter Tryz.func99, Tryz.ntmps99
  go_wp2_with (go_at_call 103; refine (hlead _).mono ?_; rintro e w1 ⟨rfl, rfl⟩)
  go_loop [15, 16] (fun qv rv => ∃ q r : Int, qv = .int .u64 q ∧ rv = .int .u64 r ∧ 0 ≤ r ∧ r < 4294967296 ∧ 0 ≤ q ∧ q ≤ 4294967297 ∧ Hid (u = q * y1 + r) ∧ Hid ((u * 4294967296 + v1) / Y ≤ q)) (fun qv _ => (intOf qv).toNat)
  case atStart => exact ⟨q, r, by first | rfl | rw [hq], rfl, st2, st3, st4, st5, ST1, ST6⟩
  case round =>
    clear hq eqr st2 st3 st4 st5 ST1 ST6
    obtain ⟨q, r, rfl, rfl, r0, r1, q0, q1, HU, HQ⟩ := hrel
    have way : (4294967296 ≤ q) ∨ (q < 4294967296 ∧ 4294967296 * r + v1 < q * y0) ∨ (q < 4294967296 ∧ q * y0 ≤ 4294967296 * r + v1) := by generalize q * y0 = z; omega
    rcases way with way | ⟨way, way2⟩ | ⟨way, way2⟩
    · by_cases hbr : 4294967296 ≤ r + y1
      · have HX := Lib.hid (HD.out.brk (Dv.less HU.out) hbr (by omega) (by omega) (HD.out.high way))
        obtain ⟨Q, hQ⟩ : ∃ Q, q - 1 = Q := ⟨_, rfl⟩
        rw [hQ] at HX
        obtain ⟨R, hR⟩ : ∃ R, (u * 4294967296 + v1) % Y = R := ⟨_, rfl⟩
        have hrest := HD.out.rest hY HX.out
        rw [hR] at hrest
        obtain ⟨x1, x2, x3, x4, x5⟩ := hrest
        have DN := HD.out.next hv0 hv0'
        rw [hR] at DN
        have HDN := Lib.hid DN
        have HR := Lib.hid hR
        clear hR
        have eR : IntKind.u64.wrap (IntKind.u64.wrap (IntKind.u64.wrap (u * 4294967296) + v1) - IntKind.u64.wrap (Q * Y)) = R := by rw [u64_mod, u64_mod, u64_mod, u64_mod]; exact x1
        have hst := DN.start
        obtain ⟨p, hp⟩ : ∃ p, R / y1 = p := ⟨_, rfl⟩
        obtain ⟨t, ht⟩ : ∃ t, R % y1 = t := ⟨_, rfl⟩
        rw [hp, ht] at hst
        obtain ⟨st1, st2, st3, st4, st5, st6⟩ := hst
        have ST1 := Lib.hid st1
        have ST6 := Lib.hid st6
        have eqt : IntKind.u64.wrap (R - IntKind.u64.wrap (p * y1)) = t := by rw [u64_mod, u64_mod]; generalize p * y1 = z at *; omega
        have hRm : R ≤ 18446744073709551615 := by omega
        clear st1 st6 DN ht x1 x3
        go_wp2
        go_loop [18, 16] (fun qv rv => ∃ q r : Int, qv = .int .u64 q ∧ rv = .int .u64 r ∧ 0 ≤ r ∧ r < 4294967296 ∧ 0 ≤ q ∧ q ≤ 4294967297 ∧ Hid (R = q * y1 + r) ∧ Hid ((R * 4294967296 + v0) / Y ≤ q)) (fun qv _ => (intOf qv).toNat)
        case atStart => exact ⟨p, t, by first | rfl | rw [hp], rfl, st2, st3, st4, st5, ST1, ST6⟩
        case round =>
          clear hp eqt st2 st3 st4 st5 ST1 ST6
          obtain ⟨q, r, rfl, rfl, r0, r1, q0, q1, HU, HQ⟩ := hrel
          have way : (4294967296 ≤ q) ∨ (q < 4294967296 ∧ 4294967296 * r + v0 < q * y0) ∨ (q < 4294967296 ∧ q * y0 ≤ 4294967296 * r + v0) := by generalize q * y0 = z; omega
          rcases way with way | ⟨way, way2⟩ | ⟨way, way2⟩
          · by_cases hbr : 4294967296 ≤ r + y1
            · have HZ := Lib.hid (HDN.out.brk (Dv.less HU.out) hbr (by omega) (by omega) (HDN.out.high way))
              obtain ⟨Q0, hQ⟩ : ∃ Q, q - 1 = Q := ⟨_, rfl⟩
              rw [hQ] at HZ
              obtain ⟨R0, hR0⟩ : ∃ R0, (R * 4294967296 + v0) % Y = R0 := ⟨_, rfl⟩
              have hrest := HDN.out.rest hY HZ.out
              rw [hR0] at hrest
              obtain ⟨z1, z2, z3, z4, z5⟩ := hrest
              have eF : IntKind.u64.wrap (IntKind.u64.wrap (IntKind.u64.wrap (R * 4294967296) + v0) - IntKind.u64.wrap (Q0 * Y)) = R0 := by rw [u64_mod, u64_mod, u64_mod, u64_mod]; exact z1
              have HR0 := Lib.hid hR0
              clear hR0 z1 z3
              go_wp2
              go_ret2
              exact ⟨ret_div (HD.out.two (z := v0)) HR.out HX.out HZ.out HR0.out, (by repeat (first | (with_reducible exact Gr.refl _) | (with_reducible assumption) | (with_reducible refine Gr.alloc ?_ _) | (with_reducible refine Gr.drew ?_) | (with_reducible refine Gr.drewN ?_ _) | (with_reducible refine Gr.setCell ?_ (by simp <;> omega) _) | (with_reducible refine Gr.trans ?_ (by with_reducible assumption)) | exact Gr.refl _ | assumption | refine Gr.alloc ?_ _ | refine Gr.drew ?_ | refine Gr.drewN ?_ _ | refine Gr.setCell ?_ (by simp <;> omega) _ | refine Gr.trans ?_ (by assumption)))⟩
            · go_wp2
              go_round
              case rel => exact ⟨q - 1, r + y1, rfl, rfl, by omega, by omega, by omega, by omega, Lib.hid (Dv.less HU.out), Lib.hid (HDN.out.high way)⟩
              case measure => simp [intOf]; omega
          · have hp := HDN.out.prod q0 way
            obtain ⟨hp0, hp1⟩ := hp
            have hq1 := HDN.out.one HU.out r0 q0 (.inr way2)
            by_cases hbr : 4294967296 ≤ r + y1
            · have HZ := Lib.hid (HDN.out.brk (Dv.less HU.out) hbr (by omega) (by omega) (HDN.out.over HU.out way2))
              obtain ⟨Q0, hQ⟩ : ∃ Q, q - 1 = Q := ⟨_, rfl⟩
              rw [hQ] at HZ
              obtain ⟨R0, hR0⟩ : ∃ R0, (R * 4294967296 + v0) % Y = R0 := ⟨_, rfl⟩
              have hrest := HDN.out.rest hY HZ.out
              rw [hR0] at hrest
              obtain ⟨z1, z2, z3, z4, z5⟩ := hrest
              have eF : IntKind.u64.wrap (IntKind.u64.wrap (IntKind.u64.wrap (R * 4294967296) + v0) - IntKind.u64.wrap (Q0 * Y)) = R0 := by rw [u64_mod, u64_mod, u64_mod, u64_mod]; exact z1
              have HR0 := Lib.hid hR0
              clear hR0 z1 z3
              go_wp2
              go_ret2
              exact ⟨ret_div (HD.out.two (z := v0)) HR.out HX.out HZ.out HR0.out, (by repeat (first | (with_reducible exact Gr.refl _) | (with_reducible assumption) | (with_reducible refine Gr.alloc ?_ _) | (with_reducible refine Gr.drew ?_) | (with_reducible refine Gr.drewN ?_ _) | (with_reducible refine Gr.setCell ?_ (by simp <;> omega) _) | (with_reducible refine Gr.trans ?_ (by with_reducible assumption)) | exact Gr.refl _ | assumption | refine Gr.alloc ?_ _ | refine Gr.drew ?_ | refine Gr.drewN ?_ _ | refine Gr.setCell ?_ (by simp <;> omega) _ | refine Gr.trans ?_ (by assumption)))⟩
            · go_wp2
              go_round
              case rel => exact ⟨q - 1, r + y1, rfl, rfl, by omega, by omega, by omega, by omega, Lib.hid (Dv.less HU.out), Lib.hid (HDN.out.over HU.out way2)⟩
              case measure => simp [intOf]; omega
          · have hp := HDN.out.prod q0 way
            obtain ⟨hp0, hp1⟩ := hp
            have HZ := Lib.hid (HDN.out.exit HU.out way2 HQ.out)
            obtain ⟨Q0, hQ⟩ : ∃ Q, q = Q := ⟨_, rfl⟩
            subst hQ
            obtain ⟨R0, hR0⟩ : ∃ R0, (R * 4294967296 + v0) % Y = R0 := ⟨_, rfl⟩
            have hrest := HDN.out.rest hY HZ.out
            rw [hR0] at hrest
            obtain ⟨z1, z2, z3, z4, z5⟩ := hrest
            have eF : IntKind.u64.wrap (IntKind.u64.wrap (IntKind.u64.wrap (R * 4294967296) + v0) - IntKind.u64.wrap (q * Y)) = R0 := by rw [u64_mod, u64_mod, u64_mod, u64_mod]; exact z1
            have HR0 := Lib.hid hR0
            clear hR0 z1 z3
            go_wp2
            go_ret2
            exact ⟨ret_div (HD.out.two (z := v0)) HR.out HX.out HZ.out HR0.out, (by repeat (first | (with_reducible exact Gr.refl _) | (with_reducible assumption) | (with_reducible refine Gr.alloc ?_ _) | (with_reducible refine Gr.drew ?_) | (with_reducible refine Gr.drewN ?_ _) | (with_reducible refine Gr.setCell ?_ (by simp <;> omega) _) | (with_reducible refine Gr.trans ?_ (by with_reducible assumption)) | exact Gr.refl _ | assumption | refine Gr.alloc ?_ _ | refine Gr.drew ?_ | refine Gr.drewN ?_ _ | refine Gr.setCell ?_ (by simp <;> omega) _ | refine Gr.trans ?_ (by assumption)))⟩
      · go_wp2
        go_round
        case rel => exact ⟨q - 1, r + y1, rfl, rfl, by omega, by omega, by omega, by omega, Lib.hid (Dv.less HU.out), Lib.hid (HD.out.high way)⟩
        case measure => simp [intOf]; omega
    · have hp := HD.out.prod q0 way
      obtain ⟨hp0, hp1⟩ := hp
      have hq1 := HD.out.one HU.out r0 q0 (.inr way2)
      by_cases hbr : 4294967296 ≤ r + y1
      · have HX := Lib.hid (HD.out.brk (Dv.less HU.out) hbr (by omega) (by omega) (HD.out.over HU.out way2))
        obtain ⟨Q, hQ⟩ : ∃ Q, q - 1 = Q := ⟨_, rfl⟩
        rw [hQ] at HX
        obtain ⟨R, hR⟩ : ∃ R, (u * 4294967296 + v1) % Y = R := ⟨_, rfl⟩
        have hrest := HD.out.rest hY HX.out
        rw [hR] at hrest
        obtain ⟨x1, x2, x3, x4, x5⟩ := hrest
        have DN := HD.out.next hv0 hv0'
        rw [hR] at DN
        have HDN := Lib.hid DN
        have HR := Lib.hid hR
        clear hR
        have eR : IntKind.u64.wrap (IntKind.u64.wrap (IntKind.u64.wrap (u * 4294967296) + v1) - IntKind.u64.wrap (Q * Y)) = R := by rw [u64_mod, u64_mod, u64_mod, u64_mod]; exact x1
        have hst := DN.start
        obtain ⟨p, hp⟩ : ∃ p, R / y1 = p := ⟨_, rfl⟩
        obtain ⟨t, ht⟩ : ∃ t, R % y1 = t := ⟨_, rfl⟩
        rw [hp, ht] at hst
        obtain ⟨st1, st2, st3, st4, st5, st6⟩ := hst
        have ST1 := Lib.hid st1
        have ST6 := Lib.hid st6
        have eqt : IntKind.u64.wrap (R - IntKind.u64.wrap (p * y1)) = t := by rw [u64_mod, u64_mod]; generalize p * y1 = z at *; omega
        have hRm : R ≤ 18446744073709551615 := by omega
        clear st1 st6 DN ht x1 x3
        go_wp2
        go_loop [18, 16] (fun qv rv => ∃ q r : Int, qv = .int .u64 q ∧ rv = .int .u64 r ∧ 0 ≤ r ∧ r < 4294967296 ∧ 0 ≤ q ∧ q ≤ 4294967297 ∧ Hid (R = q * y1 + r) ∧ Hid ((R * 4294967296 + v0) / Y ≤ q)) (fun qv _ => (intOf qv).toNat)
        case atStart => exact ⟨p, t, by first | rfl | rw [hp], rfl, st2, st3, st4, st5, ST1, ST6⟩
        case round =>
          clear hp eqt st2 st3 st4 st5 ST1 ST6
          obtain ⟨q, r, rfl, rfl, r0, r1, q0, q1, HU, HQ⟩ := hrel
          have way : (4294967296 ≤ q) ∨ (q < 4294967296 ∧ 4294967296 * r + v0 < q * y0) ∨ (q < 4294967296 ∧ q * y0 ≤ 4294967296 * r + v0) := by generalize q * y0 = z; omega
          rcases way with way | ⟨way, way2⟩ | ⟨way, way2⟩
          · by_cases hbr : 4294967296 ≤ r + y1
            · have HZ := Lib.hid (HDN.out.brk (Dv.less HU.out) hbr (by omega) (by omega) (HDN.out.high way))
              obtain ⟨Q0, hQ⟩ : ∃ Q, q - 1 = Q := ⟨_, rfl⟩
              rw [hQ] at HZ
              obtain ⟨R0, hR0⟩ : ∃ R0, (R * 4294967296 + v0) % Y = R0 := ⟨_, rfl⟩
              have hrest := HDN.out.rest hY HZ.out
              rw [hR0] at hrest
              obtain ⟨z1, z2, z3, z4, z5⟩ := hrest
              have eF : IntKind.u64.wrap (IntKind.u64.wrap (IntKind.u64.wrap (R * 4294967296) + v0) - IntKind.u64.wrap (Q0 * Y)) = R0 := by rw [u64_mod, u64_mod, u64_mod, u64_mod]; exact z1
              have HR0 := Lib.hid hR0
              clear hR0 z1 z3
              go_wp2
              go_ret2
              exact ⟨ret_div (HD.out.two (z := v0)) HR.out HX.out HZ.out HR0.out, (by repeat (first | (with_reducible exact Gr.refl _) | (with_reducible assumption) | (with_reducible refine Gr.alloc ?_ _) | (with_reducible refine Gr.drew ?_) | (with_reducible refine Gr.drewN ?_ _) | (with_reducible refine Gr.setCell ?_ (by simp <;> omega) _) | (with_reducible refine Gr.trans ?_ (by with_reducible assumption)) | exact Gr.refl _ | assumption | refine Gr.alloc ?_ _ | refine Gr.drew ?_ | refine Gr.drewN ?_ _ | refine Gr.setCell ?_ (by simp <;> omega) _ | refine Gr.trans ?_ (by assumption)))⟩
            · go_wp2
              go_round
              case rel => exact ⟨q - 1, r + y1, rfl, rfl, by omega, by omega, by omega, by omega, Lib.hid (Dv.less HU.out), Lib.hid (HDN.out.high way)⟩
              case measure => simp [intOf]; omega
          · have hp := HDN.out.prod q0 way
            obtain ⟨hp0, hp1⟩ := hp
            have hq1 := HDN.out.one HU.out r0 q0 (.inr way2)
            by_cases hbr : 4294967296 ≤ r + y1
            · have HZ := Lib.hid (HDN.out.brk (Dv.less HU.out) hbr (by omega) (by omega) (HDN.out.over HU.out way2))
              obtain ⟨Q0, hQ⟩ : ∃ Q, q - 1 = Q := ⟨_, rfl⟩
              rw [hQ] at HZ
              obtain ⟨R0, hR0⟩ : ∃ R0, (R * 4294967296 + v0) % Y = R0 := ⟨_, rfl⟩
              have hrest := HDN.out.rest hY HZ.out
              rw [hR0] at hrest
              obtain ⟨z1, z2, z3, z4, z5⟩ := hrest
              have eF : IntKind.u64.wrap (IntKind.u64.wrap (IntKind.u64.wrap (R * 4294967296) + v0) - IntKind.u64.wrap (Q0 * Y)) = R0 := by rw [u64_mod, u64_mod, u64_mod, u64_mod]; exact z1
              have HR0 := Lib.hid hR0
              clear hR0 z1 z3
              go_wp2
              go_ret2
              exact ⟨ret_div (HD.out.two (z := v0)) HR.out HX.out HZ.out HR0.out, (by repeat (first | (with_reducible exact Gr.refl _) | (with_reducible assumption) | (with_reducible refine Gr.alloc ?_ _) | (with_reducible refine Gr.drew ?_) | (with_reducible refine Gr.drewN ?_ _) | (with_reducible refine Gr.setCell ?_ (by simp <;> omega) _) | (with_reducible refine Gr.trans ?_ (by with_reducible assumption)) | exact Gr.refl _ | assumption | refine Gr.alloc ?_ _ | refine Gr.drew ?_ | refine Gr.drewN ?_ _ | refine Gr.setCell ?_ (by simp <;> omega) _ | refine Gr.trans ?_ (by assumption)))⟩
            · go_wp2
              go_round
              case rel => exact ⟨q - 1, r + y1, rfl, rfl, by omega, by omega, by omega, by omega, Lib.hid (Dv.less HU.out), Lib.hid (HDN.out.over HU.out way2)⟩
              case measure => simp [intOf]; omega
          · have hp := HDN.out.prod q0 way
            obtain ⟨hp0, hp1⟩ := hp
            have HZ := Lib.hid (HDN.out.exit HU.out way2 HQ.out)
            obtain ⟨Q0, hQ⟩ : ∃ Q, q = Q := ⟨_, rfl⟩
            subst hQ
            obtain ⟨R0, hR0⟩ : ∃ R0, (R * 4294967296 + v0) % Y = R0 := ⟨_, rfl⟩
            have hrest := HDN.out.rest hY HZ.out
            rw [hR0] at hrest
            obtain ⟨z1, z2, z3, z4, z5⟩ := hrest
            have eF : IntKind.u64.wrap (IntKind.u64.wrap (IntKind.u64.wrap (R * 4294967296) + v0) - IntKind.u64.wrap (q * Y)) = R0 := by rw [u64_mod, u64_mod, u64_mod, u64_mod]; exact z1
            have HR0 := Lib.hid hR0
            clear hR0 z1 z3
            go_wp2
            go_ret2
            exact ⟨ret_div (HD.out.two (z := v0)) HR.out HX.out HZ.out HR0.out, (by repeat (first | (with_reducible exact Gr.refl _) | (with_reducible assumption) | (with_reducible refine Gr.alloc ?_ _) | (with_reducible refine Gr.drew ?_) | (with_reducible refine Gr.drewN ?_ _) | (with_reducible refine Gr.setCell ?_ (by simp <;> omega) _) | (with_reducible refine Gr.trans ?_ (by with_reducible assumption)) | exact Gr.refl _ | assumption | refine Gr.alloc ?_ _ | refine Gr.drew ?_ | refine Gr.drewN ?_ _ | refine Gr.setCell ?_ (by simp <;> omega) _ | refine Gr.trans ?_ (by assumption)))⟩
      · go_wp2
        go_round
        case rel => exact ⟨q - 1, r + y1, rfl, rfl, by omega, by omega, by omega, by omega, Lib.hid (Dv.less HU.out), Lib.hid (HD.out.over HU.out way2)⟩
        case measure => simp [intOf]; omega
    · have hp := HD.out.prod q0 way
      obtain ⟨hp0, hp1⟩ := hp
      have HX := Lib.hid (HD.out.exit HU.out way2 HQ.out)
      obtain ⟨Q, hQ⟩ : ∃ Q, q = Q := ⟨_, rfl⟩
      subst hQ
      obtain ⟨R, hR⟩ : ∃ R, (u * 4294967296 + v1) % Y = R := ⟨_, rfl⟩
      have hrest := HD.out.rest hY HX.out
      rw [hR] at hrest
      obtain ⟨x1, x2, x3, x4, x5⟩ := hrest
      have DN := HD.out.next hv0 hv0'
      rw [hR] at DN
      have HDN := Lib.hid DN
      have HR := Lib.hid hR
      clear hR
      have eR : IntKind.u64.wrap (IntKind.u64.wrap (IntKind.u64.wrap (u * 4294967296) + v1) - IntKind.u64.wrap (q * Y)) = R := by rw [u64_mod, u64_mod, u64_mod, u64_mod]; exact x1
      have hst := DN.start
      obtain ⟨p, hp⟩ : ∃ p, R / y1 = p := ⟨_, rfl⟩
      obtain ⟨t, ht⟩ : ∃ t, R % y1 = t := ⟨_, rfl⟩
      rw [hp, ht] at hst
      obtain ⟨st1, st2, st3, st4, st5, st6⟩ := hst
      have ST1 := Lib.hid st1
      have ST6 := Lib.hid st6
      have eqt : IntKind.u64.wrap (R - IntKind.u64.wrap (p * y1)) = t := by rw [u64_mod, u64_mod]; generalize p * y1 = z at *; omega
      have hRm : R ≤ 18446744073709551615 := by omega
      clear st1 st6 DN ht x1 x3
      go_wp2
      go_loop [18, 16] (fun qv rv => ∃ q r : Int, qv = .int .u64 q ∧ rv = .int .u64 r ∧ 0 ≤ r ∧ r < 4294967296 ∧ 0 ≤ q ∧ q ≤ 4294967297 ∧ Hid (R = q * y1 + r) ∧ Hid ((R * 4294967296 + v0) / Y ≤ q)) (fun qv _ => (intOf qv).toNat)
      case atStart => exact ⟨p, t, by first | rfl | rw [hp], rfl, st2, st3, st4, st5, ST1, ST6⟩
      case round =>
        clear hp eqt st2 st3 st4 st5 ST1 ST6
        obtain ⟨q, r, rfl, rfl, r0, r1, q0, q1, HU, HQ⟩ := hrel
        have way : (4294967296 ≤ q) ∨ (q < 4294967296 ∧ 4294967296 * r + v0 < q * y0) ∨ (q < 4294967296 ∧ q * y0 ≤ 4294967296 * r + v0) := by generalize q * y0 = z; omega
        rcases way with way | ⟨way, way2⟩ | ⟨way, way2⟩
        · by_cases hbr : 4294967296 ≤ r + y1
          · have HZ := Lib.hid (HDN.out.brk (Dv.less HU.out) hbr (by omega) (by omega) (HDN.out.high way))
            obtain ⟨Q0, hQ⟩ : ∃ Q, q - 1 = Q := ⟨_, rfl⟩
            rw [hQ] at HZ
            obtain ⟨R0, hR0⟩ : ∃ R0, (R * 4294967296 + v0) % Y = R0 := ⟨_, rfl⟩
            have hrest := HDN.out.rest hY HZ.out
            rw [hR0] at hrest
            obtain ⟨z1, z2, z3, z4, z5⟩ := hrest
            have eF : IntKind.u64.wrap (IntKind.u64.wrap (IntKind.u64.wrap (R * 4294967296) + v0) - IntKind.u64.wrap (Q0 * Y)) = R0 := by rw [u64_mod, u64_mod, u64_mod, u64_mod]; exact z1
            have HR0 := Lib.hid hR0
            clear hR0 z1 z3
            go_wp2
            go_ret2
            exact ⟨ret_div (HD.out.two (z := v0)) HR.out HX.out HZ.out HR0.out, (by repeat (first | (with_reducible exact Gr.refl _) | (with_reducible assumption) | (with_reducible refine Gr.alloc ?_ _) | (with_reducible refine Gr.drew ?_) | (with_reducible refine Gr.drewN ?_ _) | (with_reducible refine Gr.setCell ?_ (by simp <;> omega) _) | (with_reducible refine Gr.trans ?_ (by with_reducible assumption)) | exact Gr.refl _ | assumption | refine Gr.alloc ?_ _ | refine Gr.drew ?_ | refine Gr.drewN ?_ _ | refine Gr.setCell ?_ (by simp <;> omega) _ | refine Gr.trans ?_ (by assumption)))⟩
          · go_wp2
            go_round
            case rel => exact ⟨q - 1, r + y1, rfl, rfl, by omega, by omega, by omega, by omega, Lib.hid (Dv.less HU.out), Lib.hid (HDN.out.high way)⟩
            case measure => simp [intOf]; omega
        · have hp := HDN.out.prod q0 way
          obtain ⟨hp0, hp1⟩ := hp
          have hq1 := HDN.out.one HU.out r0 q0 (.inr way2)
          by_cases hbr : 4294967296 ≤ r + y1
          · have HZ := Lib.hid (HDN.out.brk (Dv.less HU.out) hbr (by omega) (by omega) (HDN.out.over HU.out way2))
            obtain ⟨Q0, hQ⟩ : ∃ Q, q - 1 = Q := ⟨_, rfl⟩
            rw [hQ] at HZ
            obtain ⟨R0, hR0⟩ : ∃ R0, (R * 4294967296 + v0) % Y = R0 := ⟨_, rfl⟩
            have hrest := HDN.out.rest hY HZ.out
            rw [hR0] at hrest
            obtain ⟨z1, z2, z3, z4, z5⟩ := hrest
            have eF : IntKind.u64.wrap (IntKind.u64.wrap (IntKind.u64.wrap (R * 4294967296) + v0) - IntKind.u64.wrap (Q0 * Y)) = R0 := by rw [u64_mod, u64_mod, u64_mod, u64_mod]; exact z1
            have HR0 := Lib.hid hR0
            clear hR0 z1 z3
            go_wp2
            go_ret2
            exact ⟨ret_div (HD.out.two (z := v0)) HR.out HX.out HZ.out HR0.out, (by repeat (first | (with_reducible exact Gr.refl _) | (with_reducible assumption) | (with_reducible refine Gr.alloc ?_ _) | (with_reducible refine Gr.drew ?_) | (with_reducible refine Gr.drewN ?_ _) | (with_reducible refine Gr.setCell ?_ (by simp <;> omega) _) | (with_reducible refine Gr.trans ?_ (by with_reducible assumption)) | exact Gr.refl _ | assumption | refine Gr.alloc ?_ _ | refine Gr.drew ?_ | refine Gr.drewN ?_ _ | refine Gr.setCell ?_ (by simp <;> omega) _ | refine Gr.trans ?_ (by assumption)))⟩
          · go_wp2
            go_round
            case rel => exact ⟨q - 1, r + y1, rfl, rfl, by omega, by omega, by omega, by omega, Lib.hid (Dv.less HU.out), Lib.hid (HDN.out.over HU.out way2)⟩
            case measure => simp [intOf]; omega
        · have hp := HDN.out.prod q0 way
          obtain ⟨hp0, hp1⟩ := hp
          have HZ := Lib.hid (HDN.out.exit HU.out way2 HQ.out)
          obtain ⟨Q0, hQ⟩ : ∃ Q, q = Q := ⟨_, rfl⟩
          subst hQ
          obtain ⟨R0, hR0⟩ : ∃ R0, (R * 4294967296 + v0) % Y = R0 := ⟨_, rfl⟩
          have hrest := HDN.out.rest hY HZ.out
          rw [hR0] at hrest
          obtain ⟨z1, z2, z3, z4, z5⟩ := hrest
          have eF : IntKind.u64.wrap (IntKind.u64.wrap (IntKind.u64.wrap (R * 4294967296) + v0) - IntKind.u64.wrap (q * Y)) = R0 := by rw [u64_mod, u64_mod, u64_mod, u64_mod]; exact z1
          have HR0 := Lib.hid hR0
          clear hR0 z1 z3
          go_wp2
          go_ret2
          exact ⟨ret_div (HD.out.two (z := v0)) HR.out HX.out HZ.out HR0.out, (by repeat (first | (with_reducible exact Gr.refl _) | (with_reducible assumption) | (with_reducible refine Gr.alloc ?_ _) | (with_reducible refine Gr.drew ?_) | (with_reducible refine Gr.drewN ?_ _) | (with_reducible refine Gr.setCell ?_ (by simp <;> omega) _) | (with_reducible refine Gr.trans ?_ (by with_reducible assumption)) | exact Gr.refl _ | assumption | refine Gr.alloc ?_ _ | refine Gr.drew ?_ | refine Gr.drewN ?_ _ | refine Gr.setCell ?_ (by simp <;> omega) _ | refine Gr.trans ?_ (by assumption)))⟩
end Go.Proofs.YtnaflaokhldfnaaGreat
