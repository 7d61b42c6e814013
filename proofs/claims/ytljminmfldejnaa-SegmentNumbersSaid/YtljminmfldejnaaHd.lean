/- Stores: the reference's Check, Err, PageCount, Place, NumberErr, known. -/
import Derived.Test.YtljminmfldejnaaHc
namespace Go.Proofs.Ytljminmfldejnaa
set_option linter.unusedSimpArgs false
set_option linter.unusedVariables false
open Go.RowKit

theorem bf_last {gs : List (Int × ByteArray)} {q : Nat} (h : 0 < q) : bfG gs q = nuG gs (q - 1) := by
  unfold bfG; rw [if_neg (by omega)]

set_option maxHeartbeats 4000000 in
set_option maxRecDepth 100000 in
theorem Check_any (A : Option Addr) (n c : Nat) (gs : List (Int × ByteArray)) (nx : Int) (w : World) (hs : Sv w A n c 2 (sg gs)) (hb : Sh gs) :
    Calls Try.prog 17 #[.agg #[.slice A n c, .int .i64 nx]] w (CkR nx gs w) := by
  have hm := hs.max
  have hlen := hs.segs
  by_cases hL : 10 < gs.length
  · have hL' : (10 : Int) < n := by omega
    have E := Lib.hid (st_large (nx := nx) hL)
    clear hlen
    go_enter Try.func17, Try.ntmps17
    go_wp2
    go_ret2
    exact ⟨by rw [E.out.1, E.out.2] <;> rfl, (by repeat (first | (with_reducible exact Gr.refl _) | (with_reducible assumption) | (with_reducible refine Gr.alloc ?_ _) | (with_reducible refine Gr.drew ?_) | (with_reducible refine Gr.drewN ?_ _) | (with_reducible refine Gr.setCell ?_ (by simp <;> omega) _) | (with_reducible refine Gr.trans ?_ (by with_reducible assumption)) | exact Gr.refl _ | assumption | refine Gr.alloc ?_ _ | refine Gr.drew ?_ | refine Gr.drewN ?_ _ | refine Gr.setCell ?_ (by simp <;> omega) _ | refine Gr.trans ?_ (by assumption)))⟩
  have hL' : (n : Int) ≤ 10 := by omega
  rcases Bool.eq_false_or_eq_true (wiB nx 1 1001) with hR | hR
  rotate_left
  · have E := Lib.hid (st_range hL hR)
    clear hlen
    go_enter Try.func17, Try.ntmps17
    go_wp2_with ((go_at_call 42; (with_reducible refine (Within_is _ _ _ _ hR _).mono ?_); rintro e w1 ⟨rfl, rfl⟩))
    go_ret2
    exact ⟨by rw [E.out.1, E.out.2] <;> rfl, (by repeat (first | (with_reducible exact Gr.refl _) | (with_reducible assumption) | (with_reducible refine Gr.alloc ?_ _) | (with_reducible refine Gr.drew ?_) | (with_reducible refine Gr.drewN ?_ _) | (with_reducible refine Gr.setCell ?_ (by simp <;> omega) _) | (with_reducible refine Gr.trans ?_ (by with_reducible assumption)) | exact Gr.refl _ | assumption | refine Gr.alloc ?_ _ | refine Gr.drew ?_ | refine Gr.drewN ?_ _ | refine Gr.setCell ?_ (by simp <;> omega) _ | refine Gr.trans ?_ (by assumption)))⟩
  have HN := Lib.hid hlen
  have HL := Lib.hid hL
  have HB := Lib.hid hb
  have hn1 := (wiB_iff.1 hR).1
  have hn2 := (wiB_iff.1 hR).2
  clear hlen hL hb
  rcases Nat.eq_zero_or_pos n with hn | hn
  · subst hn
    have E := Lib.hid (st_good (nx := nx) HL.out hR (by unfold badI; rw [HN.out]; rfl))
    go_enter Try.func17, Try.ntmps17
    go_wp2_with ((go_at_call 42; (with_reducible refine (Within_is _ _ _ _ hR _).mono ?_); rintro e w1 ⟨rfl, rfl⟩))
    go_loop [4] (fun i => i = .int .i64 0) (fun _ => 0)
    case atStart => rfl
    case round =>
      subst hrel
      go_wp2
      go_ret2
      exact ⟨by rw [E.out.1, E.out.2] <;> rfl, (by repeat (first | (with_reducible exact Gr.refl _) | (with_reducible assumption) | (with_reducible refine Gr.alloc ?_ _) | (with_reducible refine Gr.drew ?_) | (with_reducible refine Gr.drewN ?_ _) | (with_reducible refine Gr.setCell ?_ (by simp <;> omega) _) | (with_reducible refine Gr.trans ?_ (by with_reducible assumption)) | exact Gr.refl _ | assumption | refine Gr.alloc ?_ _ | refine Gr.drew ?_ | refine Gr.drewN ?_ _ | refine Gr.setCell ?_ (by simp <;> omega) _ | refine Gr.trans ?_ (by assumption)))⟩
  · obtain ⟨b, o, rfl, hb, -⟩ := hs.at_ hn
    have HS := Lib.hid hs
    clear hs
    go_enter Try.func17, Try.ntmps17
    go_wp2_with ((go_at_call 42; (with_reducible refine (Within_is _ _ _ _ hR _).mono ?_); rintro e w1 ⟨rfl, rfl⟩))
    go_loopw [4] (fun i wr => ∃ q : Nat, q ≤ n ∧ i = .int .i64 q ∧ Hid (fB (badG nx gs) (n - q) q = badI nx gs) ∧ Hid (Gr (w.alloc (.cells #[.slice (some ⟨b, o, none⟩) n c, .int .i64 nx] 24)) wr)) (fun i _ => n - (intOf i).toNat)
    case atStart => exact ⟨0, Nat.zero_le _, rfl, by show _ = _; unfold badI; rw [HN.out]; rfl, Gr.refl _⟩
    case round =>
      obtain ⟨q, hq, rfl, hF, hG⟩ := hrel
      have c0 := hG.out.keep (p := ⟨w.heap.size, 0, none⟩) (v := .slice (some ⟨b, o, none⟩) n c) (by simp)
      have c1 := hG.out.keep (p := ⟨w.heap.size, 1, none⟩) (v := .int .i64 nx) (by simp)
      have hz : w.heap.size + 1 ≤ wr.heap.size := by have := hG.out.size; simpa using this
      have hz0 : w.heap.size < wr.heap.size := by omega
      by_cases hlt : q < n
      · obtain ⟨k0, k1⟩ := (HS.out.gr (((Gr.refl w).alloc _).trans hG.out)).seg hlt
        have hx := HB.out q (by rw [HN.out]; exact hlt)
        have hbl : b < wr.heap.size := World.block_lt_of_cell? wr _ k0
        obtain ⟨p, hp⟩ : ∃ p, bfG gs q = p := ⟨_, rfl⟩
        have hprev : 0 < q → wr.cell? ⟨b, o + (q - 1) * 2, none⟩ = some (.int .i64 p) := fun h0 => by
          have := ((HS.out.gr (((Gr.refl w).alloc _).trans hG.out)).seg (i := q - 1) (by omega)).1
          rw [this, ← hp, bf_last h0]
        have hp0 : q = 0 → p = 0 := fun h0 => by rw [← hp, h0]; rfl
        have HE : sgErr nx gs q = sgE nx p (nuG gs q) (byG gs q) := by rw [sgErr, hp]
        generalize nuG gs q = m at *
        generalize byG gs q = x at *
        have hxm := hx
        unfold maxLen at hxm
        have hbad : ∀ E : Int, E ≠ 0 → sgE nx p m x = E → stE nx gs = E ∧ stI nx gs = q := fun E h0 he => by
          refine st_bad (nx := nx) HL.out hR (by rw [HN.out]; exact hlt) ?_ (by rw [HE, he])
          rw [← hF.out]
          exact fB_yes (by omega) (by unfold badG; rw [HE, he]; simpa using h0)
        have HBAD := Lib.hid hbad
        have HE' := Lib.hid HE
        have HPr := Lib.hid hprev
        have HP0 := Lib.hid hp0
        clear hbad HE hprev hp0 hp
        rcases Bool.eq_false_or_eq_true (wiB m 1 (nx - 1)) with hA | hA
        rotate_left
        · have E := Lib.hid (HBAD.out 3 (by omega) (by simp [sgE, hA]))
          go_wp2_with ((go_at_call 42; (with_reducible refine (Within_is _ _ _ _ hA _).mono ?_); rintro e w1 ⟨rfl, rfl⟩))
          go_ret2
          exact ⟨by rw [E.out.1, E.out.2] <;> rfl, by exact (((Gr.refl _).alloc _).trans hG.out).trans (by repeat (first | (with_reducible exact Gr.refl _) | (with_reducible assumption) | (with_reducible refine Gr.alloc ?_ _) | (with_reducible refine Gr.drew ?_) | (with_reducible refine Gr.drewN ?_ _) | (with_reducible refine Gr.setCell ?_ (by simp <;> omega) _) | (with_reducible refine Gr.trans ?_ (by with_reducible assumption)) | exact Gr.refl _ | assumption | refine Gr.alloc ?_ _ | refine Gr.drew ?_ | refine Gr.drewN ?_ _ | refine Gr.setCell ?_ (by simp <;> omega) _ | refine Gr.trans ?_ (by assumption)))⟩
        have hm1 := (wiB_iff.1 hA).1
        have HA := Lib.hid hA
        by_cases hB : m ≤ p
        · have E := Lib.hid (HBAD.out 14 (by omega) (by simp [sgE, hA, hB]))
          have hq0 : 0 < q := by
            rcases Nat.eq_zero_or_pos q with h0 | h0
            · have := HP0.out h0; omega
            · exact h0
          have kp := HPr.out hq0
          obtain ⟨r, rfl⟩ : ∃ r, q = r + 1 := ⟨q - 1, by omega⟩
          simp only [Nat.add_sub_cancel] at kp
          have hg0 : (((r + 1 : Nat) : Int) > 0) := by omega
          have hsub : IntKind.i64.wrap (((r + 1 : Nat) : Int) - 1) = (r : Int) := by rw [IntKind.wrap_i64]; omega
          go_upto_region 11 with ((go_at_call 42; (with_reducible refine (Within_is _ _ _ _ HA.out _).mono ?_); rintro e w1 ⟨rfl, rfl⟩))
          go_quiet (fail)
          go_wp2
          go_ret2
          exact ⟨by rw [E.out.1, E.out.2] <;> rfl, by exact (((Gr.refl _).alloc _).trans hG.out).trans (by repeat (first | (with_reducible exact Gr.refl _) | (with_reducible assumption) | (with_reducible refine Gr.alloc ?_ _) | (with_reducible refine Gr.drew ?_) | (with_reducible refine Gr.drewN ?_ _) | (with_reducible refine Gr.setCell ?_ (by simp <;> omega) _) | (with_reducible refine Gr.trans ?_ (by with_reducible assumption)) | exact Gr.refl _ | assumption | refine Gr.alloc ?_ _ | refine Gr.drew ?_ | refine Gr.drewN ?_ _ | refine Gr.setCell ?_ (by simp <;> omega) _ | refine Gr.trans ?_ (by assumption)))⟩
        have hB' : decide (m ≤ p) = false := by simpa using hB
        have hBi : p < m := by omega
        rcases Bool.eq_false_or_eq_true ((x.size : Int) % 32 != 0) with hC | hC
        · have E := Lib.hid (HBAD.out 18 (by omega) (by simp only [sgE, hA, if_neg hB, hC]; rfl))
          rcases Nat.eq_zero_or_pos q with hq0 | hq0
          · subst hq0
            simp only [Nat.zero_mul, Nat.add_zero] at k0 k1
            go_upto_region 11 with ((go_at_call 42; (with_reducible refine (Within_is _ _ _ _ HA.out _).mono ?_); rintro e w1 ⟨rfl, rfl⟩))
            go_quiet (fail)
            go_wp2
            go_ret2
            exact ⟨by rw [E.out.1, E.out.2] <;> rfl, by exact (((Gr.refl _).alloc _).trans hG.out).trans (by repeat (first | (with_reducible exact Gr.refl _) | (with_reducible assumption) | (with_reducible refine Gr.alloc ?_ _) | (with_reducible refine Gr.drew ?_) | (with_reducible refine Gr.drewN ?_ _) | (with_reducible refine Gr.setCell ?_ (by simp <;> omega) _) | (with_reducible refine Gr.trans ?_ (by with_reducible assumption)) | exact Gr.refl _ | assumption | refine Gr.alloc ?_ _ | refine Gr.drew ?_ | refine Gr.drewN ?_ _ | refine Gr.setCell ?_ (by simp <;> omega) _ | refine Gr.trans ?_ (by assumption)))⟩
          · have kp := HPr.out hq0
            obtain ⟨r, rfl⟩ : ∃ r, q = r + 1 := ⟨q - 1, by omega⟩
            simp only [Nat.add_sub_cancel] at kp
            have hsub : IntKind.i64.wrap (((r + 1 : Nat) : Int) - 1) = (r : Int) := by rw [IntKind.wrap_i64]; omega
            have hg0 : (((r + 1 : Nat) : Int) > 0) := by omega
            go_upto_region 11 with ((go_at_call 42; (with_reducible refine (Within_is _ _ _ _ HA.out _).mono ?_); rintro e w1 ⟨rfl, rfl⟩))
            go_quiet (fail)
            go_wp2
            go_ret2
            exact ⟨by rw [E.out.1, E.out.2] <;> rfl, by exact (((Gr.refl _).alloc _).trans hG.out).trans (by repeat (first | (with_reducible exact Gr.refl _) | (with_reducible assumption) | (with_reducible refine Gr.alloc ?_ _) | (with_reducible refine Gr.drew ?_) | (with_reducible refine Gr.drewN ?_ _) | (with_reducible refine Gr.setCell ?_ (by simp <;> omega) _) | (with_reducible refine Gr.trans ?_ (by with_reducible assumption)) | exact Gr.refl _ | assumption | refine Gr.alloc ?_ _ | refine Gr.drew ?_ | refine Gr.drewN ?_ _ | refine Gr.setCell ?_ (by simp <;> omega) _ | refine Gr.trans ?_ (by assumption)))⟩
        rcases Bool.eq_false_or_eq_true (wiB (pgs x) 1 8) with hD | hD
        rotate_left
        · have E := Lib.hid (HBAD.out 18 (by omega) (by simp only [sgE, hA, if_neg hB, hC, hD]; rfl))
          have HD := Lib.hid hD
          rcases Nat.eq_zero_or_pos q with hq0 | hq0
          · subst hq0
            simp only [Nat.zero_mul, Nat.add_zero] at k0 k1
            go_upto_region 11 with ((go_at_call 42; (with_reducible refine (Within_is _ _ _ _ HA.out _).mono ?_); rintro e w1 ⟨rfl, rfl⟩))
            go_quiet (fail)
            go_wp2_with (first | (go_at_call 42; (with_reducible refine (Within_is _ _ _ _ HD.out _).mono ?_); rintro e w1 ⟨rfl, rfl⟩) | (go_at_call 46; (with_reducible refine (Pages_any _ hx _).mono ?_); rintro e w1 ⟨rfl, hb⟩; obtain ⟨hc, hf⟩ := gcells hb (wr.heap.size + 1) (by first | (simp; done) | (simp; omega)); have hy : wr.heap.size + 1 ≤ w1.heap.size := (by have h := hb.size; (try simp at h); omega); have hy0 : wr.heap.size < w1.heap.size := (by omega); have hy1 : w.heap.size < wr.heap.size + 1 := (by omega); have hy2 : w.heap.size < w1.heap.size := (by omega)))
            go_ret2
            exact ⟨by rw [E.out.1, E.out.2] <;> rfl, by exact (((Gr.refl _).alloc _).trans hG.out).trans (by repeat (first | (with_reducible exact Gr.refl _) | (with_reducible assumption) | (with_reducible refine Gr.alloc ?_ _) | (with_reducible refine Gr.drew ?_) | (with_reducible refine Gr.drewN ?_ _) | (with_reducible refine Gr.setCell ?_ (by simp <;> omega) _) | (with_reducible refine Gr.trans ?_ (by with_reducible assumption)) | exact Gr.refl _ | assumption | refine Gr.alloc ?_ _ | refine Gr.drew ?_ | refine Gr.drewN ?_ _ | refine Gr.setCell ?_ (by simp <;> omega) _ | refine Gr.trans ?_ (by assumption)))⟩
          · have kp := HPr.out hq0
            obtain ⟨r, rfl⟩ : ∃ r, q = r + 1 := ⟨q - 1, by omega⟩
            simp only [Nat.add_sub_cancel] at kp
            have hsub : IntKind.i64.wrap (((r + 1 : Nat) : Int) - 1) = (r : Int) := by rw [IntKind.wrap_i64]; omega
            have hg0 : (((r + 1 : Nat) : Int) > 0) := by omega
            go_upto_region 11 with ((go_at_call 42; (with_reducible refine (Within_is _ _ _ _ HA.out _).mono ?_); rintro e w1 ⟨rfl, rfl⟩))
            go_quiet (fail)
            go_wp2_with (first | (go_at_call 42; (with_reducible refine (Within_is _ _ _ _ HD.out _).mono ?_); rintro e w1 ⟨rfl, rfl⟩) | (go_at_call 46; (with_reducible refine (Pages_any _ hx _).mono ?_); rintro e w1 ⟨rfl, hb⟩; obtain ⟨hc, hf⟩ := gcells hb (wr.heap.size + 1) (by first | (simp; done) | (simp; omega)); have hy : wr.heap.size + 1 ≤ w1.heap.size := (by have h := hb.size; (try simp at h); omega); have hy0 : wr.heap.size < w1.heap.size := (by omega); have hy1 : w.heap.size < wr.heap.size + 1 := (by omega); have hy2 : w.heap.size < w1.heap.size := (by omega)))
            go_ret2
            exact ⟨by rw [E.out.1, E.out.2] <;> rfl, by exact (((Gr.refl _).alloc _).trans hG.out).trans (by repeat (first | (with_reducible exact Gr.refl _) | (with_reducible assumption) | (with_reducible refine Gr.alloc ?_ _) | (with_reducible refine Gr.drew ?_) | (with_reducible refine Gr.drewN ?_ _) | (with_reducible refine Gr.setCell ?_ (by simp <;> omega) _) | (with_reducible refine Gr.trans ?_ (by with_reducible assumption)) | exact Gr.refl _ | assumption | refine Gr.alloc ?_ _ | refine Gr.drew ?_ | refine Gr.drewN ?_ _ | refine Gr.setCell ?_ (by simp <;> omega) _ | refine Gr.trans ?_ (by assumption)))⟩
        · have F := Lib.hid (show badG nx gs q = false by unfold badG; rw [HE'.out]; simp only [sgE, hA, if_neg hB, hC, hD]; rfl)
          have HD := Lib.hid hD
          rcases Nat.eq_zero_or_pos q with hq0 | hq0
          · subst hq0
            simp only [Nat.zero_mul, Nat.add_zero] at k0 k1
            go_upto_region 11 with ((go_at_call 42; (with_reducible refine (Within_is _ _ _ _ HA.out _).mono ?_); rintro e w1 ⟨rfl, rfl⟩))
            go_quiet (fail)
            go_wp2_with (first | (go_at_call 42; (with_reducible refine (Within_is _ _ _ _ HD.out _).mono ?_); rintro e w1 ⟨rfl, rfl⟩) | (go_at_call 46; (with_reducible refine (Pages_any _ hx _).mono ?_); rintro e w1 ⟨rfl, hb⟩; obtain ⟨hc, hf⟩ := gcells hb (wr.heap.size + 1) (by first | (simp; done) | (simp; omega)); have hy : wr.heap.size + 1 ≤ w1.heap.size := (by have h := hb.size; (try simp at h); omega); have hy0 : wr.heap.size < w1.heap.size := (by omega); have hy1 : w.heap.size < wr.heap.size + 1 := (by omega); have hy2 : w.heap.size < w1.heap.size := (by omega)))
            go_roundw
            case rel => exact ⟨0 + 1, by omega, by go_num, by show _ = _; rw [← fB_no hlt F.out]; exact hF.out, Lib.hid (by exact hG.out.trans (by repeat (first | (with_reducible exact Gr.refl _) | (with_reducible assumption) | (with_reducible refine Gr.alloc ?_ _) | (with_reducible refine Gr.drew ?_) | (with_reducible refine Gr.drewN ?_ _) | (with_reducible refine Gr.setCell ?_ (by simp <;> omega) _) | (with_reducible refine Gr.trans ?_ (by with_reducible assumption)) | exact Gr.refl _ | assumption | refine Gr.alloc ?_ _ | refine Gr.drew ?_ | refine Gr.drewN ?_ _ | refine Gr.setCell ?_ (by simp <;> omega) _ | refine Gr.trans ?_ (by assumption))))⟩
            case measure => simp [intOf]; omega
          · have kp := HPr.out hq0
            obtain ⟨r, rfl⟩ : ∃ r, q = r + 1 := ⟨q - 1, by omega⟩
            simp only [Nat.add_sub_cancel] at kp
            have hsub : IntKind.i64.wrap (((r + 1 : Nat) : Int) - 1) = (r : Int) := by rw [IntKind.wrap_i64]; omega
            have hg0 : (((r + 1 : Nat) : Int) > 0) := by omega
            go_upto_region 11 with ((go_at_call 42; (with_reducible refine (Within_is _ _ _ _ HA.out _).mono ?_); rintro e w1 ⟨rfl, rfl⟩))
            go_quiet (fail)
            go_wp2_with (first | (go_at_call 42; (with_reducible refine (Within_is _ _ _ _ HD.out _).mono ?_); rintro e w1 ⟨rfl, rfl⟩) | (go_at_call 46; (with_reducible refine (Pages_any _ hx _).mono ?_); rintro e w1 ⟨rfl, hb⟩; obtain ⟨hc, hf⟩ := gcells hb (wr.heap.size + 1) (by first | (simp; done) | (simp; omega)); have hy : wr.heap.size + 1 ≤ w1.heap.size := (by have h := hb.size; (try simp at h); omega); have hy0 : wr.heap.size < w1.heap.size := (by omega); have hy1 : w.heap.size < wr.heap.size + 1 := (by omega); have hy2 : w.heap.size < w1.heap.size := (by omega)))
            go_roundw
            case rel => exact ⟨r + 1 + 1, by omega, by go_num, by show _ = _; rw [← fB_no hlt F.out]; exact hF.out, Lib.hid (by exact hG.out.trans (by repeat (first | (with_reducible exact Gr.refl _) | (with_reducible assumption) | (with_reducible refine Gr.alloc ?_ _) | (with_reducible refine Gr.drew ?_) | (with_reducible refine Gr.drewN ?_ _) | (with_reducible refine Gr.setCell ?_ (by simp <;> omega) _) | (with_reducible refine Gr.trans ?_ (by with_reducible assumption)) | exact Gr.refl _ | assumption | refine Gr.alloc ?_ _ | refine Gr.drew ?_ | refine Gr.drewN ?_ _ | refine Gr.setCell ?_ (by simp <;> omega) _ | refine Gr.trans ?_ (by assumption))))⟩
            case measure => simp [intOf]; omega
      · have hqn := Lib.hid (show q = n by omega)
        have E := Lib.hid (st_good (nx := nx) HL.out hR (by rw [← hF.out, hqn.out, HN.out]; simp [fB]))
        go_wp2
        go_ret2
        exact ⟨by rw [E.out.1, E.out.2] <;> rfl, ((Gr.refl _).alloc _).trans hG.out⟩
theorem Check_is (A : Option Addr) (n c : Nat) (gs : List (Int × ByteArray)) (nx I E : Int) (hI : stI nx gs = I) (hE : stE nx gs = E) (w : World) (hs : Sv w A n c 2 (sg gs)) (hb : Sh gs) :
    Calls Try.prog 17 #[.agg #[.slice A n c, .int .i64 nx]] w fun e w' => e = .returned (.tuple #[.int .i64 I, .int .i64 E]) ∧ Gr w w' := by
  subst hI hE
  exact Check_any A n c gs nx w hs hb
theorem Err_is (A : Option Addr) (n c : Nat) (gs : List (Int × ByteArray)) (nx E : Int) (hE : stE nx gs = E) (w : World) (hs : Sv w A n c 2 (sg gs)) (hb : Sh gs) :
    Calls Try.prog 39 #[.agg #[.slice A n c, .int .i64 nx]] w fun e w' => e = .returned (.int .i64 E) ∧ Gr w w' := by
  obtain ⟨I, hI⟩ : ∃ I, stI nx gs = I := ⟨_, rfl⟩
  have HC := Lib.hid (fun W hg => Check_is A n c gs nx I E hI hE W (hs.gr hg) hb)
  clear hE hI hs hb
  go_enter Try.func39, Try.ntmps39
  go_wp2_with ((go_at_call 17; (with_reducible refine (HC.out _ (by repeat (first | (with_reducible exact Gr.refl _) | (with_reducible assumption) | (with_reducible refine Gr.alloc ?_ _) | (with_reducible refine Gr.drew ?_) | (with_reducible refine Gr.drewN ?_ _) | (with_reducible refine Gr.setCell ?_ (by simp <;> omega) _) | (with_reducible refine Gr.trans ?_ (by with_reducible assumption)) | exact Gr.refl _ | assumption | refine Gr.alloc ?_ _ | refine Gr.drew ?_ | refine Gr.drewN ?_ _ | refine Gr.setCell ?_ (by simp <;> omega) _ | refine Gr.trans ?_ (by assumption)))).mono ?_); rintro e w1 ⟨rfl, hb⟩; obtain ⟨hc, hf⟩ := gcells hb (w.heap.size + 1) (by first | exact hz | omega | (simp; done) | (simp; omega)); have hz : w.heap.size + 1 ≤ w1.heap.size := (by have h := hb.size; (try simp at h); omega); have hz0 : w.heap.size < w1.heap.size := (by omega)))
  go_ret
  exact ⟨rfl, (by repeat (first | (with_reducible exact Gr.refl _) | (with_reducible assumption) | (with_reducible refine Gr.alloc ?_ _) | (with_reducible refine Gr.drew ?_) | (with_reducible refine Gr.drewN ?_ _) | (with_reducible refine Gr.setCell ?_ (by simp <;> omega) _) | (with_reducible refine Gr.trans ?_ (by with_reducible assumption)) | exact Gr.refl _ | assumption | refine Gr.alloc ?_ _ | refine Gr.drew ?_ | refine Gr.drewN ?_ _ | refine Gr.setCell ?_ (by simp <;> omega) _ | refine Gr.trans ?_ (by assumption)))⟩

set_option maxHeartbeats 2000000 in
set_option maxRecDepth 100000 in
theorem refPageCount_yes (A : Option Addr) (n c : Nat) (gs : List (Int × ByteArray)) (nx : Int) (hE : stE nx gs = 0) (w : World) (hs : Sv w A n c 2 (sg gs)) (hb : Sh gs) :
    Calls Try.prog 18 #[.agg #[.slice A n c, .int .i64 nx]] w fun e w' => e = .returned (.int .i64 (pcS gs n)) ∧ Gr w w' := by
  have hm := hs.max
  have HE := Lib.hid hE
  have HN := Lib.hid hs.segs
  have HB := Lib.hid hb
  have HS := Lib.hid hs
  have hn10 : n ≤ 10 := by have := (st_right hE).1; rw [hs.segs] at this; exact this
  clear hE hb
  rcases Nat.eq_zero_or_pos n with hn | hn
  · subst hn
    clear hs
    go_enter Try.func18, Try.ntmps18
    go_wp2
    go_loop [3, 4] (fun b i => b = .int .i64 0 ∧ i = .int .i64 0) (fun _ _ => 0)
    case atStart => exact ⟨rfl, rfl⟩
    case round =>
      obtain ⟨rfl, rfl⟩ := hrel
      go_wp2
      go_ret
      exact ⟨rfl, (by repeat (first | (with_reducible exact Gr.refl _) | (with_reducible assumption) | (with_reducible refine Gr.alloc ?_ _) | (with_reducible refine Gr.drew ?_) | (with_reducible refine Gr.drewN ?_ _) | (with_reducible refine Gr.setCell ?_ (by simp <;> omega) _) | (with_reducible refine Gr.trans ?_ (by with_reducible assumption)) | exact Gr.refl _ | assumption | refine Gr.alloc ?_ _ | refine Gr.drew ?_ | refine Gr.drewN ?_ _ | refine Gr.setCell ?_ (by simp <;> omega) _ | refine Gr.trans ?_ (by assumption)))⟩
  · obtain ⟨b, o, rfl, hb, -⟩ := hs.at_ hn
    clear hs
    go_enter Try.func18, Try.ntmps18
    go_wp2
    go_loopw [3, 4] (fun s i wr => ∃ q : Nat, q ≤ n ∧ i = .int .i64 q ∧ s = .int .i64 (pcS gs q) ∧ Hid (Gr (w.alloc (.cells #[.slice (some ⟨b, o, none⟩) n c, .int .i64 nx] 24)) wr)) (fun _ i _ => n - (intOf i).toNat)
    case atStart => exact ⟨0, Nat.zero_le _, rfl, rfl, Gr.refl _⟩
    case round =>
      obtain ⟨q, hq, rfl, rfl, hG⟩ := hrel
      have c0 := hG.out.keep (p := ⟨w.heap.size, 0, none⟩) (v := .slice (some ⟨b, o, none⟩) n c) (by simp)
      have hz0 : w.heap.size < wr.heap.size := World.block_lt_of_cell? wr _ c0
      by_cases hlt : q < n
      · obtain ⟨k0, k1⟩ := (HS.out.gr (((Gr.refl w).alloc _).trans hG.out)).seg hlt
        have hx := HB.out q (by rw [HN.out]; exact hlt)
        have hbd := pcS_bd HE.out q (by rw [HN.out]; omega)
        have hbd2 := pcS_bd HE.out (q + 1) (by rw [HN.out]; omega)
        have HR := Lib.hid (show pcS gs (q + 1) = pcS gs q + pgs (byG gs q) from rfl)
        rw [HR.out] at hbd2
        generalize nuG gs q = m at *
        generalize byG gs q = x at *
        generalize pcS gs q = s at *
        have hPg := fun W => Pages_any x hx W
        generalize pgs x = p at *
        have HPG := Lib.hid hPg
        clear hPg hx
        have hsum : IntKind.i64.wrap (s + p) = s + p := IntWalk.i64_in _ (by omega)
        go_wp2_with ((go_at_call 46; (with_reducible refine (HPG.out _).mono ?_); rintro e w2 ⟨rfl, w2h⟩; obtain ⟨w2c, w2f⟩ := w2h.cells; have w2s := w2h.size; (try simp at w2s); have w2z : w.heap.size < w2.heap.size := (by omega)))
        go_roundw
        case rel => exact ⟨q + 1, by omega, by go_num, by rw [HR.out], Lib.hid (by exact hG.out.trans (by repeat (first | (with_reducible exact Gr.refl _) | (with_reducible assumption) | (with_reducible refine Gr.alloc ?_ _) | (with_reducible refine Gr.drew ?_) | (with_reducible refine Gr.drewN ?_ _) | (with_reducible refine Gr.setCell ?_ (by simp <;> omega) _) | (with_reducible refine Gr.trans ?_ (by with_reducible assumption)) | exact Gr.refl _ | assumption | refine Gr.alloc ?_ _ | refine Gr.drew ?_ | refine Gr.drewN ?_ _ | refine Gr.setCell ?_ (by simp <;> omega) _ | refine Gr.trans ?_ (by assumption))))⟩
        case measure => simp [intOf]; omega
      · have hqn := Lib.hid (show q = n by omega)
        go_wp2
        go_ret
        exact ⟨by rw [hqn.out] <;> rfl, ((Gr.refl _).alloc _).trans hG.out⟩

/-- Place: the index or -1. -/
def plI (gs : List (Int × ByteArray)) (k : Int) : Int := if fI gs k < gs.length then fI gs k else -1
theorem pl_yes {k : Int} {gs : List (Int × ByteArray)} {q : Nat} (hq : q < gs.length) (h : fI gs k = q) : plI gs k = q := by
  rw [plI, if_pos (by omega), h]
theorem pl_no {k : Int} {gs : List (Int × ByteArray)} (h : fI gs k = gs.length) : plI gs k = -1 := by
  rw [plI, if_neg (by omega)]

set_option maxHeartbeats 2000000 in
set_option maxRecDepth 100000 in
theorem Place_any (A : Option Addr) (n c : Nat) (gs : List (Int × ByteArray)) (nx k : Int) (w : World) (hs : Sv w A n c 2 (sg gs)) :
    Calls Try.prog 62 #[.agg #[.slice A n c, .int .i64 nx], .int .i64 k] w fun e w' => e = .returned (.int .i64 (plI gs k)) ∧ Gr w w' := by
  have hm := hs.max
  have HN := Lib.hid hs.segs
  have HS := Lib.hid hs
  rcases Nat.eq_zero_or_pos n with hn | hn
  · subst hn
    clear hs
    have E := Lib.hid (pl_no (k := k) (gs := gs) (by unfold fI; rw [HN.out]; rfl))
    go_enter Try.func62, Try.ntmps62
    go_wp2
    go_loop [5] (fun i => i = .int .i64 0) (fun _ => 0)
    case atStart => rfl
    case round =>
      subst hrel
      go_wp2
      go_ret
      exact ⟨by rw [E.out] <;> rfl, (by repeat (first | (with_reducible exact Gr.refl _) | (with_reducible assumption) | (with_reducible refine Gr.alloc ?_ _) | (with_reducible refine Gr.drew ?_) | (with_reducible refine Gr.drewN ?_ _) | (with_reducible refine Gr.setCell ?_ (by simp <;> omega) _) | (with_reducible refine Gr.trans ?_ (by with_reducible assumption)) | exact Gr.refl _ | assumption | refine Gr.alloc ?_ _ | refine Gr.drew ?_ | refine Gr.drewN ?_ _ | refine Gr.setCell ?_ (by simp <;> omega) _ | refine Gr.trans ?_ (by assumption)))⟩
  · obtain ⟨b, o, rfl, hb, -⟩ := hs.at_ hn
    clear hs
    go_enter Try.func62, Try.ntmps62
    go_wp2
    go_loopw [5] (fun i wr => ∃ q : Nat, q ≤ n ∧ i = .int .i64 q ∧ Hid (fB (eqG gs k) (n - q) q = fI gs k) ∧ Hid (Gr (w.alloc (.cells #[.slice (some ⟨b, o, none⟩) n c, .int .i64 nx] 24)) wr)) (fun i _ => n - (intOf i).toNat)
    case atStart => exact ⟨0, Nat.zero_le _, rfl, by show _ = _; unfold fI; rw [HN.out]; rfl, Gr.refl _⟩
    case round =>
      obtain ⟨q, hq, rfl, hF, hG⟩ := hrel
      have c0 := hG.out.keep (p := ⟨w.heap.size, 0, none⟩) (v := .slice (some ⟨b, o, none⟩) n c) (by simp)
      have hz0 : w.heap.size < wr.heap.size := World.block_lt_of_cell? wr _ c0
      by_cases hlt : q < n
      · obtain ⟨k0, k1⟩ := (HS.out.gr (((Gr.refl w).alloc _).trans hG.out)).seg hlt
        rcases Bool.eq_false_or_eq_true (eqG gs k q) with he | he
        · have E := Lib.hid (pl_yes (k := k) (by rw [HN.out]; exact hlt) (by rw [← hF.out]; exact fB_yes (by omega) he))
          have he' : (nuG gs q == k) = true := he
          clear he
          generalize nuG gs q = m at *
          generalize byG gs q = x at *
          go_wp2
          go_ret
          exact ⟨by rw [E.out] <;> rfl, ((((Gr.refl _).alloc _).trans hG.out).trans (by repeat (first | (with_reducible exact Gr.refl _) | (with_reducible assumption) | (with_reducible refine Gr.alloc ?_ _) | (with_reducible refine Gr.drew ?_) | (with_reducible refine Gr.drewN ?_ _) | (with_reducible refine Gr.setCell ?_ (by simp <;> omega) _) | (with_reducible refine Gr.trans ?_ (by with_reducible assumption)) | exact Gr.refl _ | assumption | refine Gr.alloc ?_ _ | refine Gr.drew ?_ | refine Gr.drewN ?_ _ | refine Gr.setCell ?_ (by simp <;> omega) _ | refine Gr.trans ?_ (by assumption))))⟩
        · have F := Lib.hid he
          have he' : (nuG gs q == k) = false := he
          clear he
          generalize nuG gs q = m at *
          generalize byG gs q = x at *
          go_wp2
          go_roundw
          case rel => exact ⟨q + 1, by omega, by go_num, by show _ = _; rw [← fB_no hlt F.out]; exact hF.out, Lib.hid (by exact hG.out.trans (by repeat (first | (with_reducible exact Gr.refl _) | (with_reducible assumption) | (with_reducible refine Gr.alloc ?_ _) | (with_reducible refine Gr.drew ?_) | (with_reducible refine Gr.drewN ?_ _) | (with_reducible refine Gr.setCell ?_ (by simp <;> omega) _) | (with_reducible refine Gr.trans ?_ (by with_reducible assumption)) | exact Gr.refl _ | assumption | refine Gr.alloc ?_ _ | refine Gr.drew ?_ | refine Gr.drewN ?_ _ | refine Gr.setCell ?_ (by simp <;> omega) _ | refine Gr.trans ?_ (by assumption))))⟩
          case measure => simp [intOf]; omega
      · have hqn := Lib.hid (show q = n by omega)
        have E := Lib.hid (pl_no (k := k) (gs := gs) (by rw [← hF.out, hqn.out, HN.out]; simp [fB]))
        go_wp2
        go_ret
        exact ⟨by rw [E.out] <;> rfl, ((Gr.refl _).alloc _).trans hG.out⟩
theorem Place_is (A : Option Addr) (n c : Nat) (gs : List (Int × ByteArray)) (nx k p : Int) (hp : plI gs k = p) (w : World) (hs : Sv w A n c 2 (sg gs)) :
    Calls Try.prog 62 #[.agg #[.slice A n c, .int .i64 nx], .int .i64 k] w fun e w' => e = .returned (.int .i64 p) ∧ Gr w w' := by
  subst hp
  exact Place_any A n c gs nx k w hs

set_option maxHeartbeats 2000000 in
theorem NumberErr_any (A : Option Addr) (n c : Nat) (gs : List (Int × ByteArray)) (nx k : Int) (h1 : 1 ≤ nx) (h2 : nx ≤ 1001) (w : World) (hs : Sv w A n c 2 (sg gs)) :
    Calls Try.prog 66 #[.agg #[.slice A n c, .int .i64 nx], .int .i64 k] w fun e w' => e = .returned (.int .i64 (nbE nx gs k)) ∧ Gr w w' := by
  have HS := Lib.hid hs
  clear hs
  by_cases hf : fI gs k < gs.length
  · have hp : plI gs k = (fI gs k : Int) := pl_yes hf rfl
    have E := Lib.hid (nb_yes (nx := nx) hf rfl).1
    have hi : ((fI gs k : Int) != -1) = true := bne_iff_ne.2 (by omega)
    have HP := Lib.hid hp
    clear hp hf
    generalize (fI gs k : Int) = i at *
    go_enter Try.func66, Try.ntmps66
    go_wp2_with ((go_at_call 62; (with_reducible refine (Place_is A n c gs nx k i HP.out _ (HS.out.gr (by repeat (first | (with_reducible exact Gr.refl _) | (with_reducible assumption) | (with_reducible refine Gr.alloc ?_ _) | (with_reducible refine Gr.drew ?_) | (with_reducible refine Gr.drewN ?_ _) | (with_reducible refine Gr.setCell ?_ (by simp <;> omega) _) | (with_reducible refine Gr.trans ?_ (by with_reducible assumption)) | exact Gr.refl _ | assumption | refine Gr.alloc ?_ _ | refine Gr.drew ?_ | refine Gr.drewN ?_ _ | refine Gr.setCell ?_ (by simp <;> omega) _ | refine Gr.trans ?_ (by assumption))))).mono ?_); rintro e w1 ⟨rfl, hb⟩; obtain ⟨hc, hf⟩ := gcells hb (w.heap.size + 1) (by first | exact hz | omega | (simp; done) | (simp; omega)); have hz : w.heap.size + 1 ≤ w1.heap.size := (by have h := hb.size; (try simp at h); omega); have hz0 : w.heap.size < w1.heap.size := (by omega)))
    go_ret
    exact ⟨by rw [E.out] <;> rfl, (by repeat (first | (with_reducible exact Gr.refl _) | (with_reducible assumption) | (with_reducible refine Gr.alloc ?_ _) | (with_reducible refine Gr.drew ?_) | (with_reducible refine Gr.drewN ?_ _) | (with_reducible refine Gr.setCell ?_ (by simp <;> omega) _) | (with_reducible refine Gr.trans ?_ (by with_reducible assumption)) | exact Gr.refl _ | assumption | refine Gr.alloc ?_ _ | refine Gr.drew ?_ | refine Gr.drewN ?_ _ | refine Gr.setCell ?_ (by simp <;> omega) _ | refine Gr.trans ?_ (by assumption)))⟩
  · have hf' : fI gs k = gs.length := by have := (fB_le (eqG gs k) gs.length 0).2; unfold fI at hf ⊢; omega
    have HP := Lib.hid (pl_no hf')
    have E := Lib.hid (nb_no (nx := nx) hf')
    clear hf hf'
    rcases Bool.eq_false_or_eq_true (wiB k 1 (nx - 1)) with hR | hR
    all_goals
      have HR := Lib.hid hR
      go_enter Try.func66, Try.ntmps66
      go_wp2_with (first | (go_at_call 62; (with_reducible refine (Place_is A n c gs nx k (-1) HP.out _ (HS.out.gr (by repeat (first | (with_reducible exact Gr.refl _) | (with_reducible assumption) | (with_reducible refine Gr.alloc ?_ _) | (with_reducible refine Gr.drew ?_) | (with_reducible refine Gr.drewN ?_ _) | (with_reducible refine Gr.setCell ?_ (by simp <;> omega) _) | (with_reducible refine Gr.trans ?_ (by with_reducible assumption)) | exact Gr.refl _ | assumption | refine Gr.alloc ?_ _ | refine Gr.drew ?_ | refine Gr.drewN ?_ _ | refine Gr.setCell ?_ (by simp <;> omega) _ | refine Gr.trans ?_ (by assumption))))).mono ?_); rintro e w1 ⟨rfl, hb⟩; obtain ⟨hc, hf⟩ := gcells hb (w.heap.size + 1) (by first | exact hz | omega | (simp; done) | (simp; omega)); have hz : w.heap.size + 1 ≤ w1.heap.size := (by have h := hb.size; (try simp at h); omega); have hz0 : w.heap.size < w1.heap.size := (by omega)) | (go_at_call 42; (with_reducible refine (Within_is _ _ _ _ HR.out _).mono ?_); rintro e w1 ⟨rfl, rfl⟩))
      go_ret
      exact ⟨by first | (rw [E.out.2.1 hR] <;> rfl) | (rw [E.out.2.2 hR] <;> rfl), (by repeat (first | (with_reducible exact Gr.refl _) | (with_reducible assumption) | (with_reducible refine Gr.alloc ?_ _) | (with_reducible refine Gr.drew ?_) | (with_reducible refine Gr.drewN ?_ _) | (with_reducible refine Gr.setCell ?_ (by simp <;> omega) _) | (with_reducible refine Gr.trans ?_ (by with_reducible assumption)) | exact Gr.refl _ | assumption | refine Gr.alloc ?_ _ | refine Gr.drew ?_ | refine Gr.drewN ?_ _ | refine Gr.setCell ?_ (by simp <;> omega) _ | refine Gr.trans ?_ (by assumption)))⟩
theorem NumberErr_is (A : Option Addr) (n c : Nat) (gs : List (Int × ByteArray)) (nx k E : Int) (h1 : 1 ≤ nx) (h2 : nx ≤ 1001) (hE : nbE nx gs k = E) (w : World) (hs : Sv w A n c 2 (sg gs)) :
    Calls Try.prog 66 #[.agg #[.slice A n c, .int .i64 nx], .int .i64 k] w fun e w' => e = .returned (.int .i64 E) ∧ Gr w w' := by
  subst hE
  exact NumberErr_any A n c gs nx k h1 h2 w hs

theorem known_no (A : Option Addr) (n c : Nat) (gs : List (Int × ByteArray)) (nx k E : Int) (hE : stE nx gs = E) (h0 : E ≠ 0) (w : World) (hs : Sv w A n c 2 (sg gs)) (hb : Sh gs) :
    Calls Try.prog 53 #[.agg #[.slice A n c, .int .i64 nx], .int .i64 k] w fun e w' => e = .returned (.tuple #[.int .i64 (-1), .int .i64 E]) ∧ Gr w w' := by
  have h1 : (E != 0) = true := by simp [h0]
  have HC := Lib.hid (fun W hg => Err_is A n c gs nx E hE W (hs.gr hg) hb)
  clear hE h0 hs hb
  go_enter Try.func53, Try.ntmps53
  go_wp2_with ((go_at_call 39; (with_reducible refine (HC.out _ (by repeat (first | (with_reducible exact Gr.refl _) | (with_reducible assumption) | (with_reducible refine Gr.alloc ?_ _) | (with_reducible refine Gr.drew ?_) | (with_reducible refine Gr.drewN ?_ _) | (with_reducible refine Gr.setCell ?_ (by simp <;> omega) _) | (with_reducible refine Gr.trans ?_ (by with_reducible assumption)) | exact Gr.refl _ | assumption | refine Gr.alloc ?_ _ | refine Gr.drew ?_ | refine Gr.drewN ?_ _ | refine Gr.setCell ?_ (by simp <;> omega) _ | refine Gr.trans ?_ (by assumption)))).mono ?_); rintro e w1 ⟨rfl, hb⟩; obtain ⟨hc, hf⟩ := gcells hb (w.heap.size + 1) (by first | exact hz | omega | (simp; done) | (simp; omega)); have hz : w.heap.size + 1 ≤ w1.heap.size := (by have h := hb.size; (try simp at h); omega); have hz0 : w.heap.size < w1.heap.size := (by omega)))
  go_ret2
  exact ⟨rfl, (by repeat (first | (with_reducible exact Gr.refl _) | (with_reducible assumption) | (with_reducible refine Gr.alloc ?_ _) | (with_reducible refine Gr.drew ?_) | (with_reducible refine Gr.drewN ?_ _) | (with_reducible refine Gr.setCell ?_ (by simp <;> omega) _) | (with_reducible refine Gr.trans ?_ (by with_reducible assumption)) | exact Gr.refl _ | assumption | refine Gr.alloc ?_ _ | refine Gr.drew ?_ | refine Gr.drewN ?_ _ | refine Gr.setCell ?_ (by simp <;> omega) _ | refine Gr.trans ?_ (by assumption)))⟩
set_option maxHeartbeats 2000000 in
theorem known_yes (A : Option Addr) (n c : Nat) (gs : List (Int × ByteArray)) (nx k : Int) (hE : stE nx gs = 0) (w : World) (hs : Sv w A n c 2 (sg gs)) (hb : Sh gs) :
    Calls Try.prog 53 #[.agg #[.slice A n c, .int .i64 nx], .int .i64 k] w fun e w' => e = .returned (.tuple #[.int .i64 (plI gs k), .int .i64 (nbE nx gs k)]) ∧ Gr w w' := by
  have HC := Lib.hid (fun W hg => Err_is A n c gs nx 0 hE W (hs.gr hg) hb)
  have h1 := (st_right hE).2.1
  have h2 := (st_right hE).2.2.1
  have HS := Lib.hid hs
  clear hE hs hb
  obtain ⟨p, hp⟩ : ∃ p, plI gs k = p := ⟨_, rfl⟩
  obtain ⟨E, hE⟩ : ∃ E, nbE nx gs k = E := ⟨_, rfl⟩
  rw [hp, hE]
  have HP := Lib.hid hp
  have HE := Lib.hid hE
  clear hp hE
  go_enter Try.func53, Try.ntmps53
  go_upto_region 4 with ((go_at_call 39; (with_reducible refine (HC.out _ (by repeat (first | (with_reducible exact Gr.refl _) | (with_reducible assumption) | (with_reducible refine Gr.alloc ?_ _) | (with_reducible refine Gr.drew ?_) | (with_reducible refine Gr.drewN ?_ _) | (with_reducible refine Gr.setCell ?_ (by simp <;> omega) _) | (with_reducible refine Gr.trans ?_ (by with_reducible assumption)) | exact Gr.refl _ | assumption | refine Gr.alloc ?_ _ | refine Gr.drew ?_ | refine Gr.drewN ?_ _ | refine Gr.setCell ?_ (by simp <;> omega) _ | refine Gr.trans ?_ (by assumption)))).mono ?_); rintro e w1 ⟨rfl, hb⟩; obtain ⟨hc, hf⟩ := gcells hb (w.heap.size + 1) (by first | exact hz | omega | (simp; done) | (simp; omega)); have hz : w.heap.size + 1 ≤ w1.heap.size := (by have h := hb.size; (try simp at h); omega); have hz0 : w.heap.size < w1.heap.size := (by omega)))
  have b0 : w1.cell? ⟨w.heap.size, 0, none⟩ = some (.slice A n c) := by simp [go_sem, *]
  have b1 : w1.cell? ⟨w.heap.size, 1, none⟩ = some (.int .i64 nx) := by simp [go_sem, *]
  have G1 := Lib.hid (show Gr w w1 from (by repeat (first | (with_reducible exact Gr.refl _) | (with_reducible assumption) | (with_reducible refine Gr.alloc ?_ _) | (with_reducible refine Gr.drew ?_) | (with_reducible refine Gr.drewN ?_ _) | (with_reducible refine Gr.setCell ?_ (by simp <;> omega) _) | (with_reducible refine Gr.trans ?_ (by with_reducible assumption)) | exact Gr.refl _ | assumption | refine Gr.alloc ?_ _ | refine Gr.drew ?_ | refine Gr.drewN ?_ _ | refine Gr.setCell ?_ (by simp <;> omega) _ | refine Gr.trans ?_ (by assumption))))
  clear hc hf hb hz hz0
  generalize w1 = W1 at *
  go_region_held3 (fun w' => w'.cell? ⟨w.heap.size, 0, none⟩ = some (.slice A n c) ∧ w'.cell? ⟨w.heap.size, 1, none⟩ = some (.int .i64 nx)) (((try go_split_ands); (repeat' apply And.intro) <;> ((try simp only [World.cell?_drew]); first | (with_reducible assumption) | (simp [go_sem]; done) | ((repeat (first | (refine keepFar ?_ (by first | (dsimp only; omega) | (simp; done) | (simp; omega))) | (refine (Gr.alloc (Gr.refl _) _).keep ?_))); (try simp only [World.cell?_drew]); first | (with_reducible assumption) | (refine hb.keep ?_; (try simp only [World.cell?_drew]); first | (with_reducible assumption) | (simp [go_sem]; done) | ((repeat (refine (Gr.alloc (Gr.refl _) _).keep ?_)); (try simp only [World.cell?_drew]); (with_reducible assumption))) | (simp [*, go_sem]; done)))))
    (first
      | (go_at_call 62; (with_reducible refine (Place_is A n c gs nx k p HP.out _ (HS.out.gr (G1.out.trans (by repeat (first | (with_reducible exact Gr.refl _) | (with_reducible assumption) | (with_reducible refine Gr.alloc ?_ _) | (with_reducible refine Gr.drew ?_) | (with_reducible refine Gr.drewN ?_ _) | (with_reducible refine Gr.setCell ?_ (by simp <;> omega) _) | (with_reducible refine Gr.trans ?_ (by with_reducible assumption)) | exact Gr.refl _ | assumption | refine Gr.alloc ?_ _ | refine Gr.drew ?_ | refine Gr.drewN ?_ _ | refine Gr.setCell ?_ (by simp <;> omega) _ | refine Gr.trans ?_ (by assumption)))))).mono ?_); rintro e w2 ⟨rfl, hb⟩)
      | (go_at_call 66; (with_reducible refine (NumberErr_is A n c gs nx k E h1 h2 HE.out _ (HS.out.gr (G1.out.trans (by repeat (first | (with_reducible exact Gr.refl _) | (with_reducible assumption) | (with_reducible refine Gr.alloc ?_ _) | (with_reducible refine Gr.drew ?_) | (with_reducible refine Gr.drewN ?_ _) | (with_reducible refine Gr.setCell ?_ (by simp <;> omega) _) | (with_reducible refine Gr.trans ?_ (by with_reducible assumption)) | exact Gr.refl _ | assumption | refine Gr.alloc ?_ _ | refine Gr.drew ?_ | refine Gr.drewN ?_ _ | refine Gr.setCell ?_ (by simp <;> omega) _ | refine Gr.trans ?_ (by assumption)))))).mono ?_); rintro e w3 ⟨rfl, hb3⟩; have hb := hb.trans (Gr.trans (by repeat (first | (with_reducible exact Gr.refl _) | (with_reducible assumption) | (with_reducible refine Gr.alloc ?_ _) | (with_reducible refine Gr.drew ?_) | (with_reducible refine Gr.drewN ?_ _) | (with_reducible refine Gr.setCell ?_ (by simp <;> omega) _) | (with_reducible refine Gr.trans ?_ (by with_reducible assumption)) | exact Gr.refl _ | assumption | refine Gr.alloc ?_ _ | refine Gr.drew ?_ | refine Gr.drewN ?_ _ | refine Gr.setCell ?_ (by simp <;> omega) _ | refine Gr.trans ?_ (by assumption))) hb3)))
  all_goals
    go_wp2
    go_ret2
    exact ⟨rfl, G1.out.trans (by repeat (first | (with_reducible exact Gr.refl _) | (with_reducible assumption) | (with_reducible refine Gr.alloc ?_ _) | (with_reducible refine Gr.drew ?_) | (with_reducible refine Gr.drewN ?_ _) | (with_reducible refine Gr.setCell ?_ (by simp <;> omega) _) | (with_reducible refine Gr.trans ?_ (by with_reducible assumption)) | exact Gr.refl _ | assumption | refine Gr.alloc ?_ _ | refine Gr.drew ?_ | refine Gr.drewN ?_ _ | refine Gr.setCell ?_ (by simp <;> omega) _ | refine Gr.trans ?_ (by assumption)))⟩
end Go.Proofs.Ytljminmfldejnaa
