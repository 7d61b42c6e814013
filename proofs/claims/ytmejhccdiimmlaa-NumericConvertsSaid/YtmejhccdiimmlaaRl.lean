/- The reference's conversions: Put, numericErr, NumberErr, Converted. -/
import Derived.Test.YtmejhccdiimmlaaRk
import Derived.Test.YtmejhccdiimmlaaSn
namespace Go.Proofs.Ytmejhccdiimmlaa
set_option linter.unusedSimpArgs false
set_option linter.unusedVariables false
open Go.RowKit

theorem most_pow {l : Int} (h : 0 ≤ l) (Z : Nat) : most l < Z ↔ ¬ ((Z : Int) < 10 ^ l.toNat) := by
  unfold most p10; omega
theorem Small_of {b cc : Bool} {p : Option Addr} {n cap : Nat} {xs : List Int} {w : World} {Z R : Int} (h : Sl w p n cap xs) (hm : n ≤ 18) (hc : Cn xs) (hv : vl xs = Z) (hcc : (b && decide (0 < n)) = cc) (hR : (if b then -Z else Z) = R) :
    Calls Try.prog 109 #[.agg #[.bool cc, .slice p n cap]] w fun e w' => e = .returned (.int .i64 R) ∧ Gr w w' := by
  refine (Small_sl (c := cc) h hm hc.1).mono fun e w' k => ⟨?_, k.2⟩
  rw [k.1, ← hR, ← hcc, hv]
  rcases Nat.eq_zero_or_pos n with e | e
  · have : Z = 0 := by rw [← hv]; exact hc.zero.2 (by rw [h.len]; exact e)
    subst this; cases b <;> simp
  · cases b <;> simp [e]
set_option maxHeartbeats 2000000 in
set_option maxRecDepth 100000 in
theorem Put_any (b : Bool) {p q : Option Addr} {m n c d : Nat} {xs ys : List Int} (k l sc : Int) (half : Bool) (h1 : 1 ≤ l) (h2 : l ≤ 15) (h3 : 0 ≤ sc) (h4 : sc ≤ 15) {w : World} (hx : Sl w p m c xs) (hy : Sl w q n d ys) (cx : Cn xs) (cy : Cn ys) (hV : 0 < vl ys) (hm : m ≤ 100) (hn : n ≤ 100) :
    Calls Try.prog 68 #[.agg #[.bool b, .slice p m c, .slice q n d], .agg #[.int .i64 k, .int .i64 l, .int .i64 sc], .bool half] w fun e w' => e = .returned (.tuple #[.int .i64 (pN b (rq ((vl xs).toNat * 10 ^ sc.toNat) (vl ys).toNat half) l), .int .i64 (pE (rq ((vl xs).toNat * 10 ^ sc.toNat) (vl ys).toNat half) l)]) ∧ Gr w w' := by
  have hW : ∀ wz, Gr w wz → Calls Try.prog 108 #[.agg #[.bool b, .slice p m c, .slice q n d], .int .i64 sc, .bool half] wz (WhR b (rq ((vl xs).toNat * 10 ^ sc.toNat) (vl ys).toNat half : Nat) wz) := fun wz g =>
    Whole_any b half sc.toNat sc (by omega) (by omega) (hx.gr g) (hy.gr g) cx cy hV hm hn
  clear hx hy cx cy hV
  generalize rq ((vl xs).toNat * 10 ^ sc.toNat) (vl ys).toNat half = Z at *
  by_cases hov : (Z : Int) < 10 ^ l.toNat
  · have hN : pN b Z l = if b then -(Z : Int) else Z := by unfold pN; rw [if_neg (by rw [most_pow (by omega)]; simpa using hov)]
    have hE : pE Z l = 0 := by unfold pE; rw [if_neg (by rw [most_pow (by omega)]; simpa using hov)]
    rw [hN, hE]
    have HO := Lib.hid hov
    obtain ⟨R, hR⟩ : ∃ R, (if b then -(Z : Int) else Z) = R := ⟨_, rfl⟩
    rw [hR]
    have HRR := Lib.hid hR
    clear hN hE hov hR
    go_enter Try.func68, Try.ntmps68
    go_wp2_with (first | (go_at_call 108; refine (hW _ (by repeat (first | exact Gr.refl _ | assumption | refine Gr.alloc ?_ _ | refine Gr.drew ?_ | refine Gr.drewN ?_ _ | refine Gr.setCell ?_ (by simp <;> omega) _ | refine Gr.trans ?_ (by assumption)))).mono ?_; rintro e w3 ⟨r, kk, u, zs, he, s1, c1, v1, hb⟩; generalize hcc : (b && decide (0 < kk)) = cc at he; subst he; have hkl : kk ≤ l.toNat := (by rw [← s1.len]; exact (c1.len_le _).2 (by rw [v1]; exact HO.out)); have hkl' : (kk : Int) ≤ l := (by omega); obtain ⟨hc, hf⟩ := cellsM hb (w.heap.size + 2) (by simp); have hz : w.heap.size + 2 ≤ w3.heap.size := (by have h := Gr.size hb; (try simp at h); omega); have hz0 : w.heap.size < w3.heap.size := (by omega); have hz1 : w.heap.size + 1 < w3.heap.size := (by omega); have HS := Lib.hid (And.intro s1 (And.intro c1 (And.intro v1 hcc))); clear s1 c1 v1 hcc) | (go_at_call 109; refine (Small_of (HS.out.1.gr (by repeat (first | exact Gr.refl _ | assumption | refine Gr.alloc ?_ _ | refine Gr.drew ?_ | refine Gr.drewN ?_ _ | refine Gr.setCell ?_ (by simp <;> omega) _ | refine Gr.trans ?_ (by assumption)))) (by omega) HS.out.2.1 HS.out.2.2.1 HS.out.2.2.2 HRR.out).mono ?_; rintro e w4 ⟨rfl, hb4⟩))
    exact bodyPost_ret (v := .tuple #[.int .i64 R, .int .i64 0]) (by simp [results, Try.results68, go_sem, *]) rfl ⟨rfl, (by repeat (first | exact Gr.refl _ | assumption | refine Gr.alloc ?_ _ | refine Gr.drew ?_ | refine Gr.drewN ?_ _ | refine Gr.setCell ?_ (by simp <;> omega) _ | refine Gr.trans ?_ (by assumption)))⟩
  · have hN : pN b Z l = 0 := by unfold pN; rw [if_pos (by rw [most_pow (by omega)]; exact hov)]
    have hE : pE Z l = 19 := by unfold pE; rw [if_pos (by rw [most_pow (by omega)]; exact hov)]
    rw [hN, hE]
    have HO := Lib.hid hov
    clear hN hE hov
    go_enter Try.func68, Try.ntmps68
    go_wp2_with (go_at_call 108; refine (hW _ (by repeat (first | exact Gr.refl _ | assumption | refine Gr.alloc ?_ _ | refine Gr.drew ?_ | refine Gr.drewN ?_ _ | refine Gr.setCell ?_ (by simp <;> omega) _ | refine Gr.trans ?_ (by assumption)))).mono ?_; rintro e w3 ⟨r, kk, u, zs, he, s1, c1, v1, hb⟩; generalize hcc : (b && decide (0 < kk)) = cc at he; subst he; have hkl : ¬ kk ≤ l.toNat := (by rw [← s1.len]; intro h; exact HO.out (by rw [← v1]; exact (c1.len_le _).1 h)); have hkl' : l < (kk : Int) := (by omega); obtain ⟨hc, hf⟩ := cellsM hb (w.heap.size + 2) (by simp); have hz : w.heap.size + 2 ≤ w3.heap.size := (by have h := Gr.size hb; (try simp at h); omega); have hz0 : w.heap.size < w3.heap.size := (by omega); have hz1 : w.heap.size + 1 < w3.heap.size := (by omega); have HS := Lib.hid (And.intro s1 (And.intro c1 (And.intro v1 hcc))); clear s1 c1 v1 hcc)
    exact bodyPost_ret (v := .tuple #[.int .i64 0, .int .i64 19]) (by simp [results, Try.results68, go_sem, *]) rfl ⟨rfl, (by repeat (first | exact Gr.refl _ | assumption | refine Gr.alloc ?_ _ | refine Gr.drew ?_ | refine Gr.drewN ?_ _ | refine Gr.setCell ?_ (by simp <;> omega) _ | refine Gr.trans ?_ (by assumption)))⟩

set_option maxRecDepth 100000 in
theorem NumberErr_any (n s : Int) (w : World) :
    Calls Try.prog 37 #[.agg #[.int .i64 n, .int .i64 s]] w fun e w' => e = .returned (.int .i64 (numErr n s)) ∧ Gr w w' := by
  have hr : numErr n s = 3 * countI (!(withinB n (-999999999999999) 999999999999999 && withinB s 0 15)) := by
    unfold numErr
    by_cases h : n < -999999999999999 ∨ 999999999999999 < n ∨ s < 0 ∨ 15 < s
    · rw [if_pos h, show (withinB n (-999999999999999) 999999999999999 && withinB s 0 15) = false by
        rw [Bool.eq_false_iff]; intro e; unfold withinB at e; simp at e; omega]; rfl
    · rw [if_neg h, show (withinB n (-999999999999999) 999999999999999 && withinB s 0 15) = true by
        unfold withinB; simp; omega]; rfl
  rw [hr]
  obtain ⟨b1, e1⟩ : ∃ b, withinB n (-999999999999999) 999999999999999 = b := ⟨_, rfl⟩
  obtain ⟨b2, e2⟩ : ∃ b, withinB s 0 15 = b := ⟨_, rfl⟩
  have w1 := Within_any n (-999999999999999) 999999999999999
  have w2 := Within_any s 0 15
  rw [e1] at w1
  rw [e2] at w2
  rw [e1, e2]
  clear e1 e2 hr
  cases b1 <;> cases b2
  all_goals
    go_enter Try.func37, Try.ntmps37
    go_wp2_with (first | (go_at_call 44; with_reducible refine (w1 _).mono ?_; rintro e w1 ⟨rfl, rfl⟩) | (go_at_call 44; with_reducible refine (w2 _).mono ?_; rintro e w1 ⟨rfl, rfl⟩) | (go_at_call 46; refine (Count_any _ _).mono ?_; rintro e w1 ⟨rfl, rfl, hc0, hc1⟩))
    go_ret
    exact ⟨rfl, (by repeat (first | exact Gr.refl _ | assumption | refine Gr.alloc ?_ _ | refine Gr.drew ?_ | refine Gr.drewN ?_ _ | refine Gr.setCell ?_ (by simp <;> omega) _ | refine Gr.trans ?_ (by assumption)))⟩
/-- The error of a type that must be numeric. -/
def nuErr (k l sc : Int) : Int := if typeErr k l sc ≠ 0 then typeErr k l sc else pick (!isNum k) 17
set_option maxRecDepth 100000 in
theorem numericErr_any (k l sc : Int) (w : World) :
    Calls Try.prog 67 #[.agg #[.int .i64 k, .int .i64 l, .int .i64 sc]] w fun e w' => e = .returned (.int .i64 (nuErr k l sc)) ∧ Gr w w' := by
  obtain ⟨E, hE⟩ : ∃ E, typeErr k l sc = E := ⟨_, rfl⟩
  have hT := TypeErr_any k l sc
  rw [hE] at hT
  unfold nuErr
  rw [hE]
  have hn : pick (!isNum k) 17 = 17 * countI (!withinB k 1 3) := by
    have e : withinB k 1 3 = isNum k := by unfold withinB isNum; rw [Bool.eq_iff_iff]; simp; omega
    rw [e]; unfold pick countI; cases isNum k <;> rfl
  rw [hn]
  obtain ⟨b, hb⟩ : ∃ b, withinB k 1 3 = b := ⟨_, rfl⟩
  have hI := IsNumeric_any k
  rw [hb] at hI ⊢
  clear hn hb hE
  by_cases h : E = 0
  · subst h
    rw [if_neg (by simp)]
    cases b
    all_goals
      go_enter Try.func67, Try.ntmps67
      go_wp2_with (first | (go_at_call 17; refine (hT _).mono ?_; rintro e w1 ⟨rfl, hb⟩; obtain ⟨hc, hf⟩ := hb.cells; have hz : w.heap.size < w1.heap.size := by have h := hb.size; (try simp at h); omega) | (go_at_call 45; refine (hI _).mono ?_; rintro e w1 ⟨rfl, rfl⟩) | (go_at_call 46; refine (Count_any _ _).mono ?_; rintro e w1 ⟨rfl, rfl, hc0, hc1⟩))
      go_ret
      exact ⟨rfl, (by repeat (first | exact Gr.refl _ | assumption | refine Gr.alloc ?_ _ | refine Gr.drew ?_ | refine Gr.drewN ?_ _ | refine Gr.setCell ?_ (by simp <;> omega) _ | refine Gr.trans ?_ (by assumption)))⟩
  · rw [if_pos h]
    have hb0 : (E != 0) = true := by simp [h]
    clear h
    go_enter Try.func67, Try.ntmps67
    go_wp2_with ((go_at_call 17; refine (hT _).mono ?_; rintro e w1 ⟨rfl, hb⟩; obtain ⟨hc, hf⟩ := hb.cells; have hz : w.heap.size < w1.heap.size := by have h := hb.size; (try simp at h); omega))
    go_ret
    exact ⟨rfl, (by repeat (first | exact Gr.refl _ | assumption | refine Gr.alloc ?_ _ | refine Gr.drew ?_ | refine Gr.drewN ?_ _ | refine Gr.setCell ?_ (by simp <;> omega) _ | refine Gr.trans ?_ (by assumption)))⟩
end Go.Proofs.Ytmejhccdiimmlaa
