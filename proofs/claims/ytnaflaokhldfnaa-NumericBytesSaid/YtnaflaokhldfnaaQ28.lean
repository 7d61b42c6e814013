/- Texts of the walks, merged. -/
import Derived.Test.YtnaflaokhldfnaaQ17
import Derived.Test.YtnaflaokhldfnaaQ09
import Derived.Test.YtnaflaokhldfnaaQ27
namespace Go.Proofs.Ytnaflaokhldfnaa
set_option linter.unusedSimpArgs false
set_option linter.unusedVariables false
open Go.RowKit

theorem most_pow {l : Int} (h : 0 ≤ l) (Z : Nat) : most l < Z ↔ ¬ ((Z : Int) < 10 ^ l.toNat) := by
  unfold most p10; omega
theorem Small_of {b cc : Bool} {p : Option Addr} {n cap : Nat} {xs : List Int} {w : World} {Z R : Int} (h : Sl w p n cap xs) (hm : n ≤ 18) (hc : Cn xs) (hv : vl xs = Z) (hcc : (b && decide (0 < n)) = cc) (hR : (if b then -Z else Z) = R) :
    Calls Try.prog 71 #[.agg #[.bool cc, .slice p n cap]] w fun e w' => e = .returned (.int .i64 R) ∧ Gr w w' := by
  refine (Small_sl (c := cc) h hm hc.1).mono fun e w' k => ⟨?_, k.2⟩
  rw [k.1, ← hR, ← hcc, hv]
  rcases Nat.eq_zero_or_pos n with e | e
  · have : Z = 0 := by rw [← hv]; exact hc.zero.2 (by rw [h.len]; exact e)
    subst this; cases b <;> simp
  · cases b <;> simp [e]
set_option maxHeartbeats 2000000 in
set_option maxRecDepth 100000 in
theorem Put_any (b : Bool) {p q : Option Addr} {m n c d : Nat} {xs ys : List Int} (k l sc : Int) (half : Bool) (h1 : 1 ≤ l) (h2 : l ≤ 15) (h3 : 0 ≤ sc) (h4 : sc ≤ 15) {w : World} (hx : Sl w p m c xs) (hy : Sl w q n d ys) (cx : Cn xs) (cy : Cn ys) (hV : 0 < vl ys) (hm : m ≤ 100) (hn : n ≤ 100) :
    Calls Try.prog 30 #[.agg #[.bool b, .slice p m c, .slice q n d], .agg #[.int .i64 k, .int .i64 l, .int .i64 sc], .bool half] w fun e w' => e = .returned (.tuple #[.int .i64 (pN b (rq ((vl xs).toNat * 10 ^ sc.toNat) (vl ys).toNat half) l), .int .i64 (pE (rq ((vl xs).toNat * 10 ^ sc.toNat) (vl ys).toNat half) l)]) ∧ Gr w w' := by
  have hW : ∀ wz, Gr w wz → Calls Try.prog 70 #[.agg #[.bool b, .slice p m c, .slice q n d], .int .i64 sc, .bool half] wz (WhR b (rq ((vl xs).toNat * 10 ^ sc.toNat) (vl ys).toNat half : Nat) wz) := fun wz g =>
    Whole_any b half sc.toNat sc (by omega) (by omega) (hx.gr g) (hy.gr g) cx cy hV hm hn
  clear hx hy cx cy hV
  generalize rq ((vl xs).toNat * 10 ^ sc.toNat) (vl ys).toNat half = Z at *
  by_cases hov : (Z : Int) < 10 ^ l.toNat
  · have hN : pN b Z l = if b then -(Z : Int) else Z := by unfold pN; rw [if_neg (by rw [most_pow (by omega)]; simpa using hov)]
    have hE : pE Z l = 0 := by unfold pE; rw [if_neg (by rw [most_pow (by omega)]; simpa using hov)]
    rw [hN, hE]
    have HO := Lib.hid hov
    obtain ⟨R, hR⟩ : ∃ R, (if b then -(Z : Int) else Z) = R := ⟨_, rfl⟩
    rw [hR]
    have HRR := Lib.hid hR
    clear hN hE hov hR
    go_enter Try.func30, Try.ntmps30
    go_wp2_with (first | (go_at_call 70; refine (hW _ (by repeat (first | (with_reducible exact Gr.refl _) | (with_reducible assumption) | (with_reducible refine Gr.alloc ?_ _) | (with_reducible refine Gr.drew ?_) | (with_reducible refine Gr.drewN ?_ _) | (with_reducible refine Gr.setCell ?_ (by simp <;> omega) _) | (with_reducible refine Gr.trans ?_ (by with_reducible assumption)) | exact Gr.refl _ | assumption | refine Gr.alloc ?_ _ | refine Gr.drew ?_ | refine Gr.drewN ?_ _ | refine Gr.setCell ?_ (by simp <;> omega) _ | refine Gr.trans ?_ (by assumption)))).mono ?_; rintro e w3 ⟨r, kk, u, zs, he, s1, c1, v1, hb⟩; generalize hcc : (b && decide (0 < kk)) = cc at he; subst he; have hkl : kk ≤ l.toNat := (by rw [← s1.len]; exact (c1.len_le _).2 (by rw [v1]; exact HO.out)); have hkl' : (kk : Int) ≤ l := (by omega); obtain ⟨hc, hf⟩ := cellsM hb (w.heap.size + 2) (by simp); have hz : w.heap.size + 2 ≤ w3.heap.size := (by have h := Gr.size hb; (try simp at h); omega); have hz0 : w.heap.size < w3.heap.size := (by omega); have hz1 : w.heap.size + 1 < w3.heap.size := (by omega); have HS := Lib.hid (And.intro s1 (And.intro c1 (And.intro v1 hcc))); clear s1 c1 v1 hcc) | (go_at_call 71; refine (Small_of (HS.out.1.gr (by repeat (first | (with_reducible exact Gr.refl _) | (with_reducible assumption) | (with_reducible refine Gr.alloc ?_ _) | (with_reducible refine Gr.drew ?_) | (with_reducible refine Gr.drewN ?_ _) | (with_reducible refine Gr.setCell ?_ (by simp <;> omega) _) | (with_reducible refine Gr.trans ?_ (by with_reducible assumption)) | exact Gr.refl _ | assumption | refine Gr.alloc ?_ _ | refine Gr.drew ?_ | refine Gr.drewN ?_ _ | refine Gr.setCell ?_ (by simp <;> omega) _ | refine Gr.trans ?_ (by assumption)))) (by omega) HS.out.2.1 HS.out.2.2.1 HS.out.2.2.2 HRR.out).mono ?_; rintro e w4 ⟨rfl, hb4⟩))
    exact bodyPost_ret (v := .tuple #[.int .i64 R, .int .i64 0]) (by simp [results, Try.results30, go_sem, *]) rfl ⟨rfl, (by repeat (first | (with_reducible exact Gr.refl _) | (with_reducible assumption) | (with_reducible refine Gr.alloc ?_ _) | (with_reducible refine Gr.drew ?_) | (with_reducible refine Gr.drewN ?_ _) | (with_reducible refine Gr.setCell ?_ (by simp <;> omega) _) | (with_reducible refine Gr.trans ?_ (by with_reducible assumption)) | exact Gr.refl _ | assumption | refine Gr.alloc ?_ _ | refine Gr.drew ?_ | refine Gr.drewN ?_ _ | refine Gr.setCell ?_ (by simp <;> omega) _ | refine Gr.trans ?_ (by assumption)))⟩
  · have hN : pN b Z l = 0 := by unfold pN; rw [if_pos (by rw [most_pow (by omega)]; exact hov)]
    have hE : pE Z l = 19 := by unfold pE; rw [if_pos (by rw [most_pow (by omega)]; exact hov)]
    rw [hN, hE]
    have HO := Lib.hid hov
    clear hN hE hov
    go_enter Try.func30, Try.ntmps30
    go_wp2_with (go_at_call 70; refine (hW _ (by repeat (first | (with_reducible exact Gr.refl _) | (with_reducible assumption) | (with_reducible refine Gr.alloc ?_ _) | (with_reducible refine Gr.drew ?_) | (with_reducible refine Gr.drewN ?_ _) | (with_reducible refine Gr.setCell ?_ (by simp <;> omega) _) | (with_reducible refine Gr.trans ?_ (by with_reducible assumption)) | exact Gr.refl _ | assumption | refine Gr.alloc ?_ _ | refine Gr.drew ?_ | refine Gr.drewN ?_ _ | refine Gr.setCell ?_ (by simp <;> omega) _ | refine Gr.trans ?_ (by assumption)))).mono ?_; rintro e w3 ⟨r, kk, u, zs, he, s1, c1, v1, hb⟩; generalize hcc : (b && decide (0 < kk)) = cc at he; subst he; have hkl : ¬ kk ≤ l.toNat := (by rw [← s1.len]; intro h; exact HO.out (by rw [← v1]; exact (c1.len_le _).1 h)); have hkl' : l < (kk : Int) := (by omega); obtain ⟨hc, hf⟩ := cellsM hb (w.heap.size + 2) (by simp); have hz : w.heap.size + 2 ≤ w3.heap.size := (by have h := Gr.size hb; (try simp at h); omega); have hz0 : w.heap.size < w3.heap.size := (by omega); have hz1 : w.heap.size + 1 < w3.heap.size := (by omega); have HS := Lib.hid (And.intro s1 (And.intro c1 (And.intro v1 hcc))); clear s1 c1 v1 hcc)
    exact bodyPost_ret (v := .tuple #[.int .i64 0, .int .i64 19]) (by simp [results, Try.results30, go_sem, *]) rfl ⟨rfl, (by repeat (first | (with_reducible exact Gr.refl _) | (with_reducible assumption) | (with_reducible refine Gr.alloc ?_ _) | (with_reducible refine Gr.drew ?_) | (with_reducible refine Gr.drewN ?_ _) | (with_reducible refine Gr.setCell ?_ (by simp <;> omega) _) | (with_reducible refine Gr.trans ?_ (by with_reducible assumption)) | exact Gr.refl _ | assumption | refine Gr.alloc ?_ _ | refine Gr.drew ?_ | refine Gr.drewN ?_ _ | refine Gr.setCell ?_ (by simp <;> omega) _ | refine Gr.trans ?_ (by assumption)))⟩

set_option maxRecDepth 100000 in
theorem NumberErr_any (n s : Int) (w : World) :
    Calls Try.prog 12 #[.agg #[.int .i64 n, .int .i64 s]] w fun e w' => e = .returned (.int .i64 (numErr n s)) ∧ Gr w w' := by
  have hr : numErr n s = 3 * countI (!(withinB n (-999999999999999) 999999999999999 && withinB s 0 15)) := by
    unfold numErr
    by_cases h : n < -999999999999999 ∨ 999999999999999 < n ∨ s < 0 ∨ 15 < s
    · rw [if_pos h, show (withinB n (-999999999999999) 999999999999999 && withinB s 0 15) = false by
        rw [Bool.eq_false_iff]; intro e; unfold withinB at e; simp at e; omega]; rfl
    · rw [if_neg h, show (withinB n (-999999999999999) 999999999999999 && withinB s 0 15) = true by
        unfold withinB; simp; omega]; rfl
  rw [hr]
  obtain ⟨b1, e1⟩ : ∃ b, withinB n (-999999999999999) 999999999999999 = b := ⟨_, rfl⟩
  obtain ⟨b2, e2⟩ : ∃ b, withinB s 0 15 = b := ⟨_, rfl⟩
  have w1 := Within_any n (-999999999999999) 999999999999999
  have w2 := Within_any s 0 15
  rw [e1] at w1
  rw [e2] at w2
  rw [e1, e2]
  clear e1 e2 hr
  cases b1 <;> cases b2
  all_goals
    go_enter Try.func12, Try.ntmps12
    go_wp2_with (first | (go_at_call 27; (with_reducible refine (w1 _).mono ?_); rintro e w1 ⟨rfl, rfl⟩) | (go_at_call 27; (with_reducible refine (w2 _).mono ?_); rintro e w1 ⟨rfl, rfl⟩) | (go_at_call 37; refine (Count_any _ _).mono ?_; rintro e w1 ⟨rfl, rfl, hc0, hc1⟩))
    go_ret
    exact ⟨rfl, (by repeat (first | (with_reducible exact Gr.refl _) | (with_reducible assumption) | (with_reducible refine Gr.alloc ?_ _) | (with_reducible refine Gr.drew ?_) | (with_reducible refine Gr.drewN ?_ _) | (with_reducible refine Gr.setCell ?_ (by simp <;> omega) _) | (with_reducible refine Gr.trans ?_ (by with_reducible assumption)) | exact Gr.refl _ | assumption | refine Gr.alloc ?_ _ | refine Gr.drew ?_ | refine Gr.drewN ?_ _ | refine Gr.setCell ?_ (by simp <;> omega) _ | refine Gr.trans ?_ (by assumption)))⟩
/-- The error of a type that must be numeric. -/
def nuErr (k l sc : Int) : Int := if typeErr k l sc ≠ 0 then typeErr k l sc else pick (!isNum k) 17
set_option maxRecDepth 100000 in
theorem numericErr_any (k l sc : Int) (w : World) :
    Calls Try.prog 28 #[.agg #[.int .i64 k, .int .i64 l, .int .i64 sc]] w fun e w' => e = .returned (.int .i64 (nuErr k l sc)) ∧ Gr w w' := by
  obtain ⟨E, hE⟩ : ∃ E, typeErr k l sc = E := ⟨_, rfl⟩
  have hT := TypeErr_any k l sc
  rw [hE] at hT
  unfold nuErr
  rw [hE]
  have hn : pick (!isNum k) 17 = 17 * countI (!withinB k 1 3) := by
    have e : withinB k 1 3 = isNum k := by unfold withinB isNum; rw [Bool.eq_iff_iff]; simp; omega
    rw [e]; unfold pick countI; cases isNum k <;> rfl
  rw [hn]
  obtain ⟨b, hb⟩ : ∃ b, withinB k 1 3 = b := ⟨_, rfl⟩
  have hI := IsNumeric_any k
  rw [hb] at hI ⊢
  clear hn hb hE
  by_cases h : E = 0
  · subst h
    rw [if_neg (by simp)]
    cases b
    all_goals
      go_enter Try.func28, Try.ntmps28
      go_wp2_with (first | (go_at_call 33; refine (hT _).mono ?_; rintro e w1 ⟨rfl, hb⟩; obtain ⟨hc, hf⟩ := hb.cells; have hz : w.heap.size < w1.heap.size := by have h := hb.size; (try simp at h); omega) | (go_at_call 34; refine (hI _).mono ?_; rintro e w1 ⟨rfl, rfl⟩) | (go_at_call 37; refine (Count_any _ _).mono ?_; rintro e w1 ⟨rfl, rfl, hc0, hc1⟩))
      go_ret
      exact ⟨rfl, (by repeat (first | (with_reducible exact Gr.refl _) | (with_reducible assumption) | (with_reducible refine Gr.alloc ?_ _) | (with_reducible refine Gr.drew ?_) | (with_reducible refine Gr.drewN ?_ _) | (with_reducible refine Gr.setCell ?_ (by simp <;> omega) _) | (with_reducible refine Gr.trans ?_ (by with_reducible assumption)) | exact Gr.refl _ | assumption | refine Gr.alloc ?_ _ | refine Gr.drew ?_ | refine Gr.drewN ?_ _ | refine Gr.setCell ?_ (by simp <;> omega) _ | refine Gr.trans ?_ (by assumption)))⟩
  · rw [if_pos h]
    have hb0 : (E != 0) = true := by simp [h]
    clear h
    go_enter Try.func28, Try.ntmps28
    go_wp2_with ((go_at_call 33; refine (hT _).mono ?_; rintro e w1 ⟨rfl, hb⟩; obtain ⟨hc, hf⟩ := hb.cells; have hz : w.heap.size < w1.heap.size := by have h := hb.size; (try simp at h); omega))
    go_ret
    exact ⟨rfl, (by repeat (first | (with_reducible exact Gr.refl _) | (with_reducible assumption) | (with_reducible refine Gr.alloc ?_ _) | (with_reducible refine Gr.drew ?_) | (with_reducible refine Gr.drewN ?_ _) | (with_reducible refine Gr.setCell ?_ (by simp <;> omega) _) | (with_reducible refine Gr.trans ?_ (by with_reducible assumption)) | exact Gr.refl _ | assumption | refine Gr.alloc ?_ _ | refine Gr.drew ?_ | refine Gr.drewN ?_ _ | refine Gr.setCell ?_ (by simp <;> omega) _ | refine Gr.trans ?_ (by assumption)))⟩
end Go.Proofs.Ytnaflaokhldfnaa
namespace Go.Proofs.Ytnaflaokhldfnaa
set_option linter.unusedSimpArgs false
set_option linter.unusedVariables false
open Go.RowKit

set_option maxHeartbeats 2000000 in
set_option maxRecDepth 100000 in
theorem refCalc0 (op n s m t k l sc : Int) (half : Bool)
    (h0 : ∀ w, Calls Try.prog 27 #[.int .i64 op, .int .i64 0, .int .i64 4] w fun e w' => e = .returned (.bool false) ∧ w = w') (w : World) :
    Calls Try.prog 9 #[.agg #[.int .i64 op, .int .i64 k, .int .i64 l, .int .i64 sc, .bool half], .agg #[.int .i64 n, .int .i64 s], .agg #[.int .i64 m, .int .i64 t]] w fun e w' => e = .returned (.tuple #[.agg #[.int .i64 0, .string ⟨#[]⟩], .int .i64 4]) ∧ Gr w w' := by
  go_enter Try.func9, Try.ntmps9
  go_wp2_with (first | (go_at_call 27; (with_reducible refine (h0 _).mono ?_); rintro e w1 ⟨rfl, rfl⟩))
  refine bodyPost_ret (v := .tuple #[.agg #[.int .i64 0, .string ⟨#[]⟩], .int .i64 4]) (by simp [results, Try.results9, go_sem, *]) rfl ⟨rfl, (by repeat (first | (with_reducible exact Gr.refl _) | (with_reducible assumption) | (with_reducible refine Gr.alloc ?_ _) | (with_reducible refine Gr.drew ?_) | (with_reducible refine Gr.drewN ?_ _) | (with_reducible refine Gr.setCell ?_ (by simp <;> omega) _) | (with_reducible refine Gr.trans ?_ (by with_reducible assumption)) | exact Gr.refl _ | assumption | refine Gr.alloc ?_ _ | refine Gr.drew ?_ | refine Gr.drewN ?_ _ | refine Gr.setCell ?_ (by simp <;> omega) _ | refine Gr.trans ?_ (by assumption)))⟩

set_option maxHeartbeats 2000000 in
set_option maxRecDepth 100000 in
theorem refCalc1 (op n s m t k l sc : Int) (half : Bool) (E : Int)
    (h0 : ∀ w, Calls Try.prog 27 #[.int .i64 op, .int .i64 0, .int .i64 4] w fun e w' => e = .returned (.bool true) ∧ w = w')
    (h1 : ∀ w, Calls Try.prog 12 #[.agg #[.int .i64 n, .int .i64 s]] w fun e w' => e = .returned (.int .i64 E) ∧ Gr w w')
    (hE : (E != 0) = true) (w : World) :
    Calls Try.prog 9 #[.agg #[.int .i64 op, .int .i64 k, .int .i64 l, .int .i64 sc, .bool half], .agg #[.int .i64 n, .int .i64 s], .agg #[.int .i64 m, .int .i64 t]] w fun e w' => e = .returned (.tuple #[.agg #[.int .i64 0, .string ⟨#[]⟩], .int .i64 E]) ∧ Gr w w' := by
  go_enter Try.func9, Try.ntmps9
  go_wp2_with (first | (go_at_call 27; (with_reducible refine (h0 _).mono ?_); rintro e w1 ⟨rfl, rfl⟩) | (go_at_call 12; (with_reducible refine (h1 _).mono ?_); rintro e wa ⟨rfl, hb⟩; (obtain ⟨hc, hf⟩ := cellsM hb (w.heap.size + 4) (by first | exact hz | omega | (simp; done) | (simp; omega)); have hz : w.heap.size + 4 ≤ wa.heap.size := (by have h := Gr.size hb; (try simp at h); omega); have hz0 : w.heap.size < wa.heap.size := (by omega); have hz1 : w.heap.size + 1 < wa.heap.size := (by omega)); have hz2 : w.heap.size + 2 < wa.heap.size := (by omega); have hz3 : w.heap.size + 3 < wa.heap.size := (by omega)))
  refine bodyPost_ret (v := .tuple #[.agg #[.int .i64 0, .string ⟨#[]⟩], .int .i64 E]) (by simp [results, Try.results9, go_sem, *]) rfl ⟨rfl, (by repeat (first | (with_reducible exact Gr.refl _) | (with_reducible assumption) | (with_reducible refine Gr.alloc ?_ _) | (with_reducible refine Gr.drew ?_) | (with_reducible refine Gr.drewN ?_ _) | (with_reducible refine Gr.setCell ?_ (by simp <;> omega) _) | (with_reducible refine Gr.trans ?_ (by with_reducible assumption)) | exact Gr.refl _ | assumption | refine Gr.alloc ?_ _ | refine Gr.drew ?_ | refine Gr.drewN ?_ _ | refine Gr.setCell ?_ (by simp <;> omega) _ | refine Gr.trans ?_ (by assumption)))⟩

set_option maxHeartbeats 2000000 in
set_option maxRecDepth 100000 in
theorem refCalc2 (op n s m t k l sc : Int) (half : Bool) (E : Int)
    (h0 : ∀ w, Calls Try.prog 27 #[.int .i64 op, .int .i64 0, .int .i64 4] w fun e w' => e = .returned (.bool true) ∧ w = w')
    (h1 : ∀ w, Calls Try.prog 12 #[.agg #[.int .i64 n, .int .i64 s]] w fun e w' => e = .returned (.int .i64 0) ∧ Gr w w')
    (h2 : ∀ w, Calls Try.prog 12 #[.agg #[.int .i64 m, .int .i64 t]] w fun e w' => e = .returned (.int .i64 E) ∧ Gr w w')
    (hE : (E != 0) = true) (w : World) :
    Calls Try.prog 9 #[.agg #[.int .i64 op, .int .i64 k, .int .i64 l, .int .i64 sc, .bool half], .agg #[.int .i64 n, .int .i64 s], .agg #[.int .i64 m, .int .i64 t]] w fun e w' => e = .returned (.tuple #[.agg #[.int .i64 0, .string ⟨#[]⟩], .int .i64 E]) ∧ Gr w w' := by
  go_enter Try.func9, Try.ntmps9
  go_wp2_with (first | (go_at_call 27; (with_reducible refine (h0 _).mono ?_); rintro e w1 ⟨rfl, rfl⟩) | (go_at_call 12; (with_reducible refine (h1 _).mono ?_); rintro e wa ⟨rfl, hb⟩; (obtain ⟨hc, hf⟩ := cellsM hb (w.heap.size + 4) (by first | exact hz | omega | (simp; done) | (simp; omega)); have hz : w.heap.size + 4 ≤ wa.heap.size := (by have h := Gr.size hb; (try simp at h); omega); have hz0 : w.heap.size < wa.heap.size := (by omega); have hz1 : w.heap.size + 1 < wa.heap.size := (by omega)); have hz2 : w.heap.size + 2 < wa.heap.size := (by omega); have hz3 : w.heap.size + 3 < wa.heap.size := (by omega)) | (go_at_call 12; (with_reducible refine (h2 _).mono ?_); rintro e wb ⟨rfl, hb⟩; (obtain ⟨hc, hf⟩ := cellsM hb (w.heap.size + 4) (by first | exact hz | omega | (simp; done) | (simp; omega)); have hz : w.heap.size + 4 ≤ wb.heap.size := (by have h := Gr.size hb; (try simp at h); omega); have hz0 : w.heap.size < wb.heap.size := (by omega); have hz1 : w.heap.size + 1 < wb.heap.size := (by omega)); have hz2 : w.heap.size + 2 < wb.heap.size := (by omega); have hz3 : w.heap.size + 3 < wb.heap.size := (by omega)))
  refine bodyPost_ret (v := .tuple #[.agg #[.int .i64 0, .string ⟨#[]⟩], .int .i64 E]) (by simp [results, Try.results9, go_sem, *]) rfl ⟨rfl, (by repeat (first | (with_reducible exact Gr.refl _) | (with_reducible assumption) | (with_reducible refine Gr.alloc ?_ _) | (with_reducible refine Gr.drew ?_) | (with_reducible refine Gr.drewN ?_ _) | (with_reducible refine Gr.setCell ?_ (by simp <;> omega) _) | (with_reducible refine Gr.trans ?_ (by with_reducible assumption)) | exact Gr.refl _ | assumption | refine Gr.alloc ?_ _ | refine Gr.drew ?_ | refine Gr.drewN ?_ _ | refine Gr.setCell ?_ (by simp <;> omega) _ | refine Gr.trans ?_ (by assumption)))⟩

set_option maxHeartbeats 2000000 in
set_option maxRecDepth 100000 in
theorem refCalc3 (op n s m t k l sc : Int) (half : Bool) (E : Int)
    (h0 : ∀ w, Calls Try.prog 27 #[.int .i64 op, .int .i64 0, .int .i64 4] w fun e w' => e = .returned (.bool true) ∧ w = w')
    (h1 : ∀ w, Calls Try.prog 12 #[.agg #[.int .i64 n, .int .i64 s]] w fun e w' => e = .returned (.int .i64 0) ∧ Gr w w')
    (h2 : ∀ w, Calls Try.prog 12 #[.agg #[.int .i64 m, .int .i64 t]] w fun e w' => e = .returned (.int .i64 0) ∧ Gr w w')
    (h3 : ∀ w, Calls Try.prog 28 #[.agg #[.int .i64 k, .int .i64 l, .int .i64 sc]] w fun e w' => e = .returned (.int .i64 E) ∧ Gr w w')
    (hE : (E != 0) = true) (w : World) :
    Calls Try.prog 9 #[.agg #[.int .i64 op, .int .i64 k, .int .i64 l, .int .i64 sc, .bool half], .agg #[.int .i64 n, .int .i64 s], .agg #[.int .i64 m, .int .i64 t]] w fun e w' => e = .returned (.tuple #[.agg #[.int .i64 0, .string ⟨#[]⟩], .int .i64 E]) ∧ Gr w w' := by
  go_enter Try.func9, Try.ntmps9
  go_wp2_with (first | (go_at_call 27; (with_reducible refine (h0 _).mono ?_); rintro e w1 ⟨rfl, rfl⟩) | (go_at_call 12; (with_reducible refine (h1 _).mono ?_); rintro e wa ⟨rfl, hb⟩; (obtain ⟨hc, hf⟩ := cellsM hb (w.heap.size + 4) (by first | exact hz | omega | (simp; done) | (simp; omega)); have hz : w.heap.size + 4 ≤ wa.heap.size := (by have h := Gr.size hb; (try simp at h); omega); have hz0 : w.heap.size < wa.heap.size := (by omega); have hz1 : w.heap.size + 1 < wa.heap.size := (by omega)); have hz2 : w.heap.size + 2 < wa.heap.size := (by omega); have hz3 : w.heap.size + 3 < wa.heap.size := (by omega)) | (go_at_call 12; (with_reducible refine (h2 _).mono ?_); rintro e wb ⟨rfl, hb⟩; (obtain ⟨hc, hf⟩ := cellsM hb (w.heap.size + 4) (by first | exact hz | omega | (simp; done) | (simp; omega)); have hz : w.heap.size + 4 ≤ wb.heap.size := (by have h := Gr.size hb; (try simp at h); omega); have hz0 : w.heap.size < wb.heap.size := (by omega); have hz1 : w.heap.size + 1 < wb.heap.size := (by omega)); have hz2 : w.heap.size + 2 < wb.heap.size := (by omega); have hz3 : w.heap.size + 3 < wb.heap.size := (by omega)) | (go_at_call 28; (with_reducible refine (h3 _).mono ?_); rintro e wc ⟨rfl, hb⟩; (obtain ⟨hc, hf⟩ := cellsM hb (w.heap.size + 4) (by first | exact hz | omega | (simp; done) | (simp; omega)); have hz : w.heap.size + 4 ≤ wc.heap.size := (by have h := Gr.size hb; (try simp at h); omega); have hz0 : w.heap.size < wc.heap.size := (by omega); have hz1 : w.heap.size + 1 < wc.heap.size := (by omega)); have hz2 : w.heap.size + 2 < wc.heap.size := (by omega); have hz3 : w.heap.size + 3 < wc.heap.size := (by omega)))
  refine bodyPost_ret (v := .tuple #[.agg #[.int .i64 0, .string ⟨#[]⟩], .int .i64 E]) (by simp [results, Try.results9, go_sem, *]) rfl ⟨rfl, (by repeat (first | (with_reducible exact Gr.refl _) | (with_reducible assumption) | (with_reducible refine Gr.alloc ?_ _) | (with_reducible refine Gr.drew ?_) | (with_reducible refine Gr.drewN ?_ _) | (with_reducible refine Gr.setCell ?_ (by simp <;> omega) _) | (with_reducible refine Gr.trans ?_ (by with_reducible assumption)) | exact Gr.refl _ | assumption | refine Gr.alloc ?_ _ | refine Gr.drew ?_ | refine Gr.drewN ?_ _ | refine Gr.setCell ?_ (by simp <;> omega) _ | refine Gr.trans ?_ (by assumption)))⟩

set_option maxHeartbeats 2000000 in
set_option maxRecDepth 100000 in
theorem refCalc4 (op n s m t k l sc : Int) (half : Bool)
    (h0 : ∀ w, Calls Try.prog 27 #[.int .i64 op, .int .i64 0, .int .i64 4] w fun e w' => e = .returned (.bool true) ∧ w = w')
    (h1 : ∀ w, Calls Try.prog 12 #[.agg #[.int .i64 n, .int .i64 s]] w fun e w' => e = .returned (.int .i64 0) ∧ Gr w w')
    (h2 : ∀ w, Calls Try.prog 12 #[.agg #[.int .i64 m, .int .i64 t]] w fun e w' => e = .returned (.int .i64 0) ∧ Gr w w')
    (h3 : ∀ w, Calls Try.prog 28 #[.agg #[.int .i64 k, .int .i64 l, .int .i64 sc]] w fun e w' => e = .returned (.int .i64 0) ∧ Gr w w')
    (h4 : ∀ w, Calls Try.prog 29 #[.int .i64 op, .agg #[.int .i64 n, .int .i64 s], .agg #[.int .i64 m, .int .i64 t]] w fun e w' => e = .returned (.tuple #[.agg #[.bool false, .slice none 0 0, .slice none 0 0], .int .i64 20]) ∧ Gr w w') (w : World) :
    Calls Try.prog 9 #[.agg #[.int .i64 op, .int .i64 k, .int .i64 l, .int .i64 sc, .bool half], .agg #[.int .i64 n, .int .i64 s], .agg #[.int .i64 m, .int .i64 t]] w fun e w' => e = .returned (.tuple #[.agg #[.int .i64 0, .string ⟨#[]⟩], .int .i64 20]) ∧ Gr w w' := by
  go_enter Try.func9, Try.ntmps9
  go_wp2_with (first | (go_at_call 27; (with_reducible refine (h0 _).mono ?_); rintro e w1 ⟨rfl, rfl⟩) | (go_at_call 12; (with_reducible refine (h1 _).mono ?_); rintro e wa ⟨rfl, hb⟩; (obtain ⟨hc, hf⟩ := cellsM hb (w.heap.size + 4) (by first | exact hz | omega | (simp; done) | (simp; omega)); have hz : w.heap.size + 4 ≤ wa.heap.size := (by have h := Gr.size hb; (try simp at h); omega); have hz0 : w.heap.size < wa.heap.size := (by omega); have hz1 : w.heap.size + 1 < wa.heap.size := (by omega)); have hz2 : w.heap.size + 2 < wa.heap.size := (by omega); have hz3 : w.heap.size + 3 < wa.heap.size := (by omega)) | (go_at_call 12; (with_reducible refine (h2 _).mono ?_); rintro e wb ⟨rfl, hb⟩; (obtain ⟨hc, hf⟩ := cellsM hb (w.heap.size + 4) (by first | exact hz | omega | (simp; done) | (simp; omega)); have hz : w.heap.size + 4 ≤ wb.heap.size := (by have h := Gr.size hb; (try simp at h); omega); have hz0 : w.heap.size < wb.heap.size := (by omega); have hz1 : w.heap.size + 1 < wb.heap.size := (by omega)); have hz2 : w.heap.size + 2 < wb.heap.size := (by omega); have hz3 : w.heap.size + 3 < wb.heap.size := (by omega)) | (go_at_call 28; (with_reducible refine (h3 _).mono ?_); rintro e wc ⟨rfl, hb⟩; (obtain ⟨hc, hf⟩ := cellsM hb (w.heap.size + 4) (by first | exact hz | omega | (simp; done) | (simp; omega)); have hz : w.heap.size + 4 ≤ wc.heap.size := (by have h := Gr.size hb; (try simp at h); omega); have hz0 : w.heap.size < wc.heap.size := (by omega); have hz1 : w.heap.size + 1 < wc.heap.size := (by omega)); have hz2 : w.heap.size + 2 < wc.heap.size := (by omega); have hz3 : w.heap.size + 3 < wc.heap.size := (by omega)) | (go_at_call 29; (with_reducible refine (h4 _).mono ?_); rintro e wd ⟨rfl, hb⟩; (obtain ⟨hc, hf⟩ := cellsM hb (w.heap.size + 4) (by first | exact hz | omega | (simp; done) | (simp; omega)); have hz : w.heap.size + 4 ≤ wd.heap.size := (by have h := Gr.size hb; (try simp at h); omega); have hz0 : w.heap.size < wd.heap.size := (by omega); have hz1 : w.heap.size + 1 < wd.heap.size := (by omega)); have hz2 : w.heap.size + 2 < wd.heap.size := (by omega); have hz3 : w.heap.size + 3 < wd.heap.size := (by omega)))
  refine bodyPost_ret (v := .tuple #[.agg #[.int .i64 0, .string ⟨#[]⟩], .int .i64 20]) (by simp [results, Try.results9, go_sem, *]) rfl ⟨rfl, (by repeat (first | (with_reducible exact Gr.refl _) | (with_reducible assumption) | (with_reducible refine Gr.alloc ?_ _) | (with_reducible refine Gr.drew ?_) | (with_reducible refine Gr.drewN ?_ _) | (with_reducible refine Gr.setCell ?_ (by simp <;> omega) _) | (with_reducible refine Gr.trans ?_ (by with_reducible assumption)) | exact Gr.refl _ | assumption | refine Gr.alloc ?_ _ | refine Gr.drew ?_ | refine Gr.drewN ?_ _ | refine Gr.setCell ?_ (by simp <;> omega) _ | refine Gr.trans ?_ (by assumption)))⟩

set_option maxHeartbeats 2000000 in
set_option maxRecDepth 100000 in
theorem refCalc5 (op n s m t k l sc : Int) (half : Bool) (neg : Bool) (v b N E : Int)
    (h0 : ∀ w, Calls Try.prog 27 #[.int .i64 op, .int .i64 0, .int .i64 4] w fun e w' => e = .returned (.bool true) ∧ w = w')
    (h1 : ∀ w, Calls Try.prog 12 #[.agg #[.int .i64 n, .int .i64 s]] w fun e w' => e = .returned (.int .i64 0) ∧ Gr w w')
    (h2 : ∀ w, Calls Try.prog 12 #[.agg #[.int .i64 m, .int .i64 t]] w fun e w' => e = .returned (.int .i64 0) ∧ Gr w w')
    (h3 : ∀ w, Calls Try.prog 28 #[.agg #[.int .i64 k, .int .i64 l, .int .i64 sc]] w fun e w' => e = .returned (.int .i64 0) ∧ Gr w w')
    (h4 : ∀ w, Calls Try.prog 29 #[.int .i64 op, .agg #[.int .i64 n, .int .i64 s], .agg #[.int .i64 m, .int .i64 t]] w fun e w' => RsR neg v b 0 w e w')
    (hP : ∀ wz p g c q d xs ys j, Sl wz p g c xs → Cn xs → vl xs = v → Sl wz q j d ys → Cn ys → vl ys = b → Calls Try.prog 30 #[.agg #[.bool neg, .slice p g c, .slice q j d], .agg #[.int .i64 k, .int .i64 l, .int .i64 sc], .bool half] wz fun e w' => e = .returned (.tuple #[.int .i64 N, .int .i64 E]) ∧ Gr wz w') (w : World) :
    Calls Try.prog 9 #[.agg #[.int .i64 op, .int .i64 k, .int .i64 l, .int .i64 sc, .bool half], .agg #[.int .i64 n, .int .i64 s], .agg #[.int .i64 m, .int .i64 t]] w fun e w' => e = .returned (.tuple #[.agg #[.int .i64 N, .string ⟨#[]⟩], .int .i64 E]) ∧ Gr w w' := by
  go_enter Try.func9, Try.ntmps9
  go_wp2_with (first | (go_at_call 27; (with_reducible refine (h0 _).mono ?_); rintro e w1 ⟨rfl, rfl⟩) | (go_at_call 12; (with_reducible refine (h1 _).mono ?_); rintro e wa ⟨rfl, hb⟩; (obtain ⟨hc, hf⟩ := cellsM hb (w.heap.size + 4) (by first | exact hz | omega | (simp; done) | (simp; omega)); have hz : w.heap.size + 4 ≤ wa.heap.size := (by have h := Gr.size hb; (try simp at h); omega); have hz0 : w.heap.size < wa.heap.size := (by omega); have hz1 : w.heap.size + 1 < wa.heap.size := (by omega)); have hz2 : w.heap.size + 2 < wa.heap.size := (by omega); have hz3 : w.heap.size + 3 < wa.heap.size := (by omega)) | (go_at_call 12; (with_reducible refine (h2 _).mono ?_); rintro e wb ⟨rfl, hb⟩; (obtain ⟨hc, hf⟩ := cellsM hb (w.heap.size + 4) (by first | exact hz | omega | (simp; done) | (simp; omega)); have hz : w.heap.size + 4 ≤ wb.heap.size := (by have h := Gr.size hb; (try simp at h); omega); have hz0 : w.heap.size < wb.heap.size := (by omega); have hz1 : w.heap.size + 1 < wb.heap.size := (by omega)); have hz2 : w.heap.size + 2 < wb.heap.size := (by omega); have hz3 : w.heap.size + 3 < wb.heap.size := (by omega)) | (go_at_call 28; (with_reducible refine (h3 _).mono ?_); rintro e wc ⟨rfl, hb⟩; (obtain ⟨hc, hf⟩ := cellsM hb (w.heap.size + 4) (by first | exact hz | omega | (simp; done) | (simp; omega)); have hz : w.heap.size + 4 ≤ wc.heap.size := (by have h := Gr.size hb; (try simp at h); omega); have hz0 : w.heap.size < wc.heap.size := (by omega); have hz1 : w.heap.size + 1 < wc.heap.size := (by omega)); have hz2 : w.heap.size + 2 < wc.heap.size := (by omega); have hz3 : w.heap.size + 3 < wc.heap.size := (by omega)) | (go_at_call 29; (with_reducible refine (h4 _).mono ?_); rintro e wd ⟨p, g, c, xs, q, j, d, ys, he, s1, c1, v1, s2, c2, v2, hb⟩; subst he; (obtain ⟨hc, hf⟩ := cellsM hb (w.heap.size + 4) (by first | exact hz | omega | (simp; done) | (simp; omega)); have hz : w.heap.size + 4 ≤ wd.heap.size := (by have h := Gr.size hb; (try simp at h); omega); have hz0 : w.heap.size < wd.heap.size := (by omega); have hz1 : w.heap.size + 1 < wd.heap.size := (by omega)); have hz2 : w.heap.size + 2 < wd.heap.size := (by omega); have hz3 : w.heap.size + 3 < wd.heap.size := (by omega); have HS := Lib.hid (And.intro s1 (And.intro c1 (And.intro v1 (And.intro s2 (And.intro c2 v2))))); clear s1 c1 v1 s2 c2 v2) | (go_at_call 30; refine (hP _ _ _ _ _ _ xs ys _ (HS.out.1.gr (by repeat (first | (with_reducible exact Gr.refl _) | (with_reducible assumption) | (with_reducible refine Gr.alloc ?_ _) | (with_reducible refine Gr.drew ?_) | (with_reducible refine Gr.drewN ?_ _) | (with_reducible refine Gr.setCell ?_ (by simp <;> omega) _) | (with_reducible refine Gr.trans ?_ (by with_reducible assumption)) | exact Gr.refl _ | assumption | refine Gr.alloc ?_ _ | refine Gr.drew ?_ | refine Gr.drewN ?_ _ | refine Gr.setCell ?_ (by simp <;> omega) _ | refine Gr.trans ?_ (by assumption)))) HS.out.2.1 HS.out.2.2.1 (HS.out.2.2.2.1.gr (by repeat (first | (with_reducible exact Gr.refl _) | (with_reducible assumption) | (with_reducible refine Gr.alloc ?_ _) | (with_reducible refine Gr.drew ?_) | (with_reducible refine Gr.drewN ?_ _) | (with_reducible refine Gr.setCell ?_ (by simp <;> omega) _) | (with_reducible refine Gr.trans ?_ (by with_reducible assumption)) | exact Gr.refl _ | assumption | refine Gr.alloc ?_ _ | refine Gr.drew ?_ | refine Gr.drewN ?_ _ | refine Gr.setCell ?_ (by simp <;> omega) _ | refine Gr.trans ?_ (by assumption)))) HS.out.2.2.2.2.1 HS.out.2.2.2.2.2).mono ?_; rintro e we ⟨rfl, hb⟩; (obtain ⟨hc, hf⟩ := cellsM hb (w.heap.size + 4) (by first | exact hz | omega | (simp; done) | (simp; omega)); have hz : w.heap.size + 4 ≤ we.heap.size := (by have h := Gr.size hb; (try simp at h); omega); have hz0 : w.heap.size < we.heap.size := (by omega); have hz1 : w.heap.size + 1 < we.heap.size := (by omega)); have hz2 : w.heap.size + 2 < we.heap.size := (by omega); have hz3 : w.heap.size + 3 < we.heap.size := (by omega)))
  refine bodyPost_ret (v := .tuple #[.agg #[.int .i64 N, .string ⟨#[]⟩], .int .i64 E]) (by simp [results, Try.results9, go_sem, *]) rfl ⟨rfl, (by repeat (first | (with_reducible exact Gr.refl _) | (with_reducible assumption) | (with_reducible refine Gr.alloc ?_ _) | (with_reducible refine Gr.drew ?_) | (with_reducible refine Gr.drewN ?_ _) | (with_reducible refine Gr.setCell ?_ (by simp <;> omega) _) | (with_reducible refine Gr.trans ?_ (by with_reducible assumption)) | exact Gr.refl _ | assumption | refine Gr.alloc ?_ _ | refine Gr.drew ?_ | refine Gr.drewN ?_ _ | refine Gr.setCell ?_ (by simp <;> omega) _ | refine Gr.trans ?_ (by assumption)))⟩

end Go.Proofs.Ytnaflaokhldfnaa
