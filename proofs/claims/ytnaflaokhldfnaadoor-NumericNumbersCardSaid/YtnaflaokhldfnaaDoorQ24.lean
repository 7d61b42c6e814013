/- Texts of the walks, merged. -/
import Derived.Test.YtnaflaokhldfnaaDoorQ23
namespace Go.Proofs.YtnaflaokhldfnaaDoor
set_option linter.unusedSimpArgs false
set_option linter.unusedVariables false
open Go.RowKit

theorem Sum_vals (A B : Bool) {p q : Option Addr} {m n c d : Nat} {xs ys : List Int} {x y v : Int} {cc : Bool} {w : World} (hx : Sl w p m c xs) (hy : Sl w q n d ys) (cx : Cn xs) (cy : Cn ys) (vx : vl xs = x) (vy : vl ys = y) (hm : m ≤ 500) (hn : n ≤ 500)
    (hcc : smB A x B y = cc) (hv : absI (sgv A x + sgv B y) = v) :
    Calls Tryd.prog 54 #[.agg #[.bool A, .slice p m c], .agg #[.bool B, .slice q n d]] w fun e w' => SumR cc v (max m n + 1) w e w' := by
  subst vx vy hcc hv
  exact Sum_any A B hx hy cx cy hm hn

set_option maxHeartbeats 2000000 in
set_option maxRecDepth 100000 in
theorem Order_core (n s m t M : Int) (A B cc : Bool) (x y v R : Int)
    (hAl : ∀ w, Calls Tryd.prog 53 #[.agg #[.int .i64 n, .int .i64 s], .agg #[.int .i64 m, .int .i64 t]] w fun e w' => AlR A x B y M w e w')
    (hcc : smB A x (!B) y = cc) (hv : absI (sgv A x + sgv (!B) y) = v) (hx : x < 10 ^ 60) (hy : y < 10 ^ 60)
    (hR : (v = 0 ∧ R = 0) ∨ (0 < v ∧ cc = true ∧ R = -1) ∨ (0 < v ∧ cc = false ∧ R = 1)) (w : World) :
    Calls Tryd.prog 25 #[.agg #[.int .i64 n, .int .i64 s], .agg #[.int .i64 m, .int .i64 t]] w fun e w' => e = .returned (.int .i64 R) ∧ Gr w w' := by
  have HC := Lib.hid hcc
  have HV := Lib.hid hv
  clear hcc hv
  rcases hR with ⟨h, rfl⟩ | ⟨h, rfl, rfl⟩ | ⟨h, rfl, rfl⟩
  · have H := Lib.hid h
    clear h
    go_enter Tryd.func25, Tryd.ntmps25
    go_wp2_with (first | (go_at_call 53; (with_reducible refine (hAl _).mono ?_); rintro e w1 ⟨p, k, c, xs, q, l, d, ys, he, s1, c1, v1, s3, c3, v3, f1, f3, hb⟩; subst he; have lk : k ≤ 60 := (by rw [← s1.len]; exact (c1.len_le 60).2 (by rw [v1]; omega)); have ll : l ≤ 60 := (by rw [← s3.len]; exact (c3.len_le 60).2 (by rw [v3]; omega)); have H1 := Lib.hid (And.intro s1 (And.intro c1 (And.intro v1 (And.intro s3 (And.intro c3 v3))))); clear s1 c1 v1 s3 c3 v3 f1 f3) | (go_at_call 54; refine (Sum_vals A (!B) (H1.out.1.gr (by repeat (first | (with_reducible exact Gr.refl _) | (with_reducible assumption) | (with_reducible refine Gr.alloc ?_ _) | (with_reducible refine Gr.drew ?_) | (with_reducible refine Gr.drewN ?_ _) | (with_reducible refine Gr.setCell ?_ (by simp <;> omega) _) | (with_reducible refine Gr.trans ?_ (by with_reducible assumption)) | exact Gr.refl _ | assumption | refine Gr.alloc ?_ _ | refine Gr.drew ?_ | refine Gr.drewN ?_ _ | refine Gr.setCell ?_ (by simp <;> omega) _ | refine Gr.trans ?_ (by assumption)))) (H1.out.2.2.2.1.gr (by repeat (first | (with_reducible exact Gr.refl _) | (with_reducible assumption) | (with_reducible refine Gr.alloc ?_ _) | (with_reducible refine Gr.drew ?_) | (with_reducible refine Gr.drewN ?_ _) | (with_reducible refine Gr.setCell ?_ (by simp <;> omega) _) | (with_reducible refine Gr.trans ?_ (by with_reducible assumption)) | exact Gr.refl _ | assumption | refine Gr.alloc ?_ _ | refine Gr.drew ?_ | refine Gr.drewN ?_ _ | refine Gr.setCell ?_ (by simp <;> omega) _ | refine Gr.trans ?_ (by assumption)))) H1.out.2.1 H1.out.2.2.2.2.1 H1.out.2.2.1 H1.out.2.2.2.2.2 (by omega) (by omega) HC.out HV.out).mono ?_; rintro e w2 ⟨r, kk, u, zs, he, s2, c2, v2, f2, l2, hb2⟩; subst he; have k0 : kk = 0 := (by rw [← s2.len]; exact c2.zero.1 (by rw [v2, H.out])); subst k0; clear s2 c2 v2 f2))
    exact bodyPost_ret (v := .int .i64 (0)) (by simp [results, Tryd.results25, go_sem, countI, *]) rfl ⟨rfl, (by repeat (first | (with_reducible exact Gr.refl _) | (with_reducible assumption) | (with_reducible refine Gr.alloc ?_ _) | (with_reducible refine Gr.drew ?_) | (with_reducible refine Gr.drewN ?_ _) | (with_reducible refine Gr.setCell ?_ (by simp <;> omega) _) | (with_reducible refine Gr.trans ?_ (by with_reducible assumption)) | exact Gr.refl _ | assumption | refine Gr.alloc ?_ _ | refine Gr.drew ?_ | refine Gr.drewN ?_ _ | refine Gr.setCell ?_ (by simp <;> omega) _ | refine Gr.trans ?_ (by assumption)))⟩
  · have H := Lib.hid h
    clear h
    go_enter Tryd.func25, Tryd.ntmps25
    go_wp2_with (first | (go_at_call 53; (with_reducible refine (hAl _).mono ?_); rintro e w1 ⟨p, k, c, xs, q, l, d, ys, he, s1, c1, v1, s3, c3, v3, f1, f3, hb⟩; subst he; have lk : k ≤ 60 := (by rw [← s1.len]; exact (c1.len_le 60).2 (by rw [v1]; omega)); have ll : l ≤ 60 := (by rw [← s3.len]; exact (c3.len_le 60).2 (by rw [v3]; omega)); have H1 := Lib.hid (And.intro s1 (And.intro c1 (And.intro v1 (And.intro s3 (And.intro c3 v3))))); clear s1 c1 v1 s3 c3 v3 f1 f3) | (go_at_call 54; refine (Sum_vals A (!B) (H1.out.1.gr (by repeat (first | (with_reducible exact Gr.refl _) | (with_reducible assumption) | (with_reducible refine Gr.alloc ?_ _) | (with_reducible refine Gr.drew ?_) | (with_reducible refine Gr.drewN ?_ _) | (with_reducible refine Gr.setCell ?_ (by simp <;> omega) _) | (with_reducible refine Gr.trans ?_ (by with_reducible assumption)) | exact Gr.refl _ | assumption | refine Gr.alloc ?_ _ | refine Gr.drew ?_ | refine Gr.drewN ?_ _ | refine Gr.setCell ?_ (by simp <;> omega) _ | refine Gr.trans ?_ (by assumption)))) (H1.out.2.2.2.1.gr (by repeat (first | (with_reducible exact Gr.refl _) | (with_reducible assumption) | (with_reducible refine Gr.alloc ?_ _) | (with_reducible refine Gr.drew ?_) | (with_reducible refine Gr.drewN ?_ _) | (with_reducible refine Gr.setCell ?_ (by simp <;> omega) _) | (with_reducible refine Gr.trans ?_ (by with_reducible assumption)) | exact Gr.refl _ | assumption | refine Gr.alloc ?_ _ | refine Gr.drew ?_ | refine Gr.drewN ?_ _ | refine Gr.setCell ?_ (by simp <;> omega) _ | refine Gr.trans ?_ (by assumption)))) H1.out.2.1 H1.out.2.2.2.2.1 H1.out.2.2.1 H1.out.2.2.2.2.2 (by omega) (by omega) HC.out HV.out).mono ?_; rintro e w2 ⟨r, kk, u, zs, he, s2, c2, v2, f2, l2, hb2⟩; subst he; have k0 : 0 < kk := (by rcases Nat.eq_zero_or_pos kk with e0 | e0; have e9 := c2.zero.2 (by rw [s2.len]; exact e0); have e8 := H.out; omega; exact e0); clear s2 c2 v2 f2) | (go_at_call 27; refine (Count_any _ _).mono ?_; rintro e w1 ⟨rfl, rfl, hc0, hc1⟩))
    exact bodyPost_ret (v := .int .i64 (-1)) (by simp [results, Tryd.results25, go_sem, countI, *]) rfl ⟨rfl, (by repeat (first | (with_reducible exact Gr.refl _) | (with_reducible assumption) | (with_reducible refine Gr.alloc ?_ _) | (with_reducible refine Gr.drew ?_) | (with_reducible refine Gr.drewN ?_ _) | (with_reducible refine Gr.setCell ?_ (by simp <;> omega) _) | (with_reducible refine Gr.trans ?_ (by with_reducible assumption)) | exact Gr.refl _ | assumption | refine Gr.alloc ?_ _ | refine Gr.drew ?_ | refine Gr.drewN ?_ _ | refine Gr.setCell ?_ (by simp <;> omega) _ | refine Gr.trans ?_ (by assumption)))⟩
  · have H := Lib.hid h
    clear h
    go_enter Tryd.func25, Tryd.ntmps25
    go_wp2_with (first | (go_at_call 53; (with_reducible refine (hAl _).mono ?_); rintro e w1 ⟨p, k, c, xs, q, l, d, ys, he, s1, c1, v1, s3, c3, v3, f1, f3, hb⟩; subst he; have lk : k ≤ 60 := (by rw [← s1.len]; exact (c1.len_le 60).2 (by rw [v1]; omega)); have ll : l ≤ 60 := (by rw [← s3.len]; exact (c3.len_le 60).2 (by rw [v3]; omega)); have H1 := Lib.hid (And.intro s1 (And.intro c1 (And.intro v1 (And.intro s3 (And.intro c3 v3))))); clear s1 c1 v1 s3 c3 v3 f1 f3) | (go_at_call 54; refine (Sum_vals A (!B) (H1.out.1.gr (by repeat (first | (with_reducible exact Gr.refl _) | (with_reducible assumption) | (with_reducible refine Gr.alloc ?_ _) | (with_reducible refine Gr.drew ?_) | (with_reducible refine Gr.drewN ?_ _) | (with_reducible refine Gr.setCell ?_ (by simp <;> omega) _) | (with_reducible refine Gr.trans ?_ (by with_reducible assumption)) | exact Gr.refl _ | assumption | refine Gr.alloc ?_ _ | refine Gr.drew ?_ | refine Gr.drewN ?_ _ | refine Gr.setCell ?_ (by simp <;> omega) _ | refine Gr.trans ?_ (by assumption)))) (H1.out.2.2.2.1.gr (by repeat (first | (with_reducible exact Gr.refl _) | (with_reducible assumption) | (with_reducible refine Gr.alloc ?_ _) | (with_reducible refine Gr.drew ?_) | (with_reducible refine Gr.drewN ?_ _) | (with_reducible refine Gr.setCell ?_ (by simp <;> omega) _) | (with_reducible refine Gr.trans ?_ (by with_reducible assumption)) | exact Gr.refl _ | assumption | refine Gr.alloc ?_ _ | refine Gr.drew ?_ | refine Gr.drewN ?_ _ | refine Gr.setCell ?_ (by simp <;> omega) _ | refine Gr.trans ?_ (by assumption)))) H1.out.2.1 H1.out.2.2.2.2.1 H1.out.2.2.1 H1.out.2.2.2.2.2 (by omega) (by omega) HC.out HV.out).mono ?_; rintro e w2 ⟨r, kk, u, zs, he, s2, c2, v2, f2, l2, hb2⟩; subst he; have k0 : 0 < kk := (by rcases Nat.eq_zero_or_pos kk with e0 | e0; have e9 := c2.zero.2 (by rw [s2.len]; exact e0); have e8 := H.out; omega; exact e0); clear s2 c2 v2 f2) | (go_at_call 27; refine (Count_any _ _).mono ?_; rintro e w1 ⟨rfl, rfl, hc0, hc1⟩))
    exact bodyPost_ret (v := .int .i64 (1)) (by simp [results, Tryd.results25, go_sem, countI, *]) rfl ⟨rfl, (by repeat (first | (with_reducible exact Gr.refl _) | (with_reducible assumption) | (with_reducible refine Gr.alloc ?_ _) | (with_reducible refine Gr.drew ?_) | (with_reducible refine Gr.drewN ?_ _) | (with_reducible refine Gr.setCell ?_ (by simp <;> omega) _) | (with_reducible refine Gr.trans ?_ (by with_reducible assumption)) | exact Gr.refl _ | assumption | refine Gr.alloc ?_ _ | refine Gr.drew ?_ | refine Gr.drewN ?_ _ | refine Gr.setCell ?_ (by simp <;> omega) _ | refine Gr.trans ?_ (by assumption)))⟩

/-- Equal numbers. -/
theorem Order_equal (n s m t : Int) (hs : 0 ≤ s ∧ s ≤ 50) (ht : 0 ≤ t ∧ t ≤ 50) (h : -1000000000000000000 ≤ n) (h' : n ≤ 1000000000000000000) (k : -1000000000000000000 ≤ m) (k' : m ≤ 1000000000000000000)
    (hst : max s t ≤ 20) (he : n * 10 ^ (max s t - s).toNat = m * 10 ^ (max s t - t).toNat) (w : World) :
    Calls Tryd.prog 25 #[.agg #[.int .i64 n, .int .i64 s], .agg #[.int .i64 m, .int .i64 t]] w fun e w' => e = .returned (.int .i64 0) ∧ Gr w w' := by
  have ha := aligned_any n m s t hs ht h h' k k'
  have pn := ten_pos (max s t - s).toNat
  have pm := ten_pos (max s t - t).toNat
  have bn : (10 : Int) ^ (max s t - s).toNat ≤ 10 ^ 20 := ten_mono (by omega)
  have bm : (10 : Int) ^ (max s t - t).toNat ≤ 10 ^ 20 := ten_mono (by omega)
  have an : 0 ≤ absI n ∧ absI n ≤ 1000000000000000000 := by unfold absI; split <;> omega
  have am : 0 ≤ absI m ∧ absI m ≤ 1000000000000000000 := by unfold absI; split <;> omega
  have e1 : sgv (decide (n < 0)) (absI n * 10 ^ (max s t - s).toNat) = n * 10 ^ (max s t - s).toNat := by
    unfold sgv absI; by_cases g : n < 0 <;> simp [g, Int.neg_mul]
  have e2 : sgv (!decide (m < 0)) (absI m * 10 ^ (max s t - t).toNat) = -(m * 10 ^ (max s t - t).toNat) := by
    unfold sgv absI; by_cases g : m < 0 <;> simp [g, Int.neg_mul]
  have hx : absI n * 10 ^ (max s t - s).toNat < 10 ^ 60 := by
    have : absI n * 10 ^ (max s t - s).toNat ≤ 1000000000000000000 * 10 ^ 20 := Int.mul_le_mul an.2 bn (by omega) (by omega)
    exact Int.lt_of_le_of_lt this (by decide)
  have hy : absI m * 10 ^ (max s t - t).toNat < 10 ^ 60 := by
    have : absI m * 10 ^ (max s t - t).toNat ≤ 1000000000000000000 * 10 ^ 20 := Int.mul_le_mul am.2 bm (by omega) (by omega)
    exact Int.lt_of_le_of_lt this (by decide)
  exact Order_core n s m t _ _ _ _ _ _ 0 0 ha rfl (by rw [e1, e2, he]; unfold absI; split <;> omega) hx hy (.inl ⟨rfl, rfl⟩) w
end Go.Proofs.YtnaflaokhldfnaaDoor
