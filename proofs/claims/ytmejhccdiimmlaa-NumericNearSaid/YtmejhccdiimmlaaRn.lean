/- The reference's digit lists: Sum. -/
import Derived.Test.YtmejhccdiimmlaaRk
namespace Go.Proofs.Ytmejhccdiimmlaa
set_option linter.unusedSimpArgs false
set_option linter.unusedVariables false
open Go.RowKit

/-- An amount with its sign. -/
def sgv (b : Bool) (v : Int) : Int := if b then -v else v
/-- The sign of a sum as the reference gives it. -/
def smB (a : Bool) (x : Int) (b : Bool) (y : Int) : Bool := if a = b then a else decide (sgv a x + sgv b y < 0)
/-- A sum is returned. -/
def SumR (cc : Bool) (v : Int) (l : Nat) (w : World) (e : Ending) (w' : World) : Prop :=
  ∃ r k u zs, e = .returned (.agg #[.bool cc, .slice r k u]) ∧ Sl w' r k u zs ∧ Cn zs ∧ vl zs = v ∧ Fr w.heap.size r ∧ k ≤ l ∧ Gr w w'
theorem Sl.set2 {w : World} {p n c xs} {g : Nat} (h : Sl w p n c xs) (x y : Value) (hp : Fr (g + 1) p) : Sl ((w.setCell ⟨g, 0, none⟩ x).setCell ⟨g, 1, none⟩ y) p n c xs := by
  have n1 : ∀ a, p = .some a → a.block ≠ g := fun a e h => by have := hp a e; omega
  exact (h.setCell _ _ n1).setCell _ _ n1

theorem lt_kk {w : World} {r k u zs} {x y : Int} (h : Sl w r k u zs) (hc : Cn zs) (hv : vl zs = x - y) : decide (0 < k) = decide (y < x) := by
  have hz := hc.zero
  have h0 := hc.bd.1
  rw [h.len] at hz
  by_cases g : y < x
  · rw [decide_eq_true g]; exact decide_eq_true (by rcases Nat.eq_zero_or_pos k with e | e; have := hz.2 e; omega; exact e)
  · rw [decide_eq_false g]; exact decide_eq_false (by have := hz.1 (by omega); omega)
theorem pos_kk {w : World} {r k u zs} {x y : Int} (h : Sl w r k u zs) (hc : Cn zs) (hv : vl zs = y - x) (hl : x < y) : decide (0 < k) = true := by
  rw [lt_kk h hc hv]; exact decide_eq_true hl

set_option maxHeartbeats 2000000 in
set_option maxRecDepth 100000 in
theorem Sum_same (A : Bool) {p q : Option Addr} {m n c d : Nat} {xs ys : List Int} {w : World} (hx : Sl w p m c xs) (hy : Sl w q n d ys) (cx : Cn xs) (cy : Cn ys) (hm : m ≤ 500) (hn : n ≤ 500) :
    Calls Try.prog 83 #[.agg #[.bool A, .slice p m c], .agg #[.bool A, .slice q n d]] w (SumR A (vl xs + vl ys) (max m n + 1) w) := by
  have HX := Lib.hid hx
  have HY := Lib.hid hy
  have CX := Lib.hid cx
  have CY := Lib.hid cy
  clear hx hy cx cy
  cases A
  · go_enter Try.func83, Try.ntmps83
    go_wp2
    go_region_held3 (fun w' => w'.cell? ⟨w.heap.size, 0, none⟩ = some (.bool false) ∧ w'.cell? ⟨w.heap.size, 1, none⟩ = some (.slice p m c) ∧ w'.cell? ⟨w.heap.size + 1, 0, none⟩ = some (.bool false) ∧ w'.cell? ⟨w.heap.size + 1, 1, none⟩ = some (.slice q n d)) (first | (go_keep; done) | ((try go_split_ands); (repeat' apply And.intro) <;> ((try simp only [World.cell?_drew]); first | assumption | (refine hb.keep ?_; (try simp only [World.cell?_drew]); first | assumption | (simp [*, go_sem]; done)) | (simp [*, go_sem]; done)))) ((go_at_call 125; refine (plus_sl (HX.out.gr (by repeat (first | exact Gr.refl _ | assumption | refine Gr.alloc ?_ _ | refine Gr.drew ?_ | refine Gr.drewN ?_ _ | refine Gr.setCell ?_ (by simp <;> omega) _ | refine Gr.trans ?_ (by assumption)))) (HY.out.gr (by repeat (first | exact Gr.refl _ | assumption | refine Gr.alloc ?_ _ | refine Gr.drew ?_ | refine Gr.drewN ?_ _ | refine Gr.setCell ?_ (by simp <;> omega) _ | refine Gr.trans ?_ (by assumption)))) CX.out.1 CY.out.1 (by omega) (by omega)).mono ?_; rintro e w3 ⟨r, kk, u, zs, rfl, s1, f1, ⟨v1, d1, c1⟩, l1, hb⟩; have fr1 := f1.mono (show w.heap.size + 3 ≤ _ by first | exact hz | (simp; done) | (simp; omega)); (obtain ⟨hc, hf⟩ := cellsM hb (w.heap.size + 3) (by first | exact hz | omega | (simp; done) | (simp; omega)); have hz : w.heap.size + 3 ≤ w3.heap.size := (by have h := Gr.size hb; (try simp at h); omega); have hz0 : w.heap.size < w3.heap.size := (by omega); have hz1 : w.heap.size + 1 < w3.heap.size := (by omega)); have hz2 : w.heap.size + 2 < w3.heap.size := (by omega); have HS := Lib.hid (And.intro s1 (And.intro fr1 (And.intro v1 (c1 CX.out CY.out)))); clear s1 f1 v1 d1 c1 fr1))
    go_wp2
    exact bodyPost_ret (v := .agg #[.bool false, .slice r kk u]) (by simp [results, Try.results83, go_sem, *]) rfl ⟨r, kk, u, zs, rfl, HS.out.1.set2 _ _ HS.out.2.1, HS.out.2.2.2, HS.out.2.2.1, HS.out.2.1.mono (by omega), l1, (by repeat (first | exact Gr.refl _ | assumption | refine Gr.alloc ?_ _ | refine Gr.drew ?_ | refine Gr.drewN ?_ _ | refine Gr.setCell ?_ (by simp <;> omega) _ | refine Gr.trans ?_ (by assumption)))⟩
  · go_enter Try.func83, Try.ntmps83
    go_wp2
    go_region_held3 (fun w' => w'.cell? ⟨w.heap.size, 0, none⟩ = some (.bool true) ∧ w'.cell? ⟨w.heap.size, 1, none⟩ = some (.slice p m c) ∧ w'.cell? ⟨w.heap.size + 1, 0, none⟩ = some (.bool true) ∧ w'.cell? ⟨w.heap.size + 1, 1, none⟩ = some (.slice q n d)) (first | (go_keep; done) | ((try go_split_ands); (repeat' apply And.intro) <;> ((try simp only [World.cell?_drew]); first | assumption | (refine hb.keep ?_; (try simp only [World.cell?_drew]); first | assumption | (simp [*, go_sem]; done)) | (simp [*, go_sem]; done)))) ((go_at_call 125; refine (plus_sl (HX.out.gr (by repeat (first | exact Gr.refl _ | assumption | refine Gr.alloc ?_ _ | refine Gr.drew ?_ | refine Gr.drewN ?_ _ | refine Gr.setCell ?_ (by simp <;> omega) _ | refine Gr.trans ?_ (by assumption)))) (HY.out.gr (by repeat (first | exact Gr.refl _ | assumption | refine Gr.alloc ?_ _ | refine Gr.drew ?_ | refine Gr.drewN ?_ _ | refine Gr.setCell ?_ (by simp <;> omega) _ | refine Gr.trans ?_ (by assumption)))) CX.out.1 CY.out.1 (by omega) (by omega)).mono ?_; rintro e w3 ⟨r, kk, u, zs, rfl, s1, f1, ⟨v1, d1, c1⟩, l1, hb⟩; have fr1 := f1.mono (show w.heap.size + 3 ≤ _ by first | exact hz | (simp; done) | (simp; omega)); (obtain ⟨hc, hf⟩ := cellsM hb (w.heap.size + 3) (by first | exact hz | omega | (simp; done) | (simp; omega)); have hz : w.heap.size + 3 ≤ w3.heap.size := (by have h := Gr.size hb; (try simp at h); omega); have hz0 : w.heap.size < w3.heap.size := (by omega); have hz1 : w.heap.size + 1 < w3.heap.size := (by omega)); have hz2 : w.heap.size + 2 < w3.heap.size := (by omega); have HS := Lib.hid (And.intro s1 (And.intro fr1 (And.intro v1 (c1 CX.out CY.out)))); clear s1 f1 v1 d1 c1 fr1))
    go_wp2
    exact bodyPost_ret (v := .agg #[.bool true, .slice r kk u]) (by simp [results, Try.results83, go_sem, *]) rfl ⟨r, kk, u, zs, rfl, HS.out.1.set2 _ _ HS.out.2.1, HS.out.2.2.2, HS.out.2.2.1, HS.out.2.1.mono (by omega), l1, (by repeat (first | exact Gr.refl _ | assumption | refine Gr.alloc ?_ _ | refine Gr.drew ?_ | refine Gr.drewN ?_ _ | refine Gr.setCell ?_ (by simp <;> omega) _ | refine Gr.trans ?_ (by assumption)))⟩

set_option maxHeartbeats 2000000 in
set_option maxRecDepth 100000 in
theorem Sum_ge (A : Bool) {p q : Option Addr} {m n c d : Nat} {xs ys : List Int} {w : World} (hx : Sl w p m c xs) (hy : Sl w q n d ys) (cx : Cn xs) (cy : Cn ys) (hm : m ≤ 500) (hn : n ≤ 500) (h : vl ys ≤ vl xs) :
    Calls Try.prog 83 #[.agg #[.bool A, .slice p m c], .agg #[.bool (!A), .slice q n d]] w (SumR (A && decide (vl ys < vl xs)) (vl xs - vl ys) (max m n) w) := by
  have HX := Lib.hid hx
  have HY := Lib.hid hy
  have CX := Lib.hid cx
  have CY := Lib.hid cy
  have HV := Lib.hid h
  have hl := len_of_le cx cy h
  rw [hx.len, hy.len] at hl
  clear hx hy cx cy h
  cases A
  all_goals simp only [Bool.not_false, Bool.not_true]
  · go_enter Try.func83, Try.ntmps83
    go_wp2_with (first | (go_at_call 126; refine (order_ge (HX.out.gr (by repeat (first | exact Gr.refl _ | assumption | refine Gr.alloc ?_ _ | refine Gr.drew ?_ | refine Gr.drewN ?_ _ | refine Gr.setCell ?_ (by simp <;> omega) _ | refine Gr.trans ?_ (by assumption)))) (HY.out.gr (by repeat (first | exact Gr.refl _ | assumption | refine Gr.alloc ?_ _ | refine Gr.drew ?_ | refine Gr.drewN ?_ _ | refine Gr.setCell ?_ (by simp <;> omega) _ | refine Gr.trans ?_ (by assumption)))) CX.out CY.out (by omega) (by omega) HV.out).mono ?_; rintro e w2 ⟨o, ho, rfl, hb⟩; (obtain ⟨hc, hf⟩ := cellsM hb (w.heap.size + 3) (by first | exact hz | omega | (simp; done) | (simp; omega)); have hz : w.heap.size + 3 ≤ w2.heap.size := (by have h := Gr.size hb; (try simp at h); omega); have hz0 : w.heap.size < w2.heap.size := (by omega); have hz1 : w.heap.size + 1 < w2.heap.size := (by omega)); have hz2 : w.heap.size + 2 < w2.heap.size := (by omega)) | (go_at_call 127; refine (minus_sl (HX.out.gr (by repeat (first | exact Gr.refl _ | assumption | refine Gr.alloc ?_ _ | refine Gr.drew ?_ | refine Gr.drewN ?_ _ | refine Gr.setCell ?_ (by simp <;> omega) _ | refine Gr.trans ?_ (by assumption)))) (HY.out.gr (by repeat (first | exact Gr.refl _ | assumption | refine Gr.alloc ?_ _ | refine Gr.drew ?_ | refine Gr.drewN ?_ _ | refine Gr.setCell ?_ (by simp <;> omega) _ | refine Gr.trans ?_ (by assumption)))) CX.out.1 CY.out.1 (by omega) hl HV.out).mono ?_; rintro e w3 ⟨r, kk, u, zs, rfl, s1, f1, ⟨v1, c1⟩, l1, hb⟩; have fr1 := f1.mono (show w.heap.size + 3 ≤ _ by first | exact hz | (simp; done) | (simp; omega)); (obtain ⟨hc, hf⟩ := cellsM hb (w.heap.size + 3) (by first | exact hz | omega | (simp; done) | (simp; omega)); have hz : w.heap.size + 3 ≤ w3.heap.size := (by have h := Gr.size hb; (try simp at h); omega); have hz0 : w.heap.size < w3.heap.size := (by omega); have hz1 : w.heap.size + 1 < w3.heap.size := (by omega)); have hz2 : w.heap.size + 2 < w3.heap.size := (by omega); have HS := Lib.hid (And.intro s1 (And.intro fr1 (And.intro v1 c1))); clear s1 f1 v1 c1 fr1))
    exact bodyPost_ret (v := .agg #[.bool (false), .slice r kk u]) (by simp [results, Try.results83, go_sem, *]) rfl ⟨r, kk, u, zs, rfl, HS.out.1.set2 _ _ HS.out.2.1, HS.out.2.2.2, HS.out.2.2.1, HS.out.2.1.mono (by omega), by omega, (by repeat (first | exact Gr.refl _ | assumption | refine Gr.alloc ?_ _ | refine Gr.drew ?_ | refine Gr.drewN ?_ _ | refine Gr.setCell ?_ (by simp <;> omega) _ | refine Gr.trans ?_ (by assumption)))⟩
  · go_enter Try.func83, Try.ntmps83
    go_wp2_with (first | (go_at_call 126; refine (order_ge (HX.out.gr (by repeat (first | exact Gr.refl _ | assumption | refine Gr.alloc ?_ _ | refine Gr.drew ?_ | refine Gr.drewN ?_ _ | refine Gr.setCell ?_ (by simp <;> omega) _ | refine Gr.trans ?_ (by assumption)))) (HY.out.gr (by repeat (first | exact Gr.refl _ | assumption | refine Gr.alloc ?_ _ | refine Gr.drew ?_ | refine Gr.drewN ?_ _ | refine Gr.setCell ?_ (by simp <;> omega) _ | refine Gr.trans ?_ (by assumption)))) CX.out CY.out (by omega) (by omega) HV.out).mono ?_; rintro e w2 ⟨o, ho, rfl, hb⟩; (obtain ⟨hc, hf⟩ := cellsM hb (w.heap.size + 3) (by first | exact hz | omega | (simp; done) | (simp; omega)); have hz : w.heap.size + 3 ≤ w2.heap.size := (by have h := Gr.size hb; (try simp at h); omega); have hz0 : w.heap.size < w2.heap.size := (by omega); have hz1 : w.heap.size + 1 < w2.heap.size := (by omega)); have hz2 : w.heap.size + 2 < w2.heap.size := (by omega)) | (go_at_call 127; refine (minus_sl (HX.out.gr (by repeat (first | exact Gr.refl _ | assumption | refine Gr.alloc ?_ _ | refine Gr.drew ?_ | refine Gr.drewN ?_ _ | refine Gr.setCell ?_ (by simp <;> omega) _ | refine Gr.trans ?_ (by assumption)))) (HY.out.gr (by repeat (first | exact Gr.refl _ | assumption | refine Gr.alloc ?_ _ | refine Gr.drew ?_ | refine Gr.drewN ?_ _ | refine Gr.setCell ?_ (by simp <;> omega) _ | refine Gr.trans ?_ (by assumption)))) CX.out.1 CY.out.1 (by omega) hl HV.out).mono ?_; rintro e w3 ⟨r, kk, u, zs, rfl, s1, f1, ⟨v1, c1⟩, l1, hb⟩; have fr1 := f1.mono (show w.heap.size + 3 ≤ _ by first | exact hz | (simp; done) | (simp; omega)); (obtain ⟨hc, hf⟩ := cellsM hb (w.heap.size + 3) (by first | exact hz | omega | (simp; done) | (simp; omega)); have hz : w.heap.size + 3 ≤ w3.heap.size := (by have h := Gr.size hb; (try simp at h); omega); have hz0 : w.heap.size < w3.heap.size := (by omega); have hz1 : w.heap.size + 1 < w3.heap.size := (by omega)); have hz2 : w.heap.size + 2 < w3.heap.size := (by omega); have HS := Lib.hid (And.intro s1 (And.intro fr1 (And.intro v1 c1))); clear s1 f1 v1 c1 fr1))
    exact bodyPost_ret (v := .agg #[.bool (decide (0 < kk)), .slice r kk u]) (by simp [results, Try.results83, go_sem, *]) rfl ⟨r, kk, u, zs, by rw [lt_kk HS.out.1 HS.out.2.2.2 HS.out.2.2.1]; rfl, HS.out.1.set2 _ _ HS.out.2.1, HS.out.2.2.2, HS.out.2.2.1, HS.out.2.1.mono (by omega), by omega, (by repeat (first | exact Gr.refl _ | assumption | refine Gr.alloc ?_ _ | refine Gr.drew ?_ | refine Gr.drewN ?_ _ | refine Gr.setCell ?_ (by simp <;> omega) _ | refine Gr.trans ?_ (by assumption)))⟩

set_option maxHeartbeats 2000000 in
set_option maxRecDepth 100000 in
theorem Sum_lt (A : Bool) {p q : Option Addr} {m n c d : Nat} {xs ys : List Int} {w : World} (hx : Sl w p m c xs) (hy : Sl w q n d ys) (cx : Cn xs) (cy : Cn ys) (hm : m ≤ 500) (hn : n ≤ 500) (h : vl xs < vl ys) :
    Calls Try.prog 83 #[.agg #[.bool A, .slice p m c], .agg #[.bool (!A), .slice q n d]] w (SumR (!A) (vl ys - vl xs) (max m n) w) := by
  have HX := Lib.hid hx
  have HY := Lib.hid hy
  have CX := Lib.hid cx
  have CY := Lib.hid cy
  have HV := Lib.hid h
  have hl := len_of_le cy cx (Int.le_of_lt h)
  rw [hx.len, hy.len] at hl
  clear hx hy cx cy h
  cases A
  all_goals simp only [Bool.not_false, Bool.not_true]
  · go_enter Try.func83, Try.ntmps83
    go_wp2_with (first | (go_at_call 126; refine (order_lt (HX.out.gr (by repeat (first | exact Gr.refl _ | assumption | refine Gr.alloc ?_ _ | refine Gr.drew ?_ | refine Gr.drewN ?_ _ | refine Gr.setCell ?_ (by simp <;> omega) _ | refine Gr.trans ?_ (by assumption)))) (HY.out.gr (by repeat (first | exact Gr.refl _ | assumption | refine Gr.alloc ?_ _ | refine Gr.drew ?_ | refine Gr.drewN ?_ _ | refine Gr.setCell ?_ (by simp <;> omega) _ | refine Gr.trans ?_ (by assumption)))) CX.out CY.out (by omega) (by omega) HV.out).mono ?_; rintro e w2 ⟨rfl, hb⟩; have hz : w.heap.size + 3 ≤ w2.heap.size := (by have h := Gr.size hb; (try simp at h); omega); have hz0 : w.heap.size < w2.heap.size := (by omega); have hz1 : w.heap.size + 1 < w2.heap.size := (by omega); (have g0 : w2.cell? ⟨w.heap.size, 0, none⟩ = some (.bool false) := hb.keep (by first | (simp; done) | (simp [go_sem]; done)); have g0f : w2.frozen? ⟨w.heap.size, 0, none⟩ = false := (hb.cells.2 _ _ (by simp <;> omega)).trans (by simp [go_sem])); (have g1 : w2.cell? ⟨w.heap.size, 1, none⟩ = some (.slice p m c) := hb.keep (by first | (simp; done) | (simp [go_sem]; done)); have g1f : w2.frozen? ⟨w.heap.size, 1, none⟩ = false := (hb.cells.2 _ _ (by simp <;> omega)).trans (by simp [go_sem])); (have g2 : w2.cell? ⟨w.heap.size + 1, 0, none⟩ = some (.bool true) := hb.keep (by first | (simp; done) | (simp [go_sem]; done)); have g2f : w2.frozen? ⟨w.heap.size + 1, 0, none⟩ = false := (hb.cells.2 _ _ (by simp <;> omega)).trans (by simp [go_sem])); (have g3 : w2.cell? ⟨w.heap.size + 1, 1, none⟩ = some (.slice q n d) := hb.keep (by first | (simp; done) | (simp [go_sem]; done)); have g3f : w2.frozen? ⟨w.heap.size + 1, 1, none⟩ = false := (hb.cells.2 _ _ (by simp <;> omega)).trans (by simp [go_sem])); (have g4 : w2.cell? ⟨w.heap.size + 2, 0, none⟩ = some (.bool false) := hb.keep (by first | (simp; done) | (simp [go_sem]; done)); have g4f : w2.frozen? ⟨w.heap.size + 2, 0, none⟩ = false := (hb.cells.2 _ _ (by simp <;> omega)).trans (by simp [go_sem])); (have g5 : w2.cell? ⟨w.heap.size + 2, 1, none⟩ = some (.slice none 0 0) := hb.keep (by first | (simp; done) | (simp [go_sem]; done)); have g5f : w2.frozen? ⟨w.heap.size + 2, 1, none⟩ = false := (hb.cells.2 _ _ (by simp <;> omega)).trans (by simp [go_sem])); have hz2 : w.heap.size + 2 < w2.heap.size := (by omega)))
    obtain ⟨W, eW⟩ : ∃ W, ((((w2.setCell ⟨w.heap.size, 0, none⟩ (.bool true)).setCell ⟨w.heap.size, 1, none⟩ (.slice q n d)).setCell ⟨w.heap.size + 1, 0, none⟩ (.bool false)).setCell ⟨w.heap.size + 1, 1, none⟩ (.slice p m c)) = W := ⟨_, rfl⟩
    have G5 : Gr w W := by rw [← eW]; exact (by repeat (first | exact Gr.refl _ | assumption | refine Gr.alloc ?_ _ | refine Gr.drew ?_ | refine Gr.drewN ?_ _ | refine Gr.setCell ?_ (by simp <;> omega) _ | refine Gr.trans ?_ (by assumption)))
    have k0 : W.cell? ⟨w.heap.size, 0, none⟩ = some (.bool true) := by rw [← eW]; simp [go_sem, g0, g1, g2, g3]
    have k1 : W.cell? ⟨w.heap.size, 1, none⟩ = some (.slice q n d) := by rw [← eW]; simp [go_sem, g0, g1, g2, g3]
    have k2 : W.cell? ⟨w.heap.size + 1, 0, none⟩ = some (.bool false) := by rw [← eW]; simp [go_sem, g0, g1, g2, g3]
    have k3 : W.cell? ⟨w.heap.size + 1, 1, none⟩ = some (.slice p m c) := by rw [← eW]; simp [go_sem, g0, g1, g2, g3]
    have k4 : W.cell? ⟨w.heap.size + 2, 0, none⟩ = some (.bool false) := by rw [← eW]; simp [go_sem, g4]
    have k5 : W.cell? ⟨w.heap.size + 2, 1, none⟩ = some (.slice none 0 0) := by rw [← eW]; simp [go_sem, g5]
    have k6 : W.frozen? ⟨w.heap.size + 2, 0, none⟩ = false := by rw [← eW]; simp [go_sem, g4f]
    have k7 : W.frozen? ⟨w.heap.size + 2, 1, none⟩ = false := by rw [← eW]; simp [go_sem, g5f]
    have hzW : w.heap.size + 3 ≤ W.heap.size := by rw [← eW]; simp; omega
    rw [eW]
    clear eW hb hz hz0 hz1 hz2 g0 g1 g2 g3 g4 g5 g0f g1f g2f g3f g4f g5f
    have hz := hzW
    have GW := Lib.hid G5
    clear G5
    go_wp2_with ((go_at_call 127; refine (minus_sl (HY.out.gr GW.out) (HX.out.gr GW.out) CY.out.1 CX.out.1 (by omega) hl (Int.le_of_lt HV.out)).mono ?_; rintro e w3 ⟨r, kk, u, zs, rfl, s1, f1, ⟨v1, c1⟩, l1, hb⟩; have fr1 := f1.mono hz; have y0 := hb.keep k0; have y4 := hb.keep k4; have y5 := hb.keep k5; have y6 := (hb.cells.2 _ _ (show w.heap.size + 2 < W.heap.size by omega)).trans k6; have y7 := (hb.cells.2 _ _ (show w.heap.size + 2 < W.heap.size by omega)).trans k7; have hz2 : w.heap.size + 2 < w3.heap.size := (by have := Gr.size hb; omega); have HS := Lib.hid (And.intro s1 (And.intro fr1 (And.intro v1 c1))); clear s1 f1 v1 c1 fr1))
    exact bodyPost_ret (v := .agg #[.bool (decide (0 < kk)), .slice r kk u]) (by simp [results, Try.results83, go_sem, *]) rfl ⟨r, kk, u, zs, by rw [pos_kk HS.out.1 HS.out.2.2.2 HS.out.2.2.1 HV.out], HS.out.1.set2 _ _ HS.out.2.1, HS.out.2.2.2, HS.out.2.2.1, HS.out.2.1.mono (by omega), by omega, Gr.setCell (Gr.setCell (GW.out.trans hb) (by simp <;> omega) _) (by simp <;> omega) _⟩
  · go_enter Try.func83, Try.ntmps83
    go_wp2_with (first | (go_at_call 126; refine (order_lt (HX.out.gr (by repeat (first | exact Gr.refl _ | assumption | refine Gr.alloc ?_ _ | refine Gr.drew ?_ | refine Gr.drewN ?_ _ | refine Gr.setCell ?_ (by simp <;> omega) _ | refine Gr.trans ?_ (by assumption)))) (HY.out.gr (by repeat (first | exact Gr.refl _ | assumption | refine Gr.alloc ?_ _ | refine Gr.drew ?_ | refine Gr.drewN ?_ _ | refine Gr.setCell ?_ (by simp <;> omega) _ | refine Gr.trans ?_ (by assumption)))) CX.out CY.out (by omega) (by omega) HV.out).mono ?_; rintro e w2 ⟨rfl, hb⟩; have hz : w.heap.size + 3 ≤ w2.heap.size := (by have h := Gr.size hb; (try simp at h); omega); have hz0 : w.heap.size < w2.heap.size := (by omega); have hz1 : w.heap.size + 1 < w2.heap.size := (by omega); (have g0 : w2.cell? ⟨w.heap.size, 0, none⟩ = some (.bool true) := hb.keep (by first | (simp; done) | (simp [go_sem]; done)); have g0f : w2.frozen? ⟨w.heap.size, 0, none⟩ = false := (hb.cells.2 _ _ (by simp <;> omega)).trans (by simp [go_sem])); (have g1 : w2.cell? ⟨w.heap.size, 1, none⟩ = some (.slice p m c) := hb.keep (by first | (simp; done) | (simp [go_sem]; done)); have g1f : w2.frozen? ⟨w.heap.size, 1, none⟩ = false := (hb.cells.2 _ _ (by simp <;> omega)).trans (by simp [go_sem])); (have g2 : w2.cell? ⟨w.heap.size + 1, 0, none⟩ = some (.bool false) := hb.keep (by first | (simp; done) | (simp [go_sem]; done)); have g2f : w2.frozen? ⟨w.heap.size + 1, 0, none⟩ = false := (hb.cells.2 _ _ (by simp <;> omega)).trans (by simp [go_sem])); (have g3 : w2.cell? ⟨w.heap.size + 1, 1, none⟩ = some (.slice q n d) := hb.keep (by first | (simp; done) | (simp [go_sem]; done)); have g3f : w2.frozen? ⟨w.heap.size + 1, 1, none⟩ = false := (hb.cells.2 _ _ (by simp <;> omega)).trans (by simp [go_sem])); (have g4 : w2.cell? ⟨w.heap.size + 2, 0, none⟩ = some (.bool false) := hb.keep (by first | (simp; done) | (simp [go_sem]; done)); have g4f : w2.frozen? ⟨w.heap.size + 2, 0, none⟩ = false := (hb.cells.2 _ _ (by simp <;> omega)).trans (by simp [go_sem])); (have g5 : w2.cell? ⟨w.heap.size + 2, 1, none⟩ = some (.slice none 0 0) := hb.keep (by first | (simp; done) | (simp [go_sem]; done)); have g5f : w2.frozen? ⟨w.heap.size + 2, 1, none⟩ = false := (hb.cells.2 _ _ (by simp <;> omega)).trans (by simp [go_sem])); have hz2 : w.heap.size + 2 < w2.heap.size := (by omega)))
    obtain ⟨W, eW⟩ : ∃ W, ((((w2.setCell ⟨w.heap.size, 0, none⟩ (.bool false)).setCell ⟨w.heap.size, 1, none⟩ (.slice q n d)).setCell ⟨w.heap.size + 1, 0, none⟩ (.bool true)).setCell ⟨w.heap.size + 1, 1, none⟩ (.slice p m c)) = W := ⟨_, rfl⟩
    have G5 : Gr w W := by rw [← eW]; exact (by repeat (first | exact Gr.refl _ | assumption | refine Gr.alloc ?_ _ | refine Gr.drew ?_ | refine Gr.drewN ?_ _ | refine Gr.setCell ?_ (by simp <;> omega) _ | refine Gr.trans ?_ (by assumption)))
    have k0 : W.cell? ⟨w.heap.size, 0, none⟩ = some (.bool false) := by rw [← eW]; simp [go_sem, g0, g1, g2, g3]
    have k1 : W.cell? ⟨w.heap.size, 1, none⟩ = some (.slice q n d) := by rw [← eW]; simp [go_sem, g0, g1, g2, g3]
    have k2 : W.cell? ⟨w.heap.size + 1, 0, none⟩ = some (.bool true) := by rw [← eW]; simp [go_sem, g0, g1, g2, g3]
    have k3 : W.cell? ⟨w.heap.size + 1, 1, none⟩ = some (.slice p m c) := by rw [← eW]; simp [go_sem, g0, g1, g2, g3]
    have k4 : W.cell? ⟨w.heap.size + 2, 0, none⟩ = some (.bool false) := by rw [← eW]; simp [go_sem, g4]
    have k5 : W.cell? ⟨w.heap.size + 2, 1, none⟩ = some (.slice none 0 0) := by rw [← eW]; simp [go_sem, g5]
    have k6 : W.frozen? ⟨w.heap.size + 2, 0, none⟩ = false := by rw [← eW]; simp [go_sem, g4f]
    have k7 : W.frozen? ⟨w.heap.size + 2, 1, none⟩ = false := by rw [← eW]; simp [go_sem, g5f]
    have hzW : w.heap.size + 3 ≤ W.heap.size := by rw [← eW]; simp; omega
    rw [eW]
    clear eW hb hz hz0 hz1 hz2 g0 g1 g2 g3 g4 g5 g0f g1f g2f g3f g4f g5f
    have hz := hzW
    have GW := Lib.hid G5
    clear G5
    go_wp2_with ((go_at_call 127; refine (minus_sl (HY.out.gr GW.out) (HX.out.gr GW.out) CY.out.1 CX.out.1 (by omega) hl (Int.le_of_lt HV.out)).mono ?_; rintro e w3 ⟨r, kk, u, zs, rfl, s1, f1, ⟨v1, c1⟩, l1, hb⟩; have fr1 := f1.mono hz; have y0 := hb.keep k0; have y4 := hb.keep k4; have y5 := hb.keep k5; have y6 := (hb.cells.2 _ _ (show w.heap.size + 2 < W.heap.size by omega)).trans k6; have y7 := (hb.cells.2 _ _ (show w.heap.size + 2 < W.heap.size by omega)).trans k7; have hz2 : w.heap.size + 2 < w3.heap.size := (by have := Gr.size hb; omega); have HS := Lib.hid (And.intro s1 (And.intro fr1 (And.intro v1 c1))); clear s1 f1 v1 c1 fr1))
    exact bodyPost_ret (v := .agg #[.bool (false), .slice r kk u]) (by simp [results, Try.results83, go_sem, *]) rfl ⟨r, kk, u, zs, rfl, HS.out.1.set2 _ _ HS.out.2.1, HS.out.2.2.2, HS.out.2.2.1, HS.out.2.1.mono (by omega), by omega, Gr.setCell (Gr.setCell (GW.out.trans hb) (by simp <;> omega) _) (by simp <;> omega) _⟩
end Go.Proofs.Ytmejhccdiimmlaa
