/- Texts of the walks, merged. -/
import Derived.Test.YtnaflaokhldfnaaDoorQ20
import Derived.Deep.LoopGhost
namespace Go.Proofs.YtnaflaokhldfnaaDoor
set_option linter.unusedSimpArgs false
set_option linter.unusedVariables false
open Go.RowKit

theorem Arr.sl {w : World} {b n : Nat} {t} {xs : List Int} (h : Arr w b .i64 t xs) (hn : xs.length = n) (hm : n ≤ maxLen) : Sl w (some ⟨b, 0, none⟩) n n xs :=
  ⟨hn, Nat.le_refl _, hm, fun _ => ⟨b, rfl, fun i hi => h.cell i hi⟩⟩
/-- The quotient's digits that are known: from place k on; at k itself it is t. -/
def qf (xs : List Int) (V : Int) (k : Nat) (t : Int) (j : Nat) : Int := if j < k then 0 else if j = k then t else dq xs V j
theorem qf_next (xs : List Int) (V : Int) (k : Nat) (t : Int) (j : Nat) : qf xs V k (t + 1) j = if j = k then t + 1 else qf xs V k t j := by
  unfold qf
  by_cases h : j = k
  · subst h; simp
  · simp [h]
theorem qf_zero (xs : List Int) (V : Int) (k : Nat) (t : Int) (j : Nat) (h : t = dq xs V (k + 1)) : qf xs V (k + 1) t j = qf xs V k 0 j := by
  unfold qf
  by_cases h1 : j < k
  · simp [h1, show j < k + 1 by omega]
  · by_cases h2 : j = k
    · subst h2; simp
    · by_cases h3 : j = k + 1
      · subst h3; simp [h, show ¬ k + 1 < k by omega]
      · simp [h1, h2, h3, show ¬ j < k + 1 by omega]
def DvR (xs ys : List Int) (m n : Nat) (w : World) (e : Ending) (w' : World) : Prop :=
  ∃ r1 k1 c1 zs1 r2 k2 c2 zs2, e = .returned (.tuple #[.slice r1 k1 c1, .slice r2 k2 c2]) ∧ Sl w' r1 k1 c1 zs1 ∧ Sl w' r2 k2 c2 zs2 ∧ Cn zs1 ∧ Cn zs2 ∧ vl zs1 = vl xs / vl ys ∧ vl zs2 = vl xs % vl ys ∧ k1 ≤ m ∧ k2 ≤ n ∧ Fr w.heap.size r1 ∧ Fr w.heap.size r2 ∧ Gr w w'

/-- What holds in the outer loop. -/
def DI (w : World) (xs ys : List Int) (m n k : Nat) (r : Option Addr) (l cp : Nat) (wr : World) : Prop :=
  ∃ rs, Sl wr r l cp rs ∧ Fr (w.heap.size + 1) r ∧ Cn rs ∧ l ≤ n ∧ vl rs = vl (xs.drop k) % vl ys ∧ Arr wr w.heap.size .i64 3 (fl m (fun j => if j < k then 0 else dq xs (vl ys) j)) ∧ Gr w wr
/-- What holds in the inner loop: at most g rounds more. -/
def DJ (w : World) (xs ys : List Int) (m n k : Nat) (g : Nat) (r : Option Addr) (l cp : Nat) (wr : World) : Prop :=
  ∃ rs t, Sl wr r l cp rs ∧ Fr (w.heap.size + 1) r ∧ Cn rs ∧ l ≤ n + 1 ∧ 0 ≤ t ∧ t + g = vl (xs.drop k) / vl ys % 10 ∧ vl rs = xs.getD k 0 + 10 * (vl (xs.drop (k + 1)) % vl ys) - t * vl ys ∧ Arr wr w.heap.size .i64 3 (fl m (qf xs (vl ys) k t)) ∧ Gr w wr

theorem dv_digit {xs : List Int} {V : Int} {k : Nat} (hx : Dg xs) (hV : 0 < V) (hk : k < xs.length) :
    vl (xs.drop k) / V % 10 = (xs.getD k 0 + 10 * (vl (xs.drop (k + 1)) % V)) / V ∧ vl (xs.drop k) % V = (xs.getD k 0 + 10 * (vl (xs.drop (k + 1)) % V)) % V := by
  have b := hx.getD k
  obtain ⟨s1, s2, s3, s4⟩ := dv_step (A := vl (xs.drop (k + 1))) hV b.1 b.2
  rw [vl_drop xs hk]
  exact ⟨by rw [s1]; omega, s2⟩
theorem dv_more {z V t g : Int} (hV : 0 < V) (h : t + g = z / V) (hg : 0 < g) : V ≤ z - t * V := by
  have h1 := Int.mul_ediv_add_emod z V
  have h2 := Int.emod_nonneg z (Int.ne_of_gt hV)
  have h3 : V * (t + 1) ≤ V * (z / V) := Int.mul_le_mul_of_nonneg_left (by omega) (by omega)
  rw [Int.mul_add, Int.mul_comm V t] at h3
  omega
theorem dv_last {z V t : Int} (h : t = z / V) : z - t * V = z % V := by
  have h1 := Int.mul_ediv_add_emod z V
  rw [← h, Int.mul_comm] at h1
  omega
theorem len_of_le {xs ys : List Int} (cx : Cn xs) (cy : Cn ys) (h : vl ys ≤ vl xs) : ys.length ≤ xs.length := by
  rcases Nat.lt_or_ge xs.length ys.length with g | g
  · have := lt_len cx cy g; omega
  · exact g
theorem ordI_ge {a b : Int} (h : b ≤ a) : 0 ≤ ordI a b := by unfold ordI; repeat' split <;> omega

end Go.Proofs.YtnaflaokhldfnaaDoor
namespace Go.Proofs.YtnaflaokhldfnaaDoor
set_option linter.unusedSimpArgs false
set_option linter.unusedVariables false
open Go.RowKit

theorem cellsM {a b : World} (h : Gr a b) (n : Nat) (hn : n ≤ a.heap.size) : (∀ k o, k < n → b.cell? ⟨k, o, none⟩ = a.cell? ⟨k, o, none⟩) ∧ (∀ k o, k < n → b.frozen? ⟨k, o, none⟩ = a.frozen? ⟨k, o, none⟩) :=
  ⟨fun k o hk => h.cells.1 k o (by omega), fun k o hk => h.cells.2 k o (by omega)⟩
/-- A long number is returned: its sign, its amount. -/
def LongR (neg : Bool) (v : Int) (w : World) (e : Ending) (w' : World) : Prop :=
  ∃ p k c xs, e = .returned (.agg #[.bool neg, .slice p k c]) ∧ Sl w' p k c xs ∧ Cn xs ∧ vl xs = v ∧ Fr w.heap.size p ∧ Gr w w'
theorem LongOf_sl (n : Int) (z : Nat) (Z : Int) (hZ : Z = z) (hz : z ≤ 100) (h : -1000000000000000000 ≤ n) (h' : n ≤ 1000000000000000000) (w : World) :
    Calls Tryd.prog 78 #[.int .i64 n, .int .i64 Z] w (LongR (decide (n < 0)) (absI n * 10 ^ z) w) := by
  refine (LongOf_any n z Z hZ hz h h' w).mono fun e w' h => ?_
  obtain ⟨g, cap, xs, k, rfl, h1, h2, h3, h4, h5, h6, h7, h8⟩ := h
  exact ⟨_, k, cap, xs, rfl, ⟨h1, h2, h3, fun _ => ⟨g, rfl, h5⟩⟩, h6, h7, Fr.some h4, h8⟩
def PowR (n : Nat) (w : World) (e : Ending) (w' : World) : Prop :=
  ∃ p k c xs, e = .returned (.slice p k c) ∧ Sl w' p k c xs ∧ Cn xs ∧ vl xs = 10 ^ n ∧ k = n + 1 ∧ Fr w.heap.size p ∧ Gr w w'
/-- A fraction is returned. -/
def FracR (neg : Bool) (v b : Int) (w : World) (e : Ending) (w' : World) : Prop :=
  ∃ p k c xs q l d ys, e = .returned (.agg #[.bool neg, .slice p k c, .slice q l d]) ∧ Sl w' p k c xs ∧ Cn xs ∧ vl xs = v ∧ Sl w' q l d ys ∧ Cn ys ∧ vl ys = b ∧ Fr w.heap.size p ∧ Fr w.heap.size q ∧ Gr w w'

end Go.Proofs.YtnaflaokhldfnaaDoor
namespace Go.Proofs.YtnaflaokhldfnaaDoor
set_option linter.unusedSimpArgs false
set_option linter.unusedVariables false
open Go.RowKit

/-- A long number is returned: below 0 only if it is not 0; its amount. -/
def WhR (b : Bool) (v : Int) (w : World) (e : Ending) (w' : World) : Prop :=
  ∃ p k c xs, e = .returned (.agg #[.bool (b && decide (0 < k)), .slice p k c]) ∧ Sl w' p k c xs ∧ Cn xs ∧ vl xs = v ∧ Gr w w'

theorem order_lt {p q : Option Addr} {m n c d : Nat} {xs ys : List Int} {w : World} (hx : Sl w p m c xs) (hy : Sl w q n d ys) (cx : Cn xs) (cy : Cn ys) (hm : m ≤ 100000) (hn : n ≤ 100000) (h : vl xs < vl ys) :
    Calls Tryd.prog 80 #[.slice p m c, .slice q n d] w fun e w' => e = .returned (.int .i64 (-1)) ∧ Gr w w' :=
  (order_sl hx hy cx cy hm hn).mono fun e w' k => ⟨by rw [k.1, ordI_lt h], k.2⟩
theorem order_ge {p q : Option Addr} {m n c d : Nat} {xs ys : List Int} {w : World} (hx : Sl w p m c xs) (hy : Sl w q n d ys) (cx : Cn xs) (cy : Cn ys) (hm : m ≤ 100000) (hn : n ≤ 100000) (h : vl ys ≤ vl xs) :
    Calls Tryd.prog 80 #[.slice p m c, .slice q n d] w fun e w' => ∃ o, 0 ≤ o ∧ e = .returned (.int .i64 o) ∧ Gr w w' :=
  (order_sl hx hy cx cy hm hn).mono fun e w' k => ⟨_, ordI_ge h, k.1, k.2⟩
theorem rq_at {A V : Int} (hA : 0 ≤ A) (hV : 0 < V) (z : Nat) (half : Bool) : ((rq (A.toNat * 10 ^ z) V.toNat half : Nat) : Int) = A * 10 ^ z / V + (if half ∧ V ≤ 2 * (A * 10 ^ z % V) then 1 else 0) := by
  obtain ⟨a, rfl⟩ := Int.eq_ofNat_of_zero_le hA
  obtain ⟨v, rfl⟩ := Int.eq_ofNat_of_zero_le (Int.le_of_lt hV)
  unfold rq
  have e : ((a : Int) * 10 ^ z) = ((a * 10 ^ z : Nat) : Int) := by push_cast; rfl
  rw [Int.toNat_natCast, Int.toNat_natCast, e]
  have e2 : (v : Int) ≤ 2 * (((a * 10 ^ z : Nat) : Int) % v) ↔ v ≤ 2 * (a * 10 ^ z % v) := by
    rw [← Int.natCast_emod]; omega
  simp only [e2]
  push_cast
  split <;> simp
/-- The quotient's slice in the world behind the test. -/
def QL (w : World) (b : Bool) (v : Int) (r : Option Addr) (k u : Nat) (wz : World) : Prop := ∃ zs, Sl wz r k u zs ∧ Cn zs ∧ vl zs = v ∧ Fr (w.heap.size + 2) r ∧ Gr w wz
theorem QL.gr {w wz w' : World} {b v r k u} (h : QL w b v r k u wz) (g : Gr wz w') : QL w b v r k u w' := by
  obtain ⟨zs, h1, h2, h3, h4, h5⟩ := h
  exact ⟨zs, h1.gr g, h2, h3, h4, h5.trans g⟩
theorem QL.fin {w wz : World} {b v r k u} (h : QL w b v r k u wz) (x y : Value) : ∃ zs, Sl ((wz.setCell ⟨w.heap.size + 1, 0, none⟩ x).setCell ⟨w.heap.size + 1, 1, none⟩ y) r k u zs ∧ Cn zs ∧ vl zs = v ∧ Gr w ((wz.setCell ⟨w.heap.size + 1, 0, none⟩ x).setCell ⟨w.heap.size + 1, 1, none⟩ y) := by
  obtain ⟨zs, h1, h2, h3, h4, h5⟩ := h
  have n1 : ∀ a, r = some a → a.block ≠ w.heap.size + 1 := fun a e h => by have := h4 a e; omega
  exact ⟨zs, (h1.setCell _ _ n1).setCell _ _ n1, h2, h3, Gr.setCell (Gr.setCell h5 (by simp) _) (by simp) _⟩

end Go.Proofs.YtnaflaokhldfnaaDoor
