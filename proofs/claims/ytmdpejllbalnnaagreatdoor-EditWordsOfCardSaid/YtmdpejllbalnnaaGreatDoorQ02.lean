/- Texts of the walks, merged. -/
import Derived.Test.YtmdpejllbalnnaaGreatDoorQ01
namespace Go.Proofs.YtmdpejllbalnnaaGreatDoor
set_option linter.unusedSimpArgs false
set_option linter.unusedVariables false
open Go.RowKit
set_option maxHeartbeats 1000000 in
set_option maxRecDepth 100000 in
theorem ValueErr_any (k l s n : Int) (x : ByteArray) (w : World) :
    Calls Tryz.prog 25 #[.agg #[.int .i64 k, .int .i64 l, .int .i64 s], .agg #[.int .i64 n, .string x]] w fun e w' => e = .returned (.int .i64 (valErr k l s n x)) ∧ Gr w w' := by
  by_cases h1 : typeErr k l s = 0
  · have hb0 : (typeErr k l s != 0) = false := by simp [h1]
    have H1 := Lib.hid h1
    have HX := Lib.hid (isEmpty_size x)
    by_cases h2 : k = 4
    · have hb1 : (k == 4) = true := by simp [h2]
      have H2 := Lib.hid h2
      clear h1 h2
      go_enter Tryz.func25, Tryz.ntmps25
      go_wp2_with (go_at_call 29; refine (TypeErr_any _ _ _ _).mono ?_; rintro e w1 ⟨rfl, hb⟩; obtain ⟨hc, hf⟩ := hb.cells; have hz : w.heap.size + 1 < w1.heap.size := (by have h := hb.size; (try simp at h); omega); have hz0 : w.heap.size < w1.heap.size := by omega)
      go_ret
      exact ⟨ret_int (by have := H1.out; have := H2.out; grind [valErr]), (by repeat (first | (with_reducible exact Gr.refl _) | (with_reducible assumption) | (with_reducible refine Gr.alloc ?_ _) | (with_reducible refine Gr.drew ?_) | (with_reducible refine Gr.drewN ?_ _) | (with_reducible refine Gr.setCell ?_ (by simp <;> omega) _) | (with_reducible refine Gr.trans ?_ (by with_reducible assumption)) | exact Gr.refl _ | assumption | refine Gr.alloc ?_ _ | refine Gr.drew ?_ | refine Gr.drewN ?_ _ | refine Gr.setCell ?_ (by simp <;> omega) _ | refine Gr.trans ?_ (by assumption)))⟩
    · obtain ⟨l0, l1, l2, _, _⟩ := typeErr_len h1 h2
      have hb1 : (k == 4) = false := by simp [h2]
      have H2 := Lib.hid h2
      clear h1 h2
      by_cases k0 : k = 0
      · have hb2 : (k == 0) = true := by simp [k0]
        have H3 := Lib.hid k0
        clear k0 l2
        by_cases n0 : n = 0
        all_goals
          go_enter Tryz.func25, Tryz.ntmps25
          go_wp2_with (first | (go_at_call 29; refine (TypeErr_any _ _ _ _).mono ?_; rintro e w1 ⟨rfl, hb⟩; obtain ⟨hc, hf⟩ := hb.cells; have hz : w.heap.size + 1 < w1.heap.size := (by have h := hb.size; (try simp at h); omega); have hz0 : w.heap.size < w1.heap.size := by omega) | (go_at_call 53; refine (Count_any _ _).mono ?_; rintro e w1 ⟨rfl, rfl, hc0, hc1⟩))
          go_ret
          exact ⟨ret_int (by have := H1.out; have := H2.out; have := H3.out; grind [valErr, first0, pick, countI]), (by repeat (first | (with_reducible exact Gr.refl _) | (with_reducible assumption) | (with_reducible refine Gr.alloc ?_ _) | (with_reducible refine Gr.drew ?_) | (with_reducible refine Gr.drewN ?_ _) | (with_reducible refine Gr.setCell ?_ (by simp <;> omega) _) | (with_reducible refine Gr.trans ?_ (by with_reducible assumption)) | exact Gr.refl _ | assumption | refine Gr.alloc ?_ _ | refine Gr.drew ?_ | refine Gr.drewN ?_ _ | refine Gr.setCell ?_ (by simp <;> omega) _ | refine Gr.trans ?_ (by assumption)))⟩
      · have hb2 : (k == 0) = false := by simp [k0]
        have L2 := l2 k0
        have H3 := Lib.hid k0
        clear k0 l2
        have hp := p10_bd l (by omega)
        have hm : 0 ≤ most l ∧ most l ≤ 1000000000000000000 := by unfold most; omega
        clear hp
        have hwr : IntKind.i64.wrap (-most l) = -most l := IntWalk.i64_in _ (by omega)
        have hwc : ∀ b, IntKind.i64.wrap (19 * countI b) = 19 * countI b := fun b => IntWalk.i64_in _ (by have := countI_bd b; omega)
        by_cases x0 : x.toList.isEmpty = true
        · go_enter Tryz.func25, Tryz.ntmps25
          go_wp2_with (first | (go_at_call 29; refine (TypeErr_any _ _ _ _).mono ?_; rintro e w1 ⟨rfl, hb⟩; obtain ⟨hc, hf⟩ := hb.cells; have hz : w.heap.size + 1 < w1.heap.size := (by have h := hb.size; (try simp at h); omega); have hz0 : w.heap.size < w1.heap.size := by omega) | (go_at_call 53; refine (Count_any _ _).mono ?_; rintro e w1 ⟨rfl, rfl, hc0, hc1⟩))
          go_region_held3 (fun w' => w'.cell? ⟨w.heap.size, 0, none⟩ = some (.int .i64 k) ∧ w'.cell? ⟨w.heap.size, 1, none⟩ = some (.int .i64 l) ∧ w'.cell? ⟨w.heap.size, 2, none⟩ = some (.int .i64 s) ∧ w'.cell? ⟨w.heap.size + 1, 0, none⟩ = some (.int .i64 n) ∧ w'.cell? ⟨w.heap.size + 1, 1, none⟩ = some (.string x)) (first | (go_keep; done) | ((try go_split_ands); (repeat' apply And.intro) <;> ((try simp only [World.cell?_drew]); first | (with_reducible assumption) | (refine hb.keep ?_; (try simp only [World.cell?_drew]); first | (with_reducible assumption) | (simp [*, go_sem]; done)) | (simp [*, go_sem]; done)))) (first | (go_at_call 55; refine (Most_any _ _ _ (by omega) _).mono ?_; rintro e w1 ⟨rfl, hb⟩; obtain ⟨hc, hf⟩ := hb.cells; have hz : w.heap.size + 1 < w1.heap.size := (by have h := hb.size; (try simp at h); omega); have hz0 : w.heap.size < w1.heap.size := by omega) | (go_at_call 26; refine (Within_any _ _ _ _).mono ?_; rintro e w1 ⟨rfl, rfl⟩) | (go_at_call 53; refine (Count_any _ _).mono ?_; rintro e w1 ⟨rfl, rfl, hc0, hc1⟩))
          go_wp2
          go_ret
          exact ⟨ret_int (by have := H1.out; have := H2.out; have := H3.out; have := HX.out; clear hc hf hb; grind [valErr, fitsB, withinB, countI]), (by repeat (first | (with_reducible exact Gr.refl _) | (with_reducible assumption) | (with_reducible refine Gr.alloc ?_ _) | (with_reducible refine Gr.drew ?_) | (with_reducible refine Gr.drewN ?_ _) | (with_reducible refine Gr.setCell ?_ (by simp <;> omega) _) | (with_reducible refine Gr.trans ?_ (by with_reducible assumption)) | exact Gr.refl _ | assumption | refine Gr.alloc ?_ _ | refine Gr.drew ?_ | refine Gr.drewN ?_ _ | refine Gr.setCell ?_ (by simp <;> omega) _ | refine Gr.trans ?_ (by assumption)))⟩
        · have x0' : x.toList.isEmpty = false := by simpa using x0
          clear x0
          go_enter Tryz.func25, Tryz.ntmps25
          go_wp2_with (first | (go_at_call 29; refine (TypeErr_any _ _ _ _).mono ?_; rintro e w1 ⟨rfl, hb⟩; obtain ⟨hc, hf⟩ := hb.cells; have hz : w.heap.size + 1 < w1.heap.size := (by have h := hb.size; (try simp at h); omega); have hz0 : w.heap.size < w1.heap.size := by omega) | (go_at_call 53; refine (Count_any _ _).mono ?_; rintro e w1 ⟨rfl, rfl, hc0, hc1⟩))
          go_ret
          exact ⟨ret_int (by have := H1.out; have := H2.out; have := H3.out; have := HX.out; grind [valErr]), (by repeat (first | (with_reducible exact Gr.refl _) | (with_reducible assumption) | (with_reducible refine Gr.alloc ?_ _) | (with_reducible refine Gr.drew ?_) | (with_reducible refine Gr.drewN ?_ _) | (with_reducible refine Gr.setCell ?_ (by simp <;> omega) _) | (with_reducible refine Gr.trans ?_ (by with_reducible assumption)) | exact Gr.refl _ | assumption | refine Gr.alloc ?_ _ | refine Gr.drew ?_ | refine Gr.drewN ?_ _ | refine Gr.setCell ?_ (by simp <;> omega) _ | refine Gr.trans ?_ (by assumption)))⟩
  · have hb0 : (typeErr k l s != 0) = true := by simp [h1]
    have H1 := Lib.hid h1
    clear h1
    go_enter Tryz.func25, Tryz.ntmps25
    go_wp2_with (go_at_call 29; refine (TypeErr_any _ _ _ _).mono ?_; rintro e w1 ⟨rfl, hb⟩; obtain ⟨hc, hf⟩ := hb.cells; have hz : w.heap.size + 1 < w1.heap.size := (by have h := hb.size; (try simp at h); omega); have hz0 : w.heap.size < w1.heap.size := by omega)
    go_ret
    exact ⟨ret_int (by simp [valErr, H1.out]), (by repeat (first | (with_reducible exact Gr.refl _) | (with_reducible assumption) | (with_reducible refine Gr.alloc ?_ _) | (with_reducible refine Gr.drew ?_) | (with_reducible refine Gr.drewN ?_ _) | (with_reducible refine Gr.setCell ?_ (by simp <;> omega) _) | (with_reducible refine Gr.trans ?_ (by with_reducible assumption)) | exact Gr.refl _ | assumption | refine Gr.alloc ?_ _ | refine Gr.drew ?_ | refine Gr.drewN ?_ _ | refine Gr.setCell ?_ (by simp <;> omega) _ | refine Gr.trans ?_ (by assumption)))⟩

end Go.Proofs.YtmdpejllbalnnaaGreatDoor
namespace Go.Proofs.YtmdpejllbalnnaaGreatDoor
set_option linter.unusedSimpArgs false
set_option linter.unusedVariables false
open Go.RowKit
/-- The digits of an amount, the highest one first. -/
def dgL (a : Int) (L : Nat) : List Int := fl L (fun j => dig a (L - 1 - j))

end Go.Proofs.YtmdpejllbalnnaaGreatDoor
namespace Go.Proofs.YtmdpejllbalnnaaGreatDoor
set_option linter.unusedSimpArgs false
set_option linter.unusedVariables false
open Go.RowKit

/-- The slice value v holds the numbers xs, in a row of the call's own (from block B on). -/
def Own (w : World) (B : Nat) (k : IntKind) (e : TypeId) (v : Value) (xs : List Int) : Prop := w.ownsRow B e 1 v xs.length (xs.map (Value.int k))

theorem Own.nil (w : World) (B : Nat) (k : IntKind) (e : TypeId) : Own w B k e (.slice none 0 0) [] := World.ownsRow_nil w B e 1
theorem Own.of_arr {w : World} {b B : Nat} {k e} {xs : List Int} (h : Arr w b k e xs) (hB : B ≤ b) (hm : xs.length ≤ maxLen) {n m : Nat} (hn : xs.length = n) (hm' : xs.length = m) : Own w B k e (.slice (some ⟨b, 0, none⟩) n m) xs := by
  obtain ⟨c, hc, h⟩ := h
  have hs : c.size = xs.length := by rw [← Array.length_toList, hc, List.length_map]
  subst hn hm'
  exact ⟨by simp, .inr ⟨b, xs.length, c, rfl, hB, h, Nat.le_refl _, hm, by omega, by rw [hc, List.take_of_length_le (by simp)]⟩⟩
theorem Own.slice {w : World} {B : Nat} {k e v} {xs : List Int} (h : Own w B k e v xs) (hx : xs ≠ []) : ∃ g cap, v = .slice (some ⟨g, 0, none⟩) xs.length cap ∧ B ≤ g ∧ g < w.heap.size := by
  have hl := World.ownsRow.lt h
  rcases h.2 with ⟨_, h⟩ | ⟨g, cap, cur, h, hb, _⟩
  · exact absurd (List.eq_nil_of_length_eq_zero h) hx
  · subst h; exact ⟨g, cap, rfl, hb, (hl g rfl).2⟩
theorem Own.cell {w : World} {B g n cap : Nat} {k e} {xs : List Int} (h : Own w B k e (.slice (some ⟨g, 0, none⟩) n cap) xs) (j : Nat) (hj : j < xs.length) : w.cell? ⟨g, j, none⟩ = some (.int k (xs.getD j 0)) := by
  rcases h.2 with ⟨h', _⟩ | ⟨g', cap', cur, h', _, hg, _, _, _, htake⟩
  · simp at h'
  · simp only [Value.slice.injEq, Option.some.injEq, Addr.mk.injEq, and_true, true_and] at h'
    obtain ⟨rfl, rfl, rfl⟩ := h'
    rw [cell_of_row w g j cur e (0, 0) hg, ← Array.getElem?_toList, ← List.getElem?_take_of_lt (show j < xs.length * 1 by omega), htake]
    simp [hj]
theorem Own.frozen {w : World} {B g n cap : Nat} {k e} {xs : List Int} (h : Own w B k e (.slice (some ⟨g, 0, none⟩) n cap) xs) (j : Nat) : w.frozen? ⟨g, j, none⟩ = false := by
  rcases h.2 with ⟨h', _⟩ | ⟨g', cap', cur, h', _, hg, _⟩
  · simp at h'
  · simp only [Value.slice.injEq, Option.some.injEq, Addr.mk.injEq, and_true, true_and] at h'
    obtain ⟨rfl, rfl, rfl⟩ := h'
    exact frozen_of_row w g j cur e hg
theorem Own.below {w w' : World} {B b : Nat} {k e v} {xs : List Int} (h : Own w B k e v xs) (g : Below b w w') (hb : ∀ q, v.ownBlock = some q → q < b) : Own w' B k e v xs := by
  refine ⟨h.1, ?_⟩
  rcases h.2 with h2 | ⟨q, cap, cur, h2, hB, hq, r⟩
  · exact .inl h2
  · exact .inr ⟨q, cap, cur, h2, hB, by rw [g.block q (hb q (by rw [h2]; rfl))]; exact hq, r⟩
theorem Own.gr {w w' : World} {B : Nat} {k e v} {xs : List Int} (h : Own w B k e v xs) (g : Gr w w') : Own w' B k e v xs :=
  h.below g fun q hq => (World.ownsRow.lt h q hq).2
theorem Own.alloc {w : World} {B : Nat} {k e v} {xs : List Int} (h : Own w B k e v xs) (o : Obj) : Own (w.alloc o) B k e v xs := h.gr ((Gr.refl w).alloc o)

theorem keepc {B : Nat} {a b : World} (h : Below B a b) {p : Addr} {v : Value} (hp : p.block < B) (hv : a.cell? p = some v) : b.cell? p = some v := (Below.cell h hp).trans hv

theorem one_cell (w : World) (k : IntKind) (e : TypeId) (x : Int) : ∀ j, j < 1 → (w.alloc (.cells #[.int k x] e)).cell? ⟨w.heap.size, j, none⟩ = some (.int k ([x].getD j 0)) := by
  intro j hj
  obtain rfl : j = 0 := by omega
  rw [World.cell?_alloc_new]; rfl

/-- append: to a slice of the call's own, from cells that are known. -/
theorem wp_append_ints {P : Program} {ops : Array Oper} {rest : List Oper} {o : Oper} {a : Act} {Q : Exit → Act → World → Prop} (w : World) (hgd : o.guard = none) (s x : Operand) (t e : TypeId)
    (ho : o.op = .call { callee := .builtin .append, args := #[s, x], argTypes := #[t, t] })
    (k : IntKind) (i : TypeInfo) (bytes : Nat) (ht : P.underlying t = some (.slice e)) (hi : P.info? e = some i) (hz : i.zero = some (.int k 0)) (hsize : i.size = 1) (hby : i.bytes = bytes) (hb8 : bytes ≤ 8)
    (B : Nat) (v : Value) (xs : List Int) (hs : a.eval s = v) (hown : Own w B k e v xs) (N : Nat)
    (h m c : Nat) (ys : List Int) (hx : a.eval x = .slice (some ⟨h, 0, none⟩) m c) (hm : ys.length = m) (hm0 : 0 < m) (hcell : ∀ j, j < m → w.cell? ⟨h, j, none⟩ = some (.int k (ys.getD j 0)))
    (hN : xs.length + m = N) (hb : N ≤ 1000000) (hbase : B ≤ w.heap.size)
    (hK : ∀ g cap w', Own w' B k e (.slice (some ⟨g, 0, none⟩) N cap) (xs ++ ys) → Below B w w' → w.grownBy w' v.ownBlock → B ≤ g → g < w'.heap.size → wpList P ops Q rest (a.put o.dst (.slice (some ⟨g, 0, none⟩) N cap)) w') :
    wpList P ops Q (o :: rest) a w := by
  subst hm hN
  refine wpList_append_own w hgd s x t ho B e i (.int k 0) 1 bytes ht hi hz hsize hby rfl (by omega) v xs.length (xs.map (Value.int k)) hs hown ⟨h, 0, none⟩ ys.length c (ys.map (Value.int k)) hx (by simp)
    ?_ (by intro u hu; simp at hu; obtain ⟨_, _, rfl⟩ := hu; rfl) (by unfold maxLen; omega) ?_ hbase ?_
  · intro j u hj
    have hjl : j < ys.length := by
      rcases Nat.lt_or_ge j ys.length with h | h
      · exact h
      · rw [List.getElem?_eq_none (by simpa using h)] at hj; simp at hj
    rw [Addr.add_lit, Nat.zero_add, hcell j hjl]
    simp [hjl] at hj ⊢
    exact hj
  · have : (xs.length + ys.length) * bytes ≤ (xs.length + ys.length) * 8 := Nat.mul_le_mul_left _ hb8
    omega
  · intro v' w' hown' hgrow hnil
    have ho' : Own w' B k e v' (xs ++ ys) := by
      unfold Own
      rw [List.length_append, List.map_append]
      exact hown'
    have hbel : Below B w w' := (Below.refl B w).grown hgrow hbase (fun q hq => (World.ownsRow.lt hown q hq).1)
    obtain ⟨g, cap, hv, hg, hlt⟩ := ho'.slice (by intro h; simp at h; have := h.2; subst this; simp at hm0)
    subst hv
    rw [List.length_append] at ho' ⊢
    exact hK g cap w' ho' hbel hgrow hg hlt
end Go.Proofs.YtmdpejllbalnnaaGreatDoor
namespace Go.Proofs.YtmdpejllbalnnaaGreatDoor
set_option linter.unusedSimpArgs false
set_option linter.unusedVariables false
open Go.RowKit

theorem two_compl (n : Int) (S : Nat) (hS : S = 2 ∨ S = 4) (i : Nat) (hi : i < S) : (n + 2 ^ (8 * S)) / 256 ^ i % 256 = n / 2 ^ (8 * i) % 256 := by
  rcases hS with rfl | rfl
  · match i, hi with
    | 0, _ => simp; omega
    | 1, _ => simp; omega
  · match i, hi with
    | 0, _ => simp; omega
    | 1, _ => simp; omega
    | 2, _ => simp; omega
    | 3, _ => simp; omega
theorem pow_256 (i : Nat) : (256 : Int) ^ i = 2 ^ (8 * i) := by
  rw [Int.pow_mul]; rfl
theorem bn_eq (n : Int) (S : Nat) : fl S (fun j => n / 256 ^ (S - 1 - j) % 256) = bnB n S := by
  unfold bnB; apply fl_congr; intro i _; rw [pow_256]
theorem bn_neg (n : Int) (S : Nat) (hS : S = 2 ∨ S = 4) : fl S (fun j => (n + 2 ^ (8 * S)) / 256 ^ (S - 1 - j) % 256) = bnB n S := by
  unfold bnB; apply fl_congr; intro i hi; exact two_compl n S hS _ (by omega)

theorem bn_neg2 (n : Int) : fl 2 (fun j => (n + 65536) / 256 ^ (2 - 1 - j) % 256) = bnB n 2 := bn_neg n 2 (.inl rfl)
theorem bn_neg4 (n : Int) : fl 4 (fun j => (n + 4294967296) / 256 ^ (4 - 1 - j) % 256) = bnB n 4 := bn_neg n 4 (.inr rfl)

end Go.Proofs.YtmdpejllbalnnaaGreatDoor
namespace Go.Proofs.YtmdpejllbalnnaaGreatDoor
set_option linter.unusedSimpArgs false
set_option linter.unusedVariables false
open Go.RowKit

theorem dgL_length (a : Int) (L : Nat) : (dgL a L).length = L := fl_length _ _

theorem sgn_count (n : Int) : 15 - 2 * countI (decide (n < 0)) = signI n := by
  unfold countI signI; by_cases h : n < 0 <;> simp [h]
theorem pkH_even (n : Int) (p L : Nat) (hL : 2 * p = L) (hz : dig (absI n) (2 * p) = 0) : ([0] ++ dgL (absI n) L) ++ [15 - 2 * countI (decide (n < 0))] = pkH n (p + 1) := by
  rw [sgn_count]
  subst hL
  apply List.ext_getElem
  · simp [pkH, dgL, fl]; omega
  · intro i h1 h2
    have h3 : i < 2 * (p + 1) := by simpa [pkH, fl] using h2
    simp only [pkH, fl, List.getElem_map, List.getElem_range, dgL]
    by_cases e : i = 2 * (p + 1) - 1
    · subst e
      rw [List.getElem_append_right (by simp; omega)]
      simp
    · rw [if_neg e, List.getElem_append_left (by simp; omega)]
      cases i with
      | zero => simp; rw [show 2 * (p + 1) - 2 = 2 * p by omega]; exact hz.symm
      | succ j => simp; congr 1; omega

end Go.Proofs.YtmdpejllbalnnaaGreatDoor
