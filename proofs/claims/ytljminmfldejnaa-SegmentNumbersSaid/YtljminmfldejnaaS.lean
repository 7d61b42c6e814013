/- Slices that are read (Sv), slices of the call's own (ownsRow), and append onto these. -/
import Derived.Test.YtljminmfldejnaaG
import Derived.Deep.AppendSrc
import Derived.Deep.AppendLies
import Derived.Laws.OwnMore
namespace Go.Proofs.Ytljminmfldejnaa
set_option linter.unusedSimpArgs false
set_option linter.unusedVariables false
open Go.RowKit

/-- A slice that is read: address, length, capacity, cells of an element, and the cells. -/
def Sv (w : World) (A : Option Addr) (n c size : Nat) (xs : List Value) : Prop :=
  xs.length = n * size ∧ n ≤ c ∧ c ≤ maxLen ∧ (A = none → n = 0) ∧ (0 < n → ∃ b o, A = some ⟨b, o, none⟩ ∧ b < w.heap.size ∧ ∀ j, j < n * size → w.cell? ⟨b, o + j, none⟩ = xs[j]?)
section
variable {a w : World} {A : Option Addr} {n c size : Nat} {xs : List Value}
theorem Sv.len (h : Sv w A n c size xs) : xs.length = n * size := h.1
theorem Sv.cap (h : Sv w A n c size xs) : n ≤ c := h.2.1
theorem Sv.max (h : Sv w A n c size xs) : n ≤ 9223372036854775807 := by have := h.2.1; have := h.2.2.1; unfold maxLen at this; omega
theorem Sv.max' (h : Sv w A n c size xs) : c ≤ 9223372036854775807 := by have := h.2.2.1; unfold maxLen at this; omega
theorem Sv.at_ (h : Sv w A n c size xs) (hn : 0 < n) : ∃ b o, A = some ⟨b, o, none⟩ ∧ b < w.heap.size ∧ ∀ j, j < n * size → w.cell? ⟨b, o + j, none⟩ = xs[j]? := h.2.2.2.2 hn
theorem Sv.gr (h : Sv a A n c size xs) (g : Gr a w) : Sv w A n c size xs :=
  ⟨h.1, h.2.1, h.2.2.1, h.2.2.2.1, fun hn => by
    obtain ⟨b, o, e, hb, hc⟩ := h.2.2.2.2 hn
    exact ⟨b, o, e, Nat.lt_of_lt_of_le hb g.size, fun j hj => (g.cells.1 b (o + j) hb).trans (hc j hj)⟩⟩
theorem Sv.nil (w : World) (size : Nat) : Sv w none 0 0 size [] := ⟨by simp, by omega, by unfold maxLen; omega, fun _ => rfl, fun h => absurd h (by omega)⟩
theorem Sv.zero (h : Sv w A 0 c size xs) : xs = [] := List.eq_nil_of_length_eq_zero (by simpa using h.1)
theorem Sv.setFar (h : Sv w A n c size xs) {p : Addr} (u : Value) (hp : ∀ x, A = some x → 0 < n → x.block ≠ p.block) : Sv (w.setCell p u) A n c size xs :=
  ⟨h.1, h.2.1, h.2.2.1, h.2.2.2.1, fun hn => by
    obtain ⟨b, o, e, hb, hc⟩ := h.2.2.2.2 hn
    have hne := hp _ e hn
    refine ⟨b, o, e, by simpa [World.setCell] using hb, fun j hj => ?_⟩
    rw [World.cell?_setCell_other _ _ _ _ (fun e' => hne (by rw [e']))]
    exact hc j hj⟩
/-- A slice of the call's own that lies from block B on, and may be written. -/
def Wv (w : World) (B : Nat) (A : Option Addr) (n c size : Nat) (xs : List Value) : Prop :=
  Sv w A n c size xs ∧ (0 < n → ∃ g, A = some ⟨g, 0, none⟩ ∧ B ≤ g ∧ g < w.heap.size ∧ (∀ j, j < n * size → w.cell? ⟨g, j, none⟩ = xs[j]?) ∧ ∀ j, w.frozen? ⟨g, j, none⟩ = false)
variable {B : Nat}
theorem Wv.sv (h : Wv w B A n c size xs) : Sv w A n c size xs := h.1
theorem Wv.at_ (h : Wv w B A n c size xs) (hn : 0 < n) : ∃ g, A = some ⟨g, 0, none⟩ ∧ B ≤ g ∧ g < w.heap.size ∧ (∀ j, j < n * size → w.cell? ⟨g, j, none⟩ = xs[j]?) ∧ ∀ j, w.frozen? ⟨g, j, none⟩ = false := h.2 hn
theorem Wv.gr (h : Wv a B A n c size xs) (g : Gr a w) : Wv w B A n c size xs :=
  ⟨h.1.gr g, fun hn => by
    obtain ⟨b, e, hb, hl, hc, hf⟩ := h.2 hn
    exact ⟨b, e, hb, Nat.lt_of_lt_of_le hl g.size, fun j hj => (g.cells.1 b j hl).trans (hc j hj), fun j => (g.cells.2 b j hl).trans (hf j)⟩⟩
theorem Wv.mono {B' : Nat} (h : Wv w B A n c size xs) (hb : B' ≤ B) : Wv w B' A n c size xs :=
  ⟨h.1, fun hn => by obtain ⟨g, e, h1, h2⟩ := h.2 hn; exact ⟨g, e, Nat.le_trans hb h1, h2⟩⟩
theorem Wv.setCell {g : Nat} (h : Wv w B (some ⟨g, 0, none⟩) n c size xs) (i : Nat) (hi : i < n * size) (u : Value) : Wv (w.setCell ⟨g, i, none⟩ u) B (some ⟨g, 0, none⟩) n c size (xs.set i u) := by
  have hn : 0 < n := Nat.pos_of_ne_zero (by intro e; subst e; simp at hi)
  obtain ⟨g', e, hb, hl, hc, hf⟩ := h.2 hn
  simp only [Option.some.injEq, Addr.mk.injEq, and_true] at e
  subst e
  have hlen := h.1.1
  have key : ∀ j, j < n * size → (w.setCell ⟨g, i, none⟩ u).cell? ⟨g, j, none⟩ = (xs.set i u)[j]? := by
    intro j hj
    by_cases e : j = i
    · subst e
      have h0 := hc j hj
      rw [List.getElem?_eq_getElem (by omega)] at h0
      rw [World.cell?_setCell_same _ _ _ h0, List.getElem?_set_self (by omega)]
    · rw [World.cell?_setCell_other _ _ _ _ (by first | (simp; done) | (simp; omega)), hc j hj, List.getElem?_set_ne (by omega)]
  have hs : g < (w.setCell ⟨g, i, none⟩ u).heap.size := by simpa [World.setCell] using hl
  refine ⟨⟨by simpa using hlen, h.1.2.1, h.1.2.2.1, (fun h => by cases h), fun _ => ⟨g, 0, rfl, hs, fun j hj => by rw [Nat.zero_add]; exact key j hj⟩⟩, fun _ => ⟨g, rfl, hb, hs, key, fun j => ?_⟩⟩
  rw [World.frozen?_setCell]; exact hf j
theorem Wv.setFar (h : Wv w B A n c size xs) {p : Addr} (u : Value) (hp : ∀ x, A = some x → 0 < n → x.block ≠ p.block) : Wv (w.setCell p u) B A n c size xs :=
  ⟨h.1.setFar u hp, fun hn => by
    obtain ⟨g, e, hb, hl, hc, hf⟩ := h.2 hn
    have hne := hp _ e hn
    refine ⟨g, e, hb, by simpa [World.setCell] using hl, fun j hj => ?_, fun j => ?_⟩
    · rw [World.cell?_setCell_other _ _ _ _ (fun e' => hne (by rw [e']))]; exact hc j hj
    · rw [World.frozen?_setCell]; exact hf j⟩
theorem wv_of_own {e : TypeId} {v : Value} (h : w.ownsRow B e size v n xs) : ∃ A c, v = .slice A n c ∧ Wv w B A n c size xs := by
  rcases Nat.eq_zero_or_pos n with hn | hn
  · subst hn
    have hl := h.1
    have e0 : xs = [] := List.eq_nil_of_length_eq_zero (by simpa using hl)
    subst e0
    rcases h.2 with ⟨hv, _⟩ | ⟨g, cap, cur, hv, _, _, h1, h2, _⟩
    · exact ⟨none, 0, hv, Sv.nil w size, fun h => absurd h (by omega)⟩
    · exact ⟨_, cap, hv, ⟨by simp, h1, h2, (fun h => by cases h), fun h => absurd h (by omega)⟩, fun h => absurd h (by omega)⟩
  · obtain ⟨g, cap, rfl, hb, hl⟩ := h.form hn
    have hcap : n ≤ cap ∧ cap ≤ maxLen := by
      rcases h.2 with ⟨h', _⟩ | ⟨g', cap', cur, h', _, _, h1, h2, _⟩
      · simp at h'
      · simp only [Value.slice.injEq, Option.some.injEq, Addr.mk.injEq, and_true, true_and] at h'
        obtain ⟨rfl, rfl⟩ := h'
        exact ⟨h1, h2⟩
    exact ⟨_, cap, rfl, ⟨h.1, hcap.1, hcap.2, (fun h => by cases h), fun _ => ⟨g, 0, rfl, hl, fun j hj => by rw [Nat.zero_add]; exact h.cellAt j hj⟩⟩, fun _ => ⟨g, rfl, hb, hl, h.cellAt, h.frozenAt⟩⟩
end

/-- append: onto a slice of the call's own, all of a slice that is read (nil, empty or not). -/
theorem op_append_sv {P : Program} {o : Oper} {a : Act} {K : Act → World → Prop} {Q : Exit → Act → World → Prop} (w : World) (s x : Operand) (t e : TypeId)
    (ho : o.op = .call { callee := .builtin .append, args := #[s, x], argTypes := #[t, t] })
    (i : TypeInfo) (z : Value) (size bytes : Nat) (ht : P.underlying t = some (.slice e)) (hi : P.info? e = some i) (hz : i.zero = some z) (hsize : i.size = size) (hby : i.bytes = bytes) (hzs : z.cells.size = size) (hsz : 0 < size)
    (B : Nat) (v : Value) (n : Nat) (xs : List Value) (hs : a.eval s = v) (hown : w.ownsRow B e size v n xs)
    (p : Option Addr) (m c : Nat) (ys : List Value) (hx : a.eval x = .slice p m c) (hsv : Sv w p m c size ys) (h1 : ∀ u ∈ ys, u.oneCell' = true)
    (h63 : n + m ≤ maxLen) (hbytes : (n + m) * bytes ≤ 140737488355328) (hbase : B ≤ w.heap.size)
    (hK : ∀ v' w', w'.ownsRow B e size v' (n + m) (xs ++ ys) → Below B w w' → w.grownBy w' v.ownBlock → K (a.put o.dst v') w') :
    o.wp P a w K Q := by
  rcases Nat.eq_zero_or_pos m with hm | hm
  · subst hm
    have hys := hsv.zero
    subst hys
    have hr : (Builtin.append_ #[t, t] o.type #[v, .slice p 0 c]).run P w = .ok v w := by
      rcases p with _ | ad
      · rcases hown.2 with ⟨rfl, rfl⟩ | ⟨g, cap, cur, rfl, _, _, hnc, _⟩
        · simp [Builtin.append_, run_underlying ht, sizeOf, typeInfo, hi, Builtin.lenOf, Builtin.firstCells]
        · simp [Builtin.append_, run_underlying ht, sizeOf, typeInfo, hi, Builtin.lenOf, Builtin.firstCells, hnc, storeCells]
      · have hf := run_firstCells_some (P := P) w i.size 0 ad 0 c [] (by simp) (by intro j u hj; simp at hj)
        rcases hown.2 with ⟨rfl, rfl⟩ | ⟨g, cap, cur, rfl, _, _, hnc, _⟩
        · simp [Builtin.append_, run_underlying ht, sizeOf, typeInfo, hi, Builtin.lenOf, hf]
        · simp [Builtin.append_, run_underlying ht, sizeOf, typeInfo, hi, Builtin.lenOf, hf, hnc, storeCells]
    unfold Oper.wp execOp
    simp only [ho, resolve, invoke, builtin, Sem.run_bind, Sem.run_pure, Result.andThen_ok, List.map_toArray, List.map_cons, List.map_nil, hs, hx, hr]
    exact hK v w (by simpa using hown) (Below.refl _ _) ⟨rfl, rfl, rfl, Nat.le_refl _, fun _ _ _ => rfl⟩
  · obtain ⟨b, of, rfl, hb, hc⟩ := hsv.at_ hm
    refine wp_append_own w s x t ho B e i z size bytes ht hi hz hsize hby hzs hsz v n xs hs hown ⟨b, of, none⟩ m c ys hx hsv.len (fun j u hj => ?_) h1 h63 hbytes hbase fun v' w' hown' hgrow _ => hK v' w' hown' ((Below.refl B w).grown hgrow hbase fun q hq => (World.ownsRow.lt hown q hq).1) hgrow
    have hjl : j < m * size := by
      have := hsv.len
      rcases Nat.lt_or_ge j ys.length with h | h
      · omega
      · rw [List.getElem?_eq_none (by omega)] at hj; cases hj
    rw [Addr.add_lit, hc j hjl]; exact hj
theorem wp_append_sv {P : Program} {ops : Array Oper} {rest : List Oper} {o : Oper} {a : Act} {Q : Exit → Act → World → Prop} (w : World) (hgd : o.guard = none) (s x : Operand) (t e : TypeId)
    (ho : o.op = .call { callee := .builtin .append, args := #[s, x], argTypes := #[t, t] })
    (i : TypeInfo) (z : Value) (size bytes : Nat) (ht : P.underlying t = some (.slice e)) (hi : P.info? e = some i) (hz : i.zero = some z) (hsize : i.size = size) (hby : i.bytes = bytes) (hzs : z.cells.size = size) (hsz : 0 < size)
    (B : Nat) (v : Value) (n : Nat) (xs : List Value) (hs : a.eval s = v) (hown : w.ownsRow B e size v n xs)
    (p : Option Addr) (m c : Nat) (ys : List Value) (hx : a.eval x = .slice p m c) (hsv : Sv w p m c size ys) (h1 : ∀ u ∈ ys, u.oneCell' = true)
    (h63 : n + m ≤ maxLen) (hbytes : (n + m) * bytes ≤ 140737488355328) (hbase : B ≤ w.heap.size)
    (hK : ∀ v' w', w'.ownsRow B e size v' (n + m) (xs ++ ys) → Below B w w' → w.grownBy w' v.ownBlock → wpList P ops Q rest (a.put o.dst v') w') :
    wpList P ops Q (o :: rest) a w :=
  wpList_plain hgd fun _ hK' => op_append_sv w s x t e ho i z size bytes ht hi hz hsize hby hzs hsz B v n xs hs hown p m c ys hx hsv h1 h63 hbytes hbase fun v' w' h1 h2 h3 => hK' _ _ (hK v' w' h1 h2 h3)
theorem step_append_sv {P : Program} {ops : Array Oper} {o : Oper} {a : Act} {K : Act → World → Prop} {Q : Exit → Act → World → Prop} {E : Prop} (w : World) (hgd : o.guard = none) (s x : Operand) (t e : TypeId)
    (ho : o.op = .call { callee := .builtin .append, args := #[s, x], argTypes := #[t, t] })
    (i : TypeInfo) (z : Value) (size bytes : Nat) (ht : P.underlying t = some (.slice e)) (hi : P.info? e = some i) (hz : i.zero = some z) (hsize : i.size = size) (hby : i.bytes = bytes) (hzs : z.cells.size = size) (hsz : 0 < size)
    (B : Nat) (v : Value) (n : Nat) (xs : List Value) (hs : a.eval s = v) (hown : w.ownsRow B e size v n xs)
    (p : Option Addr) (m c : Nat) (ys : List Value) (hx : a.eval x = .slice p m c) (hsv : Sv w p m c size ys) (h1 : ∀ u ∈ ys, u.oneCell' = true)
    (h63 : n + m ≤ maxLen) (hbytes : (n + m) * bytes ≤ 140737488355328) (hbase : B ≤ w.heap.size)
    (hK : ∀ v' w', w'.ownsRow B e size v' (n + m) (xs ++ ys) → Below B w w' → w.grownBy w' v.ownBlock → K (a.put o.dst v') w') :
    if Region.wanted o (yielded ops a.tmps) = true then Oper.wp P o a w K Q else E := by
  have hw : Region.wanted o (yielded ops a.tmps) = true := by simp [Region.wanted, hgd]
  rw [if_pos hw]
  exact op_append_sv w s x t e ho i z size bytes ht hi hz hsize hby hzs hsz B v n xs hs hown p m c ys hx hsv h1 h63 hbytes hbase hK
end Go.Proofs.Ytljminmfldejnaa
