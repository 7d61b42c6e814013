/- Texts of the walks, merged. -/
import Derived.Test.YtmdpejllbalnnaaGreatDoorQ02
import Derived.Deep.AppendSrc
import Derived.Deep.AppendLies
import Derived.Laws.OwnMore
namespace Go.Proofs.YtmdpejllbalnnaaGreatDoor
set_option linter.unusedSimpArgs false
set_option linter.unusedVariables false
open Go.RowKit

/-- A slice that is read: address, length, capacity, cells of an element, and the cells. -/
def Sv (w : World) (A : Option Addr) (n c size : Nat) (xs : List Value) : Prop :=
  xs.length = n * size ∧ n ≤ c ∧ c ≤ maxLen ∧ (A = none → n = 0) ∧ (0 < n → ∃ b o, A = some ⟨b, o, none⟩ ∧ b < w.heap.size ∧ ∀ j, j < n * size → w.cell? ⟨b, o + j, none⟩ = xs[j]?)
section
variable {a w : World} {A : Option Addr} {n c size : Nat} {xs : List Value}
theorem Sv.len (h : Sv w A n c size xs) : xs.length = n * size := h.1
theorem Sv.cap (h : Sv w A n c size xs) : n ≤ c := h.2.1
theorem Sv.max (h : Sv w A n c size xs) : n ≤ 9223372036854775807 := by have := h.2.1; have := h.2.2.1; unfold maxLen at this; omega
theorem Sv.max' (h : Sv w A n c size xs) : c ≤ 9223372036854775807 := by have := h.2.2.1; unfold maxLen at this; omega
theorem Sv.at_ (h : Sv w A n c size xs) (hn : 0 < n) : ∃ b o, A = some ⟨b, o, none⟩ ∧ b < w.heap.size ∧ ∀ j, j < n * size → w.cell? ⟨b, o + j, none⟩ = xs[j]? := h.2.2.2.2 hn
theorem Sv.gr (h : Sv a A n c size xs) (g : Gr a w) : Sv w A n c size xs :=
  ⟨h.1, h.2.1, h.2.2.1, h.2.2.2.1, fun hn => by
    obtain ⟨b, o, e, hb, hc⟩ := h.2.2.2.2 hn
    exact ⟨b, o, e, Nat.lt_of_lt_of_le hb g.size, fun j hj => (g.cells.1 b (o + j) hb).trans (hc j hj)⟩⟩
theorem Sv.nil (w : World) (size : Nat) : Sv w none 0 0 size [] := ⟨by simp, by omega, by unfold maxLen; omega, fun _ => rfl, fun h => absurd h (by omega)⟩
theorem Sv.zero (h : Sv w A 0 c size xs) : xs = [] := List.eq_nil_of_length_eq_zero (by simpa using h.1)
theorem Sv.setFar (h : Sv w A n c size xs) {p : Addr} (u : Value) (hp : ∀ x, A = some x → 0 < n → x.block ≠ p.block) : Sv (w.setCell p u) A n c size xs :=
  ⟨h.1, h.2.1, h.2.2.1, h.2.2.2.1, fun hn => by
    obtain ⟨b, o, e, hb, hc⟩ := h.2.2.2.2 hn
    have hne := hp _ e hn
    refine ⟨b, o, e, by simpa [World.setCell] using hb, fun j hj => ?_⟩
    rw [World.cell?_setCell_other _ _ _ _ (fun e' => hne (by rw [e']))]
    exact hc j hj⟩
/-- A slice of the call's own that lies from block B on, and may be written. -/
def Wv (w : World) (B : Nat) (A : Option Addr) (n c size : Nat) (xs : List Value) : Prop :=
  Sv w A n c size xs ∧ (0 < n → ∃ g, A = some ⟨g, 0, none⟩ ∧ B ≤ g ∧ g < w.heap.size ∧ (∀ j, j < n * size → w.cell? ⟨g, j, none⟩ = xs[j]?) ∧ ∀ j, w.frozen? ⟨g, j, none⟩ = false)
variable {B : Nat}
theorem Wv.sv (h : Wv w B A n c size xs) : Sv w A n c size xs := h.1
theorem Wv.at_ (h : Wv w B A n c size xs) (hn : 0 < n) : ∃ g, A = some ⟨g, 0, none⟩ ∧ B ≤ g ∧ g < w.heap.size ∧ (∀ j, j < n * size → w.cell? ⟨g, j, none⟩ = xs[j]?) ∧ ∀ j, w.frozen? ⟨g, j, none⟩ = false := h.2 hn
theorem Wv.gr (h : Wv a B A n c size xs) (g : Gr a w) : Wv w B A n c size xs :=
  ⟨h.1.gr g, fun hn => by
    obtain ⟨b, e, hb, hl, hc, hf⟩ := h.2 hn
    exact ⟨b, e, hb, Nat.lt_of_lt_of_le hl g.size, fun j hj => (g.cells.1 b j hl).trans (hc j hj), fun j => (g.cells.2 b j hl).trans (hf j)⟩⟩
theorem Wv.mono {B' : Nat} (h : Wv w B A n c size xs) (hb : B' ≤ B) : Wv w B' A n c size xs :=
  ⟨h.1, fun hn => by obtain ⟨g, e, h1, h2⟩ := h.2 hn; exact ⟨g, e, Nat.le_trans hb h1, h2⟩⟩
theorem Wv.setCell {g : Nat} (h : Wv w B (some ⟨g, 0, none⟩) n c size xs) (i : Nat) (hi : i < n * size) (u : Value) : Wv (w.setCell ⟨g, i, none⟩ u) B (some ⟨g, 0, none⟩) n c size (xs.set i u) := by
  have hn : 0 < n := Nat.pos_of_ne_zero (by intro e; subst e; simp at hi)
  obtain ⟨g', e, hb, hl, hc, hf⟩ := h.2 hn
  simp only [Option.some.injEq, Addr.mk.injEq, and_true] at e
  subst e
  have hlen := h.1.1
  have key : ∀ j, j < n * size → (w.setCell ⟨g, i, none⟩ u).cell? ⟨g, j, none⟩ = (xs.set i u)[j]? := by
    intro j hj
    by_cases e : j = i
    · subst e
      have h0 := hc j hj
      rw [List.getElem?_eq_getElem (by omega)] at h0
      rw [World.cell?_setCell_same _ _ _ h0, List.getElem?_set_self (by omega)]
    · rw [World.cell?_setCell_other _ _ _ _ (by first | (simp; done) | (simp; omega)), hc j hj, List.getElem?_set_ne (by omega)]
  have hs : g < (w.setCell ⟨g, i, none⟩ u).heap.size := by simpa [World.setCell] using hl
  refine ⟨⟨by simpa using hlen, h.1.2.1, h.1.2.2.1, (fun h => by cases h), fun _ => ⟨g, 0, rfl, hs, fun j hj => by rw [Nat.zero_add]; exact key j hj⟩⟩, fun _ => ⟨g, rfl, hb, hs, key, fun j => ?_⟩⟩
  rw [World.frozen?_setCell]; exact hf j
theorem Wv.setFar (h : Wv w B A n c size xs) {p : Addr} (u : Value) (hp : ∀ x, A = some x → 0 < n → x.block ≠ p.block) : Wv (w.setCell p u) B A n c size xs :=
  ⟨h.1.setFar u hp, fun hn => by
    obtain ⟨g, e, hb, hl, hc, hf⟩ := h.2 hn
    have hne := hp _ e hn
    refine ⟨g, e, hb, by simpa [World.setCell] using hl, fun j hj => ?_, fun j => ?_⟩
    · rw [World.cell?_setCell_other _ _ _ _ (fun e' => hne (by rw [e']))]; exact hc j hj
    · rw [World.frozen?_setCell]; exact hf j⟩
theorem wv_of_own {e : TypeId} {v : Value} (h : w.ownsRow B e size v n xs) : ∃ A c, v = .slice A n c ∧ Wv w B A n c size xs := by
  rcases Nat.eq_zero_or_pos n with hn | hn
  · subst hn
    have hl := h.1
    have e0 : xs = [] := List.eq_nil_of_length_eq_zero (by simpa using hl)
    subst e0
    rcases h.2 with ⟨hv, _⟩ | ⟨g, cap, cur, hv, _, _, h1, h2, _⟩
    · exact ⟨none, 0, hv, Sv.nil w size, fun h => absurd h (by omega)⟩
    · exact ⟨_, cap, hv, ⟨by simp, h1, h2, (fun h => by cases h), fun h => absurd h (by omega)⟩, fun h => absurd h (by omega)⟩
  · obtain ⟨g, cap, rfl, hb, hl⟩ := h.form hn
    have hcap : n ≤ cap ∧ cap ≤ maxLen := by
      rcases h.2 with ⟨h', _⟩ | ⟨g', cap', cur, h', _, _, h1, h2, _⟩
      · simp at h'
      · simp only [Value.slice.injEq, Option.some.injEq, Addr.mk.injEq, and_true, true_and] at h'
        obtain ⟨rfl, rfl⟩ := h'
        exact ⟨h1, h2⟩
    exact ⟨_, cap, rfl, ⟨h.1, hcap.1, hcap.2, (fun h => by cases h), fun _ => ⟨g, 0, rfl, hl, fun j hj => by rw [Nat.zero_add]; exact h.cellAt j hj⟩⟩, fun _ => ⟨g, rfl, hb, hl, h.cellAt, h.frozenAt⟩⟩
end

/-- append: onto a slice of the call's own, all of a slice that is read (nil, empty or not). -/
theorem op_append_sv {P : Program} {o : Oper} {a : Act} {K : Act → World → Prop} {Q : Exit → Act → World → Prop} (w : World) (s x : Operand) (t e : TypeId)
    (ho : o.op = .call { callee := .builtin .append, args := #[s, x], argTypes := #[t, t] })
    (i : TypeInfo) (z : Value) (size bytes : Nat) (ht : P.underlying t = some (.slice e)) (hi : P.info? e = some i) (hz : i.zero = some z) (hsize : i.size = size) (hby : i.bytes = bytes) (hzs : z.cells.size = size) (hsz : 0 < size)
    (B : Nat) (v : Value) (n : Nat) (xs : List Value) (hs : a.eval s = v) (hown : w.ownsRow B e size v n xs)
    (p : Option Addr) (m c : Nat) (ys : List Value) (hx : a.eval x = .slice p m c) (hsv : Sv w p m c size ys) (h1 : ∀ u ∈ ys, u.oneCell' = true)
    (h63 : n + m ≤ maxLen) (hbytes : (n + m) * bytes ≤ 140737488355328) (hbase : B ≤ w.heap.size)
    (hK : ∀ v' w', w'.ownsRow B e size v' (n + m) (xs ++ ys) → Below B w w' → w.grownBy w' v.ownBlock → K (a.put o.dst v') w') :
    o.wp P a w K Q := by
  rcases Nat.eq_zero_or_pos m with hm | hm
  · subst hm
    have hys := hsv.zero
    subst hys
    have hr : (Builtin.append_ #[t, t] o.type #[v, .slice p 0 c]).run P w = .ok v w := by
      rcases p with _ | ad
      · rcases hown.2 with ⟨rfl, rfl⟩ | ⟨g, cap, cur, rfl, _, _, hnc, _⟩
        · simp [Builtin.append_, run_underlying ht, sizeOf, typeInfo, hi, Builtin.lenOf, Builtin.firstCells]
        · simp [Builtin.append_, run_underlying ht, sizeOf, typeInfo, hi, Builtin.lenOf, Builtin.firstCells, hnc, storeCells]
      · have hf := run_firstCells_some (P := P) w i.size 0 ad 0 c [] (by simp) (by intro j u hj; simp at hj)
        rcases hown.2 with ⟨rfl, rfl⟩ | ⟨g, cap, cur, rfl, _, _, hnc, _⟩
        · simp [Builtin.append_, run_underlying ht, sizeOf, typeInfo, hi, Builtin.lenOf, hf]
        · simp [Builtin.append_, run_underlying ht, sizeOf, typeInfo, hi, Builtin.lenOf, hf, hnc, storeCells]
    unfold Oper.wp execOp
    simp only [ho, resolve, invoke, builtin, Sem.run_bind, Sem.run_pure, Result.andThen_ok, List.map_toArray, List.map_cons, List.map_nil, hs, hx, hr]
    exact hK v w (by simpa using hown) (Below.refl _ _) ⟨rfl, rfl, rfl, Nat.le_refl _, fun _ _ _ => rfl⟩
  · obtain ⟨b, of, rfl, hb, hc⟩ := hsv.at_ hm
    refine wp_append_own w s x t ho B e i z size bytes ht hi hz hsize hby hzs hsz v n xs hs hown ⟨b, of, none⟩ m c ys hx hsv.len (fun j u hj => ?_) h1 h63 hbytes hbase fun v' w' hown' hgrow _ => hK v' w' hown' ((Below.refl B w).grown hgrow hbase fun q hq => (World.ownsRow.lt hown q hq).1) hgrow
    have hjl : j < m * size := by
      have := hsv.len
      rcases Nat.lt_or_ge j ys.length with h | h
      · omega
      · rw [List.getElem?_eq_none (by omega)] at hj; cases hj
    rw [Addr.add_lit, hc j hjl]; exact hj
theorem wp_append_sv {P : Program} {ops : Array Oper} {rest : List Oper} {o : Oper} {a : Act} {Q : Exit → Act → World → Prop} (w : World) (hgd : o.guard = none) (s x : Operand) (t e : TypeId)
    (ho : o.op = .call { callee := .builtin .append, args := #[s, x], argTypes := #[t, t] })
    (i : TypeInfo) (z : Value) (size bytes : Nat) (ht : P.underlying t = some (.slice e)) (hi : P.info? e = some i) (hz : i.zero = some z) (hsize : i.size = size) (hby : i.bytes = bytes) (hzs : z.cells.size = size) (hsz : 0 < size)
    (B : Nat) (v : Value) (n : Nat) (xs : List Value) (hs : a.eval s = v) (hown : w.ownsRow B e size v n xs)
    (p : Option Addr) (m c : Nat) (ys : List Value) (hx : a.eval x = .slice p m c) (hsv : Sv w p m c size ys) (h1 : ∀ u ∈ ys, u.oneCell' = true)
    (h63 : n + m ≤ maxLen) (hbytes : (n + m) * bytes ≤ 140737488355328) (hbase : B ≤ w.heap.size)
    (hK : ∀ v' w', w'.ownsRow B e size v' (n + m) (xs ++ ys) → Below B w w' → w.grownBy w' v.ownBlock → wpList P ops Q rest (a.put o.dst v') w') :
    wpList P ops Q (o :: rest) a w :=
  wpList_plain hgd fun _ hK' => op_append_sv w s x t e ho i z size bytes ht hi hz hsize hby hzs hsz B v n xs hs hown p m c ys hx hsv h1 h63 hbytes hbase fun v' w' h1 h2 h3 => hK' _ _ (hK v' w' h1 h2 h3)
theorem step_append_sv {P : Program} {ops : Array Oper} {o : Oper} {a : Act} {K : Act → World → Prop} {Q : Exit → Act → World → Prop} {E : Prop} (w : World) (hgd : o.guard = none) (s x : Operand) (t e : TypeId)
    (ho : o.op = .call { callee := .builtin .append, args := #[s, x], argTypes := #[t, t] })
    (i : TypeInfo) (z : Value) (size bytes : Nat) (ht : P.underlying t = some (.slice e)) (hi : P.info? e = some i) (hz : i.zero = some z) (hsize : i.size = size) (hby : i.bytes = bytes) (hzs : z.cells.size = size) (hsz : 0 < size)
    (B : Nat) (v : Value) (n : Nat) (xs : List Value) (hs : a.eval s = v) (hown : w.ownsRow B e size v n xs)
    (p : Option Addr) (m c : Nat) (ys : List Value) (hx : a.eval x = .slice p m c) (hsv : Sv w p m c size ys) (h1 : ∀ u ∈ ys, u.oneCell' = true)
    (h63 : n + m ≤ maxLen) (hbytes : (n + m) * bytes ≤ 140737488355328) (hbase : B ≤ w.heap.size)
    (hK : ∀ v' w', w'.ownsRow B e size v' (n + m) (xs ++ ys) → Below B w w' → w.grownBy w' v.ownBlock → K (a.put o.dst v') w') :
    if Region.wanted o (yielded ops a.tmps) = true then Oper.wp P o a w K Q else E := by
  have hw : Region.wanted o (yielded ops a.tmps) = true := by simp [Region.wanted, hgd]
  rw [if_pos hw]
  exact op_append_sv w s x t e ho i z size bytes ht hi hz hsize hby hzs hsz B v n xs hs hown p m c ys hx hsv h1 h63 hbytes hbase hK
end Go.Proofs.YtmdpejllbalnnaaGreatDoor
namespace Go.Proofs.YtmdpejllbalnnaaGreatDoor
set_option linter.unusedSimpArgs false
set_option linter.unusedVariables false
open Go.RowKit
set_option maxRecDepth 100000 in
/-- s[i:j] -/
theorem cut_ij (s : ByteArray) (i j : Int) (a b : Nat) (ha : i = a) (hb : j = b) (h1 : a ≤ b) (h2 : b ≤ s.size) (w : World) :
    (Instr.slice 9 (.string s) (some (.int .i64 i)) (some (.int .i64 j)) none).run Tryz.prog w = .ok (.string (s.extract a b)) w := by
  have h := run_slice_string (P := Tryz.prog) w 9 s .i64 .i64 i j Tryz.underlying9 (by omega) (by omega) (by omega)
  rw [h, show i.toNat = a by omega, show j.toNat = b by omega]
theorem Wv.setLow {w : World} {B : Nat} {A : Option Addr} {n c size : Nat} {xs : List Value} (h : Wv w B A n c size xs) {p : Addr} (hp : p.block < B) (u : Value) : Wv (w.setCell p u) B A n c size xs :=
  h.setFar u fun x e hn => by
    obtain ⟨g, e', hb, _⟩ := h.2 hn
    rw [e] at e'
    simp only [Option.some.injEq] at e'
    subst e'
    show g ≠ p.block
    omega
theorem Wv.drew {w : World} {B : Nat} {A : Option Addr} {n c size : Nat} {xs : List Value} (h : Wv w B A n c size xs) : Wv w.drew B A n c size xs := h
end Go.Proofs.YtmdpejllbalnnaaGreatDoor
namespace Go.Proofs.YtmdpejllbalnnaaGreatDoor
set_option linter.unusedSimpArgs false
set_option linter.unusedVariables false
open Go.RowKit
set_option maxRecDepth 100000 in
/-- s[:j] -/
theorem cut_j (s : ByteArray) (j : Int) (b : Nat) (hb : j = b) (h2 : b ≤ s.size) (w : World) :
    (Instr.slice 9 (.string s) none (some (.int .i64 j)) none).run Tryz.prog w = .ok (.string (s.extract 0 b)) w := by
  rw [run_slice_string_h (P := Tryz.prog) w 9 s Tryz.underlying9 .i64 j (by omega) (by omega), show j.toNat = b by omega]
set_option maxRecDepth 100000 in
/-- s[i:] -/
theorem cut_i (s : ByteArray) (i : Int) (a : Nat) (ha : i = a) (h2 : a ≤ s.size) (w : World) :
    (Instr.slice 9 (.string s) (some (.int .i64 i)) none none).run Tryz.prog w = .ok (.string (s.extract a s.size)) w := by
  rw [run_slice_string_l (P := Tryz.prog) w 9 s Tryz.underlying9 .i64 i (by omega) (by omega), show i.toNat = a by omega]
theorem add_ss (s t : ByteArray) (h : s.size + t.size ≤ 9223372036854775807) (w : World) : (Op.stringOp .add s t).run Tryz.prog w = .ok (.string (s ++ t)) w := run_string_add_sum w s t h
/-- A string with other bytes from a place on. -/
def pS (x : ByteArray) (a : Nat) (d : ByteArray) : ByteArray := x.extract 0 a ++ d ++ x.extract (a + d.size) x.size
theorem pS_size {x : ByteArray} {a : Nat} {d : ByteArray} (h : a + d.size ≤ x.size) : (pS x a d).size = x.size := by
  unfold pS
  simp only [ByteArray.size_append, ByteArray.size_extract]
  omega
theorem Gr.and_below {a b c : World} {B : Nat} (h : Gr a b) (k : Below B b c) (hB : a.heap.size ≤ B) : Gr a c := Below.trans h (k.mono hB)
/-- A slice that lay in an older world is kept by a store into a block that is new since. -/
theorem Wv.setNew {a w : World} {B : Nat} {A : Option Addr} {n c size : Nat} {xs : List Value} (h : Wv a B A n c size xs) (g : Gr a w) {p : Addr} (hp : a.heap.size ≤ p.block) (u : Value) : Wv (w.setCell p u) B A n c size xs :=
  (h.gr g).setFar u fun x e hn => by
    obtain ⟨k, e', _, hl, _⟩ := h.2 hn
    rw [e] at e'
    simp only [Option.some.injEq] at e'
    subst e'
    show k ≠ p.block
    omega
end Go.Proofs.YtmdpejllbalnnaaGreatDoor
namespace Go.Proofs.YtmdpejllbalnnaaGreatDoor
set_option linter.unusedSimpArgs false
set_option linter.unusedVariables false
open Go.RowKit

/-- The first index from i on, of m, at which f holds; else the end. -/
def fB (f : Nat → Bool) : Nat → Nat → Nat
  | 0, i => i
  | m + 1, i => if f i then i else fB f m (i + 1)
theorem fB_yes {f : Nat → Bool} {m i : Nat} (hm : 0 < m) (h : f i = true) : fB f m i = i := by
  obtain ⟨k, rfl⟩ : ∃ k, m = k + 1 := ⟨m - 1, by omega⟩
  simp [fB, h]
theorem fB_no {f : Nat → Bool} {n q : Nat} (hq : q < n) (h : f q = false) : fB f (n - q) q = fB f (n - (q + 1)) (q + 1) := by
  obtain ⟨k, hk⟩ : ∃ k, n - q = k + 1 := ⟨n - q - 1, by omega⟩
  rw [hk, show n - (q + 1) = k by omega]
  simp [fB, h]
theorem fB_le (f : Nat → Bool) : ∀ m i, i ≤ fB f m i ∧ fB f m i ≤ i + m
  | 0, i => by simp [fB]
  | m + 1, i => by
    have := fB_le f m (i + 1)
    simp only [fB]; split <;> omega
theorem fB_bad (f : Nat → Bool) : ∀ m i, fB f m i < i + m → f (fB f m i) = true
  | 0, i => by simp [fB]
  | m + 1, i => by
    intro h
    by_cases e : f i = true
    · rw [fB, if_pos e]; exact e
    · rw [fB, if_neg e] at h ⊢
      exact fB_bad f m (i + 1) (by omega)
theorem fB_all (f : Nat → Bool) : ∀ m i, fB f m i = i + m → ∀ k, i ≤ k → k < i + m → f k = false
  | 0, i => by intro _ k h1 h2; omega
  | m + 1, i => by
    intro h k h1 h2
    by_cases e : f i = true
    · rw [fB, if_pos e] at h; omega
    · rw [fB, if_neg e] at h
      rcases Nat.eq_or_lt_of_le h1 with rfl | h3
      · simpa using e
      · exact fB_all f m (i + 1) (by omega) k (by omega) (by omega)

theorem wf64 {a : Int} (h : (Lit.int .i64 a).wf = true) : -9223372036854775808 ≤ a ∧ a ≤ 9223372036854775807 := by
  simp only [Lit.wf, Bool.and_eq_true, decide_eq_true_eq] at h
  have h1 := h.1
  have h2 := h.2
  simp [IntKind.min, IntKind.max, IntKind.signed, IntKind.bits] at h1 h2
  omega
def wiB (n a b : Int) : Bool := decide (a ≤ n) && decide (n ≤ b)
theorem wiB_yes {n a b : Int} (h1 : a ≤ n) (h2 : n ≤ b) : wiB n a b = true := by simp [wiB, h1, h2]
theorem wiB_no {n a b : Int} (h : n < a ∨ b < n) : wiB n a b = false := by
  unfold wiB
  rcases h with h | h
  · rw [decide_eq_false (by omega)]; rfl
  · rw [decide_eq_false (p := n ≤ b) (by omega)]; simp
theorem wiB_iff {n a b : Int} : wiB n a b = true ↔ a ≤ n ∧ n ≤ b := by simp [wiB]
end Go.Proofs.YtmdpejllbalnnaaGreatDoor
namespace Go.Proofs.YtmdpejllbalnnaaGreatDoor
set_option linter.unusedSimpArgs false
set_option linter.unusedVariables false
open Go.RowKit

theorem fB_before (f : Nat → Bool) : ∀ m i k, i ≤ k → k < fB f m i → f k = false
  | 0, i, k, h, h' => by simp [fB] at h'; omega
  | m + 1, i, k, h, h' => by
    by_cases hf : f i = true
    · rw [fB_yes (by omega) hf] at h'; omega
    · have hf' : f i = false := by simpa using hf
      rcases Nat.eq_or_lt_of_le h with e | e
      · rw [← e]; exact hf'
      · rw [fB, if_neg (by rw [hf']; decide)] at h'
        exact fB_before f m (i + 1) k e h'
/-- A byte is a digit. -/
def dgt (c : Int) : Bool := decide (48 ≤ c) && decide (c ≤ 57)
/-- The end of the digits from a on. -/
def dE (f : Nat → Int) (L a : Nat) : Nat := fB (fun j => !dgt (f j)) (L - a) a
theorem dE_le (f : Nat → Int) {L a : Nat} (h : a ≤ L) : a ≤ dE f L a ∧ dE f L a ≤ L := by
  have := fB_le (fun j => !dgt (f j)) (L - a) a
  unfold dE; omega
theorem dE_step (f : Nat → Int) {L a : Nat} (h : a < L) (hd : dgt (f a) = true) : dE f L a = dE f L (a + 1) := by
  unfold dE; exact fB_no h (by simp [hd])
theorem dE_stop (f : Nat → Int) {L a : Nat} (h : a < L) (hd : dgt (f a) = false) : dE f L a = a := by
  unfold dE; exact fB_yes (by omega) (by simp [hd])
theorem dE_end (f : Nat → Int) (L : Nat) : dE f L L = L := by simp [dE, fB]
/-- Why a text is wrong at an offset. -/
def stp (L a : Nat) : Int := if a = L then 9 else 8
/-- What is wrong with a text that is not empty: an offset and an error, ErrSyntax 8 or ErrEnd 9. -/
def sgnT (f : Nat → Int) : Nat := if f 0 = 45 then 1 else 0
/-- The end of the digits before a point. -/
def wE (f : Nat → Int) (L : Nat) : Nat := if f (sgnT f) = 48 then sgnT f + 1 else dE f L (sgnT f)
def ckT (f : Nat → Int) (L : Nat) : Nat × Int :=
  if dE f L (sgnT f) = sgnT f then (sgnT f, stp L (sgnT f))
  else if wE f L = L then (0, 0)
  else if f (wE f L) = 46 then
    (if dE f L (wE f L + 1) = wE f L + 1 ∨ dE f L (wE f L + 1) < L then (dE f L (wE f L + 1), stp L (dE f L (wE f L + 1))) else (0, 0))
  else (wE f L, 8)
/-- Where the reference's first loop may be: so far all is right. -/
def Ok1 (f : Nat → Int) (L a : Nat) (p : Int) : Prop :=
  sgnT f ≤ a ∧ a ≤ L ∧ ((p = -1 ∧ dE f L a = dE f L (sgnT f) ∧ (f (sgnT f) = 48 → a ≤ sgnT f + 1) ∧ (sgnT f < a → dgt (f (sgnT f)) = true)) ∨
    (∃ q : Nat, p = q ∧ sgnT f < q ∧ q < a ∧ f q = 46 ∧ q = wE f L ∧ dE f L (sgnT f) ≠ sgnT f ∧ dE f L a = dE f L (q + 1)))
theorem ok1_start (f : Nat → Int) {L : Nat} (h : 0 < L) : Ok1 f L (sgnT f) (-1) := by
  refine ⟨Nat.le_refl _, ?_, Or.inl ⟨rfl, rfl, fun _ => by omega, fun h => by omega⟩⟩
  unfold sgnT; split <;> omega
theorem wE_at (f : Nat → Int) {L a : Nat} (h : Ok1 f L a (-1)) (hlt : sgnT f < a) (hL : a < L) (hn : dgt (f a) = false ∨ (a = sgnT f + 1 ∧ f (sgnT f) = 48)) : wE f L = a ∧ dE f L (sgnT f) ≠ sgnT f := by
  obtain ⟨h1, h2, ⟨-, h3, h4, h5⟩ | ⟨q, h3, _⟩⟩ := h
  · have hne : dE f L (sgnT f) ≠ sgnT f := by
      rw [dE_step f (by omega) (h5 hlt)]
      have := dE_le f (L := L) (a := sgnT f + 1) (by omega)
      omega
    refine ⟨?_, hne⟩
    unfold wE
    by_cases e : f (sgnT f) = 48
    · rw [if_pos e]; have := h4 e; omega
    · rw [if_neg e, ← h3]
      rcases hn with hn | hn
      · exact dE_stop f hL hn
      · exact absurd hn.2 e
  · omega
/-- The point is met. -/
theorem ok1_point (f : Nat → Int) {L a : Nat} (h : Ok1 f L a (-1)) (hlt : sgnT f < a) (hL : a < L) (hc : f a = 46) : Ok1 f L (a + 1) a := by
  have hd : dgt (f a) = false := by rw [hc]; decide
  obtain ⟨h6, h7⟩ := wE_at f h hlt hL (Or.inl hd)
  exact ⟨by omega, by omega, Or.inr ⟨a, rfl, hlt, by omega, hc, h6.symm, h7, rfl⟩⟩
/-- A digit that may stand there. -/
theorem ok1_digit (f : Nat → Int) {L a : Nat} {p : Int} (h : Ok1 f L a p) (hL : a < L) (hd : dgt (f a) = true) (hz : ¬ (p = -1 ∧ a = sgnT f + 1 ∧ f (sgnT f) = 48)) : Ok1 f L (a + 1) p := by
  obtain ⟨h1, h2, ⟨rfl, h3, h4, h5⟩ | ⟨q, rfl, h3, h4, h5, h6, h7, h8⟩⟩ := h
  · refine ⟨by omega, by omega, Or.inl ⟨rfl, ?_, fun e => ?_, fun _ => ?_⟩⟩
    · rw [← h3]; exact (dE_step f hL hd).symm
    · have := h4 e
      by_cases ea : a = sgnT f + 1
      · exact absurd ⟨rfl, ea, e⟩ hz
      · omega
    · by_cases ea : a = sgnT f
      · rw [← ea]; exact hd
      · exact h5 (by omega)
  · exact ⟨by omega, by omega, Or.inr ⟨q, rfl, h3, by omega, h5, h6, h7, by rw [← h8]; exact (dE_step f hL hd).symm⟩⟩
/-- The loop's exit at a wrong byte. -/
theorem ck_bad (f : Nat → Int) {L a : Nat} {p : Int} (h : Ok1 f L a p) (hL : a < L) (hp : ¬ (f a = 46 ∧ p = -1 ∧ sgnT f < a)) (hd : dgt (f a) = false ∨ (p = -1 ∧ a = sgnT f + 1 ∧ f (sgnT f) = 48)) : ckT f L = (a, 8) := by
  have h0 := h
  obtain ⟨h1, h2, ⟨rfl, h3, h4, h5⟩ | ⟨q, rfl, h3, h4, h5, h6, h7, h8⟩⟩ := h
  · by_cases ea : a = sgnT f
    · have hd' : dgt (f a) = false := by
        rcases hd with hd | hd
        · exact hd
        · omega
      have := dE_stop f hL hd'
      unfold ckT
      rw [ea] at this
      rw [if_pos this, ea]; unfold stp; rw [if_neg (by omega)]
    · obtain ⟨e1, e2⟩ := wE_at f h0 (by omega) hL (by rcases hd with hd | hd; exact Or.inl hd; exact Or.inr hd.2)
      unfold ckT
      rw [if_neg e2, e1, if_neg (by omega), if_neg (fun e => hp ⟨e, rfl, by omega⟩)]
  · have hd' : dgt (f a) = false := by
      rcases hd with hd | hd
      · exact hd
      · omega
    have e := dE_stop f hL hd'
    unfold ckT
    rw [if_neg h7, ← h6, if_neg (by omega), if_pos h5, ← h8, e, if_pos (Or.inr hL)]; unfold stp; rw [if_neg (by omega)]
/-- The loop's end: nothing was there, or nothing behind the point. -/
theorem ck_end (f : Nat → Int) {L : Nat} {p : Int} (h : Ok1 f L L p) : ckT f L = if L = sgnT f ∨ p = (L : Int) - 1 then (L, 9) else (0, 0) := by
  have h0 := h
  obtain ⟨h1, h2, ⟨rfl, h3, h4, h5⟩ | ⟨q, rfl, h3, h4, h5, h6, h7, h8⟩⟩ := h
  · rw [dE_end] at h3
    by_cases ea : L = sgnT f
    · unfold ckT
      rw [if_pos (by omega), if_pos (Or.inl ea), ← ea]; unfold stp; rw [if_pos rfl]
    · unfold ckT
      rw [if_neg (show ¬ dE f L (sgnT f) = sgnT f by omega), if_neg (show ¬ (L = sgnT f ∨ (-1 : Int) = (L : Int) - 1) by omega), if_pos]
      unfold wE
      by_cases e : f (sgnT f) = 48
      · rw [if_pos e]; have := h4 e; omega
      · rw [if_neg e]; omega
  · rw [dE_end] at h8
    unfold ckT
    rw [if_neg h7, ← h6, if_neg (by omega), if_pos h5]
    by_cases e : q + 1 = L
    · rw [if_pos (Or.inl (by omega)), if_pos (Or.inr (by omega)), ← h8]; unfold stp; rw [if_pos rfl]
    · rw [if_neg (by omega), if_neg (by omega)]
theorem dE_all (f : Nat → Int) {L a j : Nat} (h : a ≤ j) (hj : j < dE f L a) (hL : a ≤ L) : dgt (f j) = true := by
  have h1 := dE_le f hL
  have h2 := fB_before (fun j => !dgt (f j)) (L - a) a j h hj
  simpa using h2
/-- The reference's second loop: how many digits count, behind k bytes; the scale; the number. -/
def skp (a : Nat) (p : Int) (k : Nat) : Bool := decide (((a + k : Nat) : Int) = p)
def bhd (a : Nat) (p : Int) (k : Nat) : Bool := !decide (p = -1) && decide (p < ((a + k : Nat) : Int))
def cntN (f : Nat → Int) (a : Nat) (p : Int) : Nat → Nat
  | 0 => 0
  | k + 1 => if skp a p k then cntN f a p k else if bhd a p k || decide (0 < cntN f a p k) || !decide (f (a + k) = 48) then cntN f a p k + 1 else cntN f a p k
def scN (a : Nat) (p : Int) : Nat → Nat
  | 0 => 0
  | k + 1 => if skp a p k then scN a p k else if bhd a p k then scN a p k + 1 else scN a p k
def nvN (f : Nat → Int) (a : Nat) (p : Int) : Nat → Int
  | 0 => 0
  | k + 1 => if skp a p k then nvN f a p k else if cntN f a p (k + 1) ≤ 15 then 10 * nvN f a p k + (f (a + k) - 48) else nvN f a p k
/-- The number of the first k digits. -/
def pvN (g : Nat → Int) : Nat → Int
  | 0 => 0
  | k + 1 => 10 * pvN g k + (g k - 48)
theorem cntN_le (f : Nat → Int) (a : Nat) (p : Int) (k : Nat) : cntN f a p k ≤ k := by
  induction k with
  | zero => simp [cntN]
  | succ k ih => simp only [cntN]; split; omega; split <;> omega
theorem cntN_mono (f : Nat → Int) (a : Nat) (p : Int) (k : Nat) : cntN f a p k ≤ cntN f a p (k + 1) := by
  simp only [cntN]; split; omega; split <;> omega
theorem scN_le (a : Nat) (p : Int) (k : Nat) : scN a p k ≤ k := by
  induction k with
  | zero => simp [scN]
  | succ k ih => simp only [scN]; split; omega; split <;> omega
theorem pvN_bd {g : Nat → Int} : ∀ k : Nat, (∀ i, i < k → dgt (g i) = true) → 0 ≤ pvN g k ∧ pvN g k < 10 ^ k
  | 0, _ => by simp [pvN]
  | k + 1, h => by
    have h1 := pvN_bd k (fun i hi => h i (by omega))
    have h2 := h k (by omega)
    simp only [dgt, Bool.and_eq_true, decide_eq_true_eq] at h2
    rw [Int.pow_succ]
    simp only [pvN]
    omega
theorem pow15 {k : Nat} (h : k ≤ 15) : (10 : Int) ^ k ≤ 1000000000000000 := by
  have h1 : (10 : Nat) ^ k ≤ 10 ^ 15 := Nat.pow_le_pow_right (by omega) h
  have h2 : ((10 ^ k : Nat) : Int) ≤ ((10 ^ 15 : Nat) : Int) := Int.ofNat_le.2 h1
  rw [Int.natCast_pow] at h2
  exact h2
/-- While the reference counts it has at most 15 digits. -/
theorem nvN_bd {f : Nat → Int} {a : Nat} {p : Int} : ∀ k : Nat, (∀ i, i < k → skp a p i = false → dgt (f (a + i)) = true) → 0 ≤ nvN f a p k ∧ nvN f a p k < 10 ^ (min (cntN f a p k) 15) ∧ (cntN f a p k = 0 → nvN f a p k = 0)
  | 0, _ => by simp [nvN, cntN]
  | k + 1, h => by
    obtain ⟨h1, h2, h3⟩ := nvN_bd k (fun i hi => h i (by omega))
    have hm := cntN_mono f a p k
    have hl : (10 : Int) ^ (min (cntN f a p k) 15) ≤ 10 ^ (min (cntN f a p (k + 1)) 15) := by
      have g1 : (10 : Nat) ^ (min (cntN f a p k) 15) ≤ 10 ^ (min (cntN f a p (k + 1)) 15) := Nat.pow_le_pow_right (by omega) (by omega)
      have g2 := Int.ofNat_le.2 g1
      rw [Int.natCast_pow, Int.natCast_pow] at g2
      exact g2
    rcases Bool.eq_false_or_eq_true (skp a p k) with hs | hs
    · have e1 : nvN f a p (k + 1) = nvN f a p k := by simp [nvN, hs]
      have e2 : cntN f a p (k + 1) = cntN f a p k := by simp [cntN, hs]
      rw [e1, e2]; exact ⟨h1, h2, h3⟩
    · have hd := h k (by omega) hs
      simp only [dgt, Bool.and_eq_true, decide_eq_true_eq] at hd
      by_cases hc : cntN f a p (k + 1) ≤ 15
      · have e1 : nvN f a p (k + 1) = 10 * nvN f a p k + (f (a + k) - 48) := by rw [nvN, hs, if_neg (by simp), if_pos hc]
        rw [e1]
        by_cases hq : cntN f a p (k + 1) = cntN f a p k + 1
        · rw [hq] at hc ⊢
          rw [Nat.min_eq_left (by omega)] at h2 ⊢
          rw [Int.pow_succ]
          refine ⟨by omega, by omega, by omega⟩
        · have hq0 : cntN f a p (k + 1) = cntN f a p k ∧ cntN f a p k = 0 ∧ f (a + k) = 48 := by
            simp only [cntN, hs] at hq ⊢
            simp only [Bool.false_eq_true, if_false] at hq ⊢
            split at hq
            · omega
            · rename_i hx
              rw [if_neg hx]
              simp only [Bool.or_eq_true, decide_eq_true_eq, Bool.not_eq_true', decide_eq_false_iff_not, not_or, Decidable.not_not] at hx
              omega
          have := h3 hq0.2.1
          rw [hq0.1, hq0.2.1]
          simp
          omega
      · have e1 : nvN f a p (k + 1) = nvN f a p k := by rw [nvN, hs, if_neg (by simp), if_neg hc]
        rw [e1]
        exact ⟨h1, by omega, fun h => by omega⟩
/-- The program's digits: those before the point but a first 0, and those behind it. -/
theorem cnt_pv (f g : Nat → Int) (a q L C : Nat) (p : Int) (z : Nat) (hz : z = if f a = 48 then 1 else 0) (haq : a < q) (hqL : q ≤ L) (hp : (p = -1 ∧ q = L) ∨ (p = q ∧ q < L)) (h48 : f a = 48 → q = a + 1)
    (hg1 : ∀ k, k + z < q - a → g k = f (a + z + k)) (hg2 : ∀ k, k < L - (q + 1) → g (q - a - z + k) = f (q + 1 + k)) :
    (∀ k, k ≤ q - a → cntN f a p k = k - z ∧ scN a p k = 0 ∧ (k - z ≤ 15 → nvN f a p k = pvN g (k - z))) ∧
    (∀ k, q < L → k ≤ L - (q + 1) → cntN f a p (q - a + 1 + k) = q - a - z + k ∧ scN a p (q - a + 1 + k) = k ∧ (q - a - z + k ≤ 15 → nvN f a p (q - a + 1 + k) = pvN g (q - a - z + k))) := by
  have A : ∀ k, k ≤ q - a → cntN f a p k = k - z ∧ scN a p k = 0 ∧ (k - z ≤ 15 → nvN f a p k = pvN g (k - z)) := by
    intro k
    induction k with
    | zero => intro _; simp [cntN, scN, nvN, pvN]
    | succ k ih =>
      intro hk
      obtain ⟨i1, i2, i3⟩ := ih (by omega)
      have hs : skp a p k = false := by simp [skp]; omega
      have hb : bhd a p k = false := by simp [bhd]; omega
      have e2 : scN a p (k + 1) = 0 := by simp [scN, hs, hb, i2]
      by_cases e : f a = 48
      · have hk0 : k = 0 := by have := h48 e; omega
        have hz1 : z = 1 := by rw [hz, if_pos e]
        subst hk0
        have hc : cntN f a p 1 = 0 := by simp [cntN, hs, hb, e]
        refine ⟨by rw [hc, hz1], e2, fun _ => ?_⟩
        rw [nvN, hs, if_neg (by simp), if_pos (by rw [hc]; omega), hz1]
        simp [nvN, pvN, e]
      · have hz0 : z = 0 := by rw [hz, if_neg e]
        subst hz0
        have hc : cntN f a p (k + 1) = k + 1 := by
          rw [cntN, hs, if_neg (by simp), hb, i1]
          by_cases hk0 : k = 0
          · subst hk0; simp [e]
          · rw [if_pos (by simp; omega)]; omega
        refine ⟨by rw [hc]; omega, e2, fun h15 => ?_⟩
        rw [nvN, hs, if_neg (by simp), if_pos (by rw [hc]; omega), i3 (by omega)]
        show _ = pvN g (k + 1)
        rw [pvN, hg1 k (by omega)]; rfl
  refine ⟨A, ?_⟩
  intro k hqL2
  have hp2 : p = q := by omega
  induction k with
  | zero =>
    intro _
    obtain ⟨i1, i2, i3⟩ := A (q - a) (by omega)
    have hs : skp a p (q - a) = true := by simp [skp]; omega
    refine ⟨by simp [cntN, hs, i1], by simp [scN, hs, i2], fun h => ?_⟩
    show nvN f a p (q - a + 1) = _
    rw [nvN, hs, if_pos rfl]; exact i3 (by omega)
  | succ k ih =>
    intro hk
    obtain ⟨i1, i2, i3⟩ := ih (by omega)
    have hs : skp a p (q - a + 1 + k) = false := by simp [skp]; omega
    have hb : bhd a p (q - a + 1 + k) = true := by simp [bhd]; omega
    have hc : cntN f a p (q - a + 1 + (k + 1)) = q - a - z + (k + 1) := by
      show cntN f a p (q - a + 1 + k + 1) = _
      rw [cntN, hs, if_neg (by simp), hb, i1]; simp; omega
    refine ⟨hc, ?_, fun h => ?_⟩
    · show scN a p (q - a + 1 + k + 1) = _
      rw [scN, hs, if_neg (by simp), hb, if_pos rfl, i2]
    · show nvN f a p (q - a + 1 + k + 1) = pvN g (q - a - z + k + 1)
      rw [nvN, hs, if_neg (by simp), if_pos (by show cntN f a p (q - a + 1 + (k + 1)) ≤ 15; rw [hc]; exact h), i3 (by omega), pvN, hg2 k (by omega), show a + (q - a + 1 + k) = q + 1 + k by omega]
/-- A text's bytes. -/
def tAt (s : ByteArray) (i : Nat) : Int := (s.data.toList.getD i 0).toNat
theorem tAt_bd (s : ByteArray) (i : Nat) : 0 ≤ tAt s i ∧ tAt s i ≤ 255 := by
  unfold tAt
  have := (s.data.toList.getD i 0).toNat_lt
  omega
theorem tAt_eq (s : ByteArray) (i : Nat) (h : i < s.size) : ((s[i]'h).toNat : Int) = tAt s i := by
  unfold tAt
  have h' : i < s.data.toList.length := by simpa using h
  rw [List.getD_eq_getElem?_getD, List.getElem?_eq_getElem h']
  rfl
theorem tAt_extract (s : ByteArray) (a b i : Nat) (h : a + i < b) (hb : b ≤ s.size) : tAt (s.extract a b) i = tAt s (a + i) := by
  rw [← tAt_eq (s.extract a b) i (by rw [ByteArray.size_extract]; omega), ← tAt_eq s (a + i) (by omega)]
  rw [ByteArray.getElem_extract]
theorem tAt_append (s t : ByteArray) (i : Nat) : tAt (s ++ t) i = if i < s.size then tAt s i else tAt t (i - s.size) := by
  have e : (s ++ t).data.toList = s.data.toList ++ t.data.toList := by rw [ByteArray.data_append, Array.toList_append]
  have hl : s.data.toList.length = s.size := Array.length_toList
  unfold tAt
  rw [e, List.getD_eq_getElem?_getD]
  split
  · rw [List.getElem?_append_left (by omega), List.getD_eq_getElem?_getD]
  · rw [List.getElem?_append_right (by omega), hl, List.getD_eq_getElem?_getD]
theorem gcells {a b : World} (h : Gr a b) (n : Nat) (hn : n ≤ a.heap.size) : (∀ k o, k < n → b.cell? ⟨k, o, none⟩ = a.cell? ⟨k, o, none⟩) ∧ (∀ k o, k < n → b.frozen? ⟨k, o, none⟩ = a.frozen? ⟨k, o, none⟩) :=
  ⟨fun k o hk => h.cells.1 k o (by omega), fun k o hk => h.cells.2 k o (by omega)⟩
end Go.Proofs.YtmdpejllbalnnaaGreatDoor
namespace Go.Proofs.YtmdpejllbalnnaaGreatDoor
set_option linter.unusedSimpArgs false
set_option linter.unusedVariables false
open Go.RowKit

end Go.Proofs.YtmdpejllbalnnaaGreatDoor
namespace Go.Proofs.YtmdpejllbalnnaaGreatDoor
set_option linter.unusedSimpArgs false
set_option linter.unusedVariables false
open Go.RowKit

/-- What is wrong with a text is told. -/
def CkR (x : ByteArray) (w : World) (e : Ending) (w' : World) : Prop := e = .returned (.tuple #[.int .i64 ((ckT (tAt x) x.size).1 : Nat), .int .i64 (ckT (tAt x) x.size).2]) ∧ w = w'
theorem ckR_mk {x : ByteArray} {w : World} {a : Nat} {e A : Int} (h : ckT (tAt x) x.size = (a, e)) (hA : A = a) : CkR x w (.returned (.tuple #[.int .i64 A, .int .i64 e])) w := by
  subst hA; unfold CkR; rw [h]; exact ⟨rfl, rfl⟩
theorem sgnT_1 {f : Nat → Int} (h : f 0 = 45) : sgnT f = 1 := by unfold sgnT; rw [if_pos h]
theorem sgnT_0 {f : Nat → Int} (h : f 0 ≠ 45) : sgnT f = 0 := by unfold sgnT; rw [if_neg h]
end Go.Proofs.YtmdpejllbalnnaaGreatDoor
