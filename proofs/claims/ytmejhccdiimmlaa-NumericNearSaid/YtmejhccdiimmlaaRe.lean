/- The reference's digit lists: slices that are read. -/
import Derived.Test.YtmejhccdiimmlaaRd
import Derived.Deep.AppendSrc
namespace Go.Proofs.Ytmejhccdiimmlaa
set_option linter.unusedSimpArgs false
set_option linter.unusedVariables false
open Go.RowKit

/-- A slice of numbers that is read: pointer, length, capacity, and the numbers. -/
def Sl (w : World) (p : Option Addr) (n c : Nat) (xs : List Int) : Prop :=
  xs.length = n ∧ n ≤ c ∧ c ≤ maxLen ∧ (0 < n → ∃ b, p = some ⟨b, 0, none⟩ ∧ At w b xs)
theorem Sl.gr {a w : World} {p n c xs} (h : Sl a p n c xs) (g : Gr a w) : Sl w p n c xs :=
  ⟨h.1, h.2.1, h.2.2.1, fun hn => by obtain ⟨b, hb, ha⟩ := h.2.2.2 hn; exact ⟨b, hb, ha.gr g⟩⟩
theorem Sl.len {w : World} {p n c xs} (h : Sl w p n c xs) : xs.length = n := h.1
theorem Sl.some {w : World} {p n c xs} (h : Sl w p n c xs) (hn : 0 < n) : ∃ b, p = .some ⟨b, 0, none⟩ ∧ At w b xs := h.2.2.2 hn
theorem Sl.take {w : World} {p n c xs} (h : Sl w p n c xs) {k : Nat} (hk : k ≤ n) : Sl w p k c (xs.take k) :=
  ⟨by rw [List.length_take, h.1]; exact Nat.min_eq_left hk, Nat.le_trans hk h.2.1, h.2.2.1, fun h0 => by
    obtain ⟨b, hb, ha⟩ := h.2.2.2 (Nat.lt_of_lt_of_le h0 hk); exact ⟨b, hb, ha.take k⟩⟩
theorem At.lt {w : World} {b : Nat} {xs : List Int} (h : At w b xs) (hn : 0 < xs.length) : b < w.heap.size := World.block_lt_of_cell? w _ (h 0 hn)
theorem Sl.drewN {w : World} {p n c xs} (h : Sl w p n c xs) (m : Nat) : Sl (w.drewN m) p n c xs := h.gr ((Gr.refl w).drewN m)
theorem Sl.alloc {w : World} {p n c xs} (h : Sl w p n c xs) (o : Obj) : Sl (w.alloc o) p n c xs := h.gr ((Gr.refl w).alloc o)
theorem Own.sl {w : World} {B : Nat} {e v} {zs : List Int} (h : Own w B .i64 e v zs) : ∃ p c, v = .slice p zs.length c ∧ Sl w p zs.length c zs := by
  rcases Nat.eq_zero_or_pos zs.length with hz | hz
  · rcases h.2 with ⟨hv, _⟩ | ⟨g, cap, cur, hv, _, _, h1, h2, _⟩
    · exact ⟨none, 0, by rw [hv, hz], rfl, by omega, by unfold maxLen; omega, fun h => absurd h (by omega)⟩
    · exact ⟨_, cap, hv, rfl, h1, h2, fun h => absurd h (by omega)⟩
  · obtain ⟨g, cap, rfl, _, _⟩ := h.slice (by intro e; subst e; simp at hz)
    exact ⟨_, cap, rfl, rfl, h.cap.1, h.cap.2, fun _ => ⟨g, rfl, h.at_⟩⟩
theorem Own.sl' {w : World} {B g n cap : Nat} {e} {zs : List Int} (h : Own w B .i64 e (.slice (some ⟨g, 0, none⟩) n cap) zs) (hn : zs.length = n) : Sl w (some ⟨g, 0, none⟩) n cap zs :=
  ⟨hn, by rw [← hn]; exact h.cap.1, h.cap.2, fun _ => ⟨g, rfl, h.at_⟩⟩

theorem trim_none (p : Option Addr) (cap : Nat) (w : World) :
    Calls Try.prog 128 #[.slice p 0 cap] w fun e w' => e = .returned (.slice p 0 cap) ∧ w = w' := by
  go_enter Try.func128, Try.ntmps128
  go_wp2
  go_loop [0] (fun i => i = .slice p 0 cap) (fun _ => 0)
  case atStart => rfl
  case round =>
    subst hrel
    go_wp2
    go_ret
    exact ⟨rfl, rfl⟩
theorem trim_sl {p : Option Addr} {n cap : Nat} {xs : List Int} {w : World} (h : Sl w p n cap xs) :
    Calls Try.prog 128 #[.slice p n cap] w fun e w' => e = .returned (.slice p (tN xs n) cap) ∧ w = w' := by
  rcases Nat.eq_zero_or_pos n with hz | hz
  · subst hz; exact trim_none p cap w
  · obtain ⟨b, rfl, ha⟩ := h.some hz
    exact trim_any b n cap xs h.1 h.2.1 h.2.2.1 w ha
theorem trim_left {p : Option Addr} {n cap : Nat} {xs : List Int} {w : World} (h : Sl w p n cap xs) (hd : Dg xs) :
    Sl w p (tN xs n) cap (xs.take (tN xs n)) ∧ Cn (xs.take (tN xs n)) ∧ vl (xs.take (tN xs n)) = vl xs := by
  have h1 := h.1
  subst h1
  exact ⟨h.take (tN_le _ _), tN_cn hd, by rw [tN_vl, List.take_length]⟩

theorem order_zero (p q : Option Addr) (c d : Nat) (w : World) :
    Calls Try.prog 126 #[.slice p 0 c, .slice q 0 d] w fun e w' => e = .returned (.int .i64 0) ∧ w = w' := by
  go_enter Try.func126, Try.ntmps126
  go_wp2
  go_loop [5] (fun j => j = .int .i64 (-1)) (fun _ => 0)
  case atStart => rfl
  case round =>
    subst hrel
    go_wp2
    go_ret
    exact ⟨rfl, rfl⟩
theorem order_sl {p q : Option Addr} {m n c d : Nat} {xs ys : List Int} {w : World} (hx : Sl w p m c xs) (hy : Sl w q n d ys) (cx : Cn xs) (cy : Cn ys) (hm : m ≤ 100000) (hn : n ≤ 100000) :
    Calls Try.prog 126 #[.slice p m c, .slice q n d] w fun e w' => e = .returned (.int .i64 (ordI (vl xs) (vl ys))) ∧ Gr w w' := by
  by_cases hmn : m = n
  · subst hmn
    rcases Nat.eq_zero_or_pos m with hz | hz
    · subst hz
      have e1 := List.eq_nil_of_length_eq_zero hx.1
      have e2 := List.eq_nil_of_length_eq_zero hy.1
      subst e1 e2
      exact (order_zero p q c d w).mono fun e w' h => ⟨by rw [h.1, ordI_eq], by rw [← h.2]; exact Gr.refl _⟩
    · obtain ⟨a, rfl, ha⟩ := hx.some hz
      obtain ⟨b, rfl, hb⟩ := hy.some hz
      exact order_eq a b m c d xs ys hx.1 hy.1 cx.1 cy.1 hm w ha hb
  · exact (order_len p q m n c d xs ys hx.1 hy.1 cx cy hm hn hmn w).mono fun e w' h => ⟨h.1, by rw [← h.2]; exact Gr.refl _⟩

set_option maxRecDepth 100000 in
theorem Small_zero (c : Bool) (p : Option Addr) (cap : Nat) (w : World) :
    Calls Try.prog 109 #[.agg #[.bool c, .slice p 0 cap]] w fun e w' => e = .returned (.int .i64 0) ∧ Gr w w' := by
  go_enter Try.func109, Try.ntmps109
  go_wp2
  go_loop [3, 4] (fun i j => j = .int .i64 (-1) ∧ i = .int .i64 0) (fun _ _ => 0)
  case atStart => exact ⟨rfl, rfl⟩
  case round =>
    obtain ⟨rfl, rfl⟩ := hrel
    cases c
    all_goals (go_wp2; go_ret; exact ⟨rfl, (by repeat (first | exact Gr.refl _ | assumption | refine Gr.alloc ?_ _ | refine Gr.drew ?_ | refine Gr.drewN ?_ _ | refine Gr.setCell ?_ (by simp <;> omega) _ | refine Gr.trans ?_ (by assumption)))⟩)
theorem Small_sl {c : Bool} {p : Option Addr} {n cap : Nat} {xs : List Int} {w : World} (h : Sl w p n cap xs) (hm : n ≤ 18) (hd : Dg xs) :
    Calls Try.prog 109 #[.agg #[.bool c, .slice p n cap]] w fun e w' => e = .returned (.int .i64 (if c then -(vl xs) else vl xs)) ∧ Gr w w' := by
  rcases Nat.eq_zero_or_pos n with hz | hz
  · subst hz
    have e1 := List.eq_nil_of_length_eq_zero h.1
    subst e1
    exact (Small_zero c p cap w).mono fun e w' h => ⟨by rw [h.1]; simp [vl], h.2⟩
  · obtain ⟨b, rfl, ha⟩ := h.some hz
    exact Small_any c b n cap xs h.1 hm hd w (ha.lt (by rw [h.1]; exact hz)) ha
theorem power_sl (n : Nat) (N : Int) (hN : N = n) (hb : n ≤ 1000) (w : World) :
    Calls Try.prog 110 #[.int .i64 N] w fun e w' => ∃ p cap xs, e = .returned (.slice p (n + 1) cap) ∧ Sl w' p (n + 1) cap xs ∧ Cn xs ∧ vl xs = 10 ^ n ∧ Gr w w' ∧ (∀ a, p = some a → w.heap.size ≤ a.block) := by
  refine (power_any n N hN hb w).mono fun e w' h => ?_
  obtain ⟨g, cap, rfl, hO, hG⟩ := h
  refine ⟨_, cap, _, rfl, hO.sl' (by simp), ?_, ?_, hG, fun a e => by cases e; exact (World.ownsRow.lt hO g rfl).1⟩
  · refine Cn.of_last ((Dg.zeros n).append (by intro d hd; simp at hd; omega)) ?_
    intro _
    simp
  · rw [vl_append, vl_zeros]; simp [vl]

/-- A pointer to memory that is new from block B on. -/
def Fr (B : Nat) (p : Option Addr) : Prop := ∀ a, p = some a → B ≤ a.block
theorem Fr.none (B : Nat) : Fr B none := by intro a h; simp at h
theorem Fr.some {B g : Nat} {o : Nat} (h : B ≤ g) : Fr B (some ⟨g, o, .none⟩) := by intro a e; cases e; exact h
theorem Fr.mono {A B : Nat} {p} (h : Fr B p) (k : A ≤ B) : Fr A p := fun a e => Nat.le_trans k (h a e)
theorem Own.slf {w : World} {B : Nat} {e v} {zs : List Int} (h : Own w B .i64 e v zs) : ∃ p c, v = .slice p zs.length c ∧ Sl w p zs.length c zs ∧ Fr B p := by
  obtain ⟨p, c, rfl, hs⟩ := h.sl
  refine ⟨p, c, rfl, hs, ?_⟩
  intro a e
  subst e
  have hv := (World.ownsRow.lt h a.block rfl).1
  exact hv
theorem Sl.setCell {w : World} {p n c xs} {g : Nat} (h : Sl w p n c xs) (o : Nat) (v : Value) (hp : ∀ a, p = .some a → a.block ≠ g) : Sl (w.setCell ⟨g, o, none⟩ v) p n c xs := by
  refine ⟨h.1, h.2.1, h.2.2.1, fun hn => ?_⟩
  obtain ⟨b, hb, ha⟩ := h.2.2.2 hn
  have hne := hp _ hb
  refine ⟨b, hb, fun i hi => ?_⟩
  have hne' : g ≠ b := fun e => hne e.symm
  have := ha i hi
  simp [go_sem, hne', this]

/-- append: to a slice of the call's own, all of a slice (which may be nil). -/
theorem op_append_sl {P : Program} {o : Oper} {a : Act} {K : Act → World → Prop} {Q : Exit → Act → World → Prop} (w : World) (s x : Operand) (t e : TypeId)
    (ho : o.op = .call { callee := .builtin .append, args := #[s, x], argTypes := #[t, t] })
    (i : TypeInfo) (bytes : Nat) (ht : P.underlying t = some (.slice e)) (hi : P.info? e = some i) (hz : i.zero = some (.int .i64 0)) (hsize : i.size = 1) (hby : i.bytes = bytes) (hb8 : bytes ≤ 8)
    (B g0 n0 cap0 : Nat) (xs : List Int) (hs : a.eval s = .slice (some ⟨g0, 0, none⟩) n0 cap0) (hown : Own w B .i64 e (.slice (some ⟨g0, 0, none⟩) n0 cap0) xs) (hn0 : xs.length = n0) (N : Nat)
    (p : Option Addr) (m c : Nat) (ys : List Int) (hx : a.eval x = .slice p m c) (hsl : Sl w p m c ys)
    (hN : n0 + m = N) (hb : N ≤ 1000000) (hbase : B ≤ w.heap.size)
    (hK : ∀ g cap w', Own w' B .i64 e (.slice (some ⟨g, 0, none⟩) N cap) (xs ++ ys) → Below B w w' → w.grownBy w' (some g0) → B ≤ g → g < w'.heap.size → K (a.put o.dst (.slice (some ⟨g, 0, none⟩) N cap)) w') :
    o.wp P a w K Q := by
  have hcap := hown.cap.1
  rw [hn0] at hcap
  have hlt := World.ownsRow.lt hown g0 rfl
  subst hn0 hN
  rcases Nat.eq_zero_or_pos m with hm | hm
  · subst hm
    have hys := List.eq_nil_of_length_eq_zero hsl.1
    subst hys
    have hsrc : ∃ news, news = ([] : List Value) ∧ Src P i.size t (.slice p 0 c) 0 news w := by
      refine ⟨[], rfl, ?_⟩
      cases p with
      | none => exact Src.ofNil w ht c
      | some ad => exact Src.ofSlice w ht ad 0 c [] (by simp) (by intro j u hj; simp at hj) (by intro u hu; cases hu)
    obtain ⟨news, hnews, hsrc⟩ := hsrc
    subst hnews
    have hr := run_append_room_src (P := P) w t t o.type e i ht hi g0 0 xs.length cap0 (.slice p 0 c) 0 [] hsrc (by omega) (by intro j hj; simp at hj) (by intro j hj; simp at hj)
    simp only [World.setCells, Nat.add_zero] at hr
    unfold Oper.wp execOp
    simp only [ho, resolve, invoke, builtin, Sem.run_bind, Sem.run_pure, Result.andThen_ok, List.map_toArray, List.map_cons, List.map_nil, hs, hx, hr]
    exact hK g0 cap0 w (by rw [List.append_nil]; exact hown) (Below.refl _ _) ⟨rfl, rfl, rfl, Nat.le_refl _, fun _ _ _ => rfl⟩ hlt.1 hlt.2
  · obtain ⟨b, rfl, ha⟩ := hsl.some hm
    have hm' := hsl.1
    subst hm'
    refine wp_append_own w s x t ho B e i (.int .i64 0) 1 bytes ht hi hz hsize hby rfl (by omega) _ xs.length (xs.map (Value.int .i64)) hs hown ⟨b, 0, none⟩ ys.length c (ys.map (Value.int .i64)) hx (by simp)
      ?_ (by intro u hu; simp at hu; obtain ⟨_, _, rfl⟩ := hu; rfl) (by unfold maxLen; omega) ?_ hbase ?_
    · intro j u hj
      have hjl : j < ys.length := by
        rcases Nat.lt_or_ge j ys.length with h | h
        · exact h
        · rw [List.getElem?_eq_none (by simpa using h)] at hj; simp at hj
      rw [Addr.add_lit, Nat.zero_add, ha j hjl]
      simp [hjl] at hj ⊢
      exact hj
    · have : (xs.length + ys.length) * bytes ≤ (xs.length + ys.length) * 8 := Nat.mul_le_mul_left _ hb8
      omega
    · intro v' w' hown' hgrow hnil
      have ho' : Own w' B .i64 e v' (xs ++ ys) := by
        unfold Own
        rw [List.length_append, List.map_append]
        exact hown'
      have hbel : Below B w w' := (Below.refl B w).grown hgrow hbase (fun q hq => (World.ownsRow.lt hown q hq).1)
      obtain ⟨g, cap, hv, hg, hlt⟩ := ho'.slice (by intro h; simp at h; have := h.2; subst this; simp at hm)
      subst hv
      rw [List.length_append] at ho' ⊢
      exact hK g cap w' ho' hbel hgrow hg hlt
theorem wp_append_sl {P : Program} {ops : Array Oper} {rest : List Oper} {o : Oper} {a : Act} {Q : Exit → Act → World → Prop} (w : World) (hgd : o.guard = none) (s x : Operand) (t e : TypeId)
    (ho : o.op = .call { callee := .builtin .append, args := #[s, x], argTypes := #[t, t] })
    (i : TypeInfo) (bytes : Nat) (ht : P.underlying t = some (.slice e)) (hi : P.info? e = some i) (hz : i.zero = some (.int .i64 0)) (hsize : i.size = 1) (hby : i.bytes = bytes) (hb8 : bytes ≤ 8)
    (B g0 n0 cap0 : Nat) (xs : List Int) (hs : a.eval s = .slice (some ⟨g0, 0, none⟩) n0 cap0) (hown : Own w B .i64 e (.slice (some ⟨g0, 0, none⟩) n0 cap0) xs) (hn0 : xs.length = n0) (N : Nat)
    (p : Option Addr) (m c : Nat) (ys : List Int) (hx : a.eval x = .slice p m c) (hsl : Sl w p m c ys)
    (hN : n0 + m = N) (hb : N ≤ 1000000) (hbase : B ≤ w.heap.size)
    (hK : ∀ g cap w', Own w' B .i64 e (.slice (some ⟨g, 0, none⟩) N cap) (xs ++ ys) → Below B w w' → w.grownBy w' (some g0) → B ≤ g → g < w'.heap.size → wpList P ops Q rest (a.put o.dst (.slice (some ⟨g, 0, none⟩) N cap)) w') :
    wpList P ops Q (o :: rest) a w :=
  wpList_plain hgd fun _ hK' => op_append_sl w s x t e ho i bytes ht hi hz hsize hby hb8 B g0 n0 cap0 xs hs hown hn0 N p m c ys hx hsl hN hb hbase fun g cap w' h1 h2 h3 h4 h5 => hK' _ _ (hK g cap w' h1 h2 h3 h4 h5)
theorem step_append_sl {P : Program} {ops : Array Oper} {o : Oper} {a : Act} {K : Act → World → Prop} {Q : Exit → Act → World → Prop} {E : Prop} (w : World) (hgd : o.guard = none) (s x : Operand) (t e : TypeId)
    (ho : o.op = .call { callee := .builtin .append, args := #[s, x], argTypes := #[t, t] })
    (i : TypeInfo) (bytes : Nat) (ht : P.underlying t = some (.slice e)) (hi : P.info? e = some i) (hz : i.zero = some (.int .i64 0)) (hsize : i.size = 1) (hby : i.bytes = bytes) (hb8 : bytes ≤ 8)
    (B g0 n0 cap0 : Nat) (xs : List Int) (hs : a.eval s = .slice (some ⟨g0, 0, none⟩) n0 cap0) (hown : Own w B .i64 e (.slice (some ⟨g0, 0, none⟩) n0 cap0) xs) (hn0 : xs.length = n0) (N : Nat)
    (p : Option Addr) (m c : Nat) (ys : List Int) (hx : a.eval x = .slice p m c) (hsl : Sl w p m c ys)
    (hN : n0 + m = N) (hb : N ≤ 1000000) (hbase : B ≤ w.heap.size)
    (hK : ∀ g cap w', Own w' B .i64 e (.slice (some ⟨g, 0, none⟩) N cap) (xs ++ ys) → Below B w w' → w.grownBy w' (some g0) → B ≤ g → g < w'.heap.size → K (a.put o.dst (.slice (some ⟨g, 0, none⟩) N cap)) w') :
    if Region.wanted o (yielded ops a.tmps) = true then Oper.wp P o a w K Q else E := by
  have hw : Region.wanted o (yielded ops a.tmps) = true := by simp [Region.wanted, hgd]
  rw [if_pos hw]
  exact op_append_sl w s x t e ho i bytes ht hi hz hsize hby hb8 B g0 n0 cap0 xs hs hown hn0 N p m c ys hx hsl hN hb hbase hK
end Go.Proofs.Ytmejhccdiimmlaa
