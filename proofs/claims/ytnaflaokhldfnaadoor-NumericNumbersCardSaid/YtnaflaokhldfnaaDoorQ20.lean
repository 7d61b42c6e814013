/- Texts of the walks, merged. -/
import Derived.Test.YtnaflaokhldfnaaDoorQ09
import Derived.Deep.AppendSrc
namespace Go.Proofs.YtnaflaokhldfnaaDoor
set_option linter.unusedSimpArgs false
set_option linter.unusedVariables false
open Go.RowKit

/-- A slice of numbers that is read: pointer, length, capacity, and the numbers. -/
def Sl (w : World) (p : Option Addr) (n c : Nat) (xs : List Int) : Prop :=
  xs.length = n ∧ n ≤ c ∧ c ≤ maxLen ∧ (0 < n → ∃ b, p = some ⟨b, 0, none⟩ ∧ At w b xs)
theorem Sl.gr {a w : World} {p n c xs} (h : Sl a p n c xs) (g : Gr a w) : Sl w p n c xs :=
  ⟨h.1, h.2.1, h.2.2.1, fun hn => by obtain ⟨b, hb, ha⟩ := h.2.2.2 hn; exact ⟨b, hb, ha.gr g⟩⟩
theorem Sl.len {w : World} {p n c xs} (h : Sl w p n c xs) : xs.length = n := h.1
theorem Sl.some {w : World} {p n c xs} (h : Sl w p n c xs) (hn : 0 < n) : ∃ b, p = .some ⟨b, 0, none⟩ ∧ At w b xs := h.2.2.2 hn
theorem Sl.take {w : World} {p n c xs} (h : Sl w p n c xs) {k : Nat} (hk : k ≤ n) : Sl w p k c (xs.take k) :=
  ⟨by rw [List.length_take, h.1]; exact Nat.min_eq_left hk, Nat.le_trans hk h.2.1, h.2.2.1, fun h0 => by
    obtain ⟨b, hb, ha⟩ := h.2.2.2 (Nat.lt_of_lt_of_le h0 hk); exact ⟨b, hb, ha.take k⟩⟩
theorem At.lt {w : World} {b : Nat} {xs : List Int} (h : At w b xs) (hn : 0 < xs.length) : b < w.heap.size := World.block_lt_of_cell? w _ (h 0 hn)
theorem Sl.drewN {w : World} {p n c xs} (h : Sl w p n c xs) (m : Nat) : Sl (w.drewN m) p n c xs := h.gr ((Gr.refl w).drewN m)
theorem Sl.alloc {w : World} {p n c xs} (h : Sl w p n c xs) (o : Obj) : Sl (w.alloc o) p n c xs := h.gr ((Gr.refl w).alloc o)
theorem Own.sl {w : World} {B : Nat} {e v} {zs : List Int} (h : Own w B .i64 e v zs) : ∃ p c, v = .slice p zs.length c ∧ Sl w p zs.length c zs := by
  rcases Nat.eq_zero_or_pos zs.length with hz | hz
  · rcases h.2 with ⟨hv, _⟩ | ⟨g, cap, cur, hv, _, _, h1, h2, _⟩
    · exact ⟨none, 0, by rw [hv, hz], rfl, by omega, by unfold maxLen; omega, fun h => absurd h (by omega)⟩
    · exact ⟨_, cap, hv, rfl, h1, h2, fun h => absurd h (by omega)⟩
  · obtain ⟨g, cap, rfl, _, _⟩ := h.slice (by intro e; subst e; simp at hz)
    exact ⟨_, cap, rfl, rfl, h.cap.1, h.cap.2, fun _ => ⟨g, rfl, h.at_⟩⟩
theorem Own.sl' {w : World} {B g n cap : Nat} {e} {zs : List Int} (h : Own w B .i64 e (.slice (some ⟨g, 0, none⟩) n cap) zs) (hn : zs.length = n) : Sl w (some ⟨g, 0, none⟩) n cap zs :=
  ⟨hn, by rw [← hn]; exact h.cap.1, h.cap.2, fun _ => ⟨g, rfl, h.at_⟩⟩

theorem trim_none (p : Option Addr) (cap : Nat) (w : World) :
    Calls Tryd.prog 97 #[.slice p 0 cap] w fun e w' => e = .returned (.slice p 0 cap) ∧ w = w' := by
  go_enter Tryd.func97, Tryd.ntmps97
  go_wp2
  go_loop [0] (fun i => i = .slice p 0 cap) (fun _ => 0)
  case atStart => rfl
  case round =>
    subst hrel
    go_wp2
    go_ret
    exact ⟨rfl, rfl⟩
theorem trim_sl {p : Option Addr} {n cap : Nat} {xs : List Int} {w : World} (h : Sl w p n cap xs) :
    Calls Tryd.prog 97 #[.slice p n cap] w fun e w' => e = .returned (.slice p (tN xs n) cap) ∧ w = w' := by
  rcases Nat.eq_zero_or_pos n with hz | hz
  · subst hz; exact trim_none p cap w
  · obtain ⟨b, rfl, ha⟩ := h.some hz
    exact trim_any b n cap xs h.1 h.2.1 h.2.2.1 w ha
theorem trim_left {p : Option Addr} {n cap : Nat} {xs : List Int} {w : World} (h : Sl w p n cap xs) (hd : Dg xs) :
    Sl w p (tN xs n) cap (xs.take (tN xs n)) ∧ Cn (xs.take (tN xs n)) ∧ vl (xs.take (tN xs n)) = vl xs := by
  have h1 := h.1
  subst h1
  exact ⟨h.take (tN_le _ _), tN_cn hd, by rw [tN_vl, List.take_length]⟩

theorem order_zero (p q : Option Addr) (c d : Nat) (w : World) :
    Calls Tryd.prog 80 #[.slice p 0 c, .slice q 0 d] w fun e w' => e = .returned (.int .i64 0) ∧ w = w' := by
  go_enter Tryd.func80, Tryd.ntmps80
  go_wp2
  go_loop [5] (fun j => j = .int .i64 (-1)) (fun _ => 0)
  case atStart => rfl
  case round =>
    subst hrel
    go_wp2
    go_ret
    exact ⟨rfl, rfl⟩
theorem order_sl {p q : Option Addr} {m n c d : Nat} {xs ys : List Int} {w : World} (hx : Sl w p m c xs) (hy : Sl w q n d ys) (cx : Cn xs) (cy : Cn ys) (hm : m ≤ 100000) (hn : n ≤ 100000) :
    Calls Tryd.prog 80 #[.slice p m c, .slice q n d] w fun e w' => e = .returned (.int .i64 (ordI (vl xs) (vl ys))) ∧ Gr w w' := by
  by_cases hmn : m = n
  · subst hmn
    rcases Nat.eq_zero_or_pos m with hz | hz
    · subst hz
      have e1 := List.eq_nil_of_length_eq_zero hx.1
      have e2 := List.eq_nil_of_length_eq_zero hy.1
      subst e1 e2
      exact (order_zero p q c d w).mono fun e w' h => ⟨by rw [h.1, ordI_eq], by rw [← h.2]; exact Gr.refl _⟩
    · obtain ⟨a, rfl, ha⟩ := hx.some hz
      obtain ⟨b, rfl, hb⟩ := hy.some hz
      exact order_eq a b m c d xs ys hx.1 hy.1 cx.1 cy.1 hm w ha hb
  · exact (order_len p q m n c d xs ys hx.1 hy.1 cx cy hm hn hmn w).mono fun e w' h => ⟨h.1, by rw [← h.2]; exact Gr.refl _⟩

/-- A pointer to memory that is new from block B on. -/
def Fr (B : Nat) (p : Option Addr) : Prop := ∀ a, p = some a → B ≤ a.block
theorem Fr.none (B : Nat) : Fr B none := by intro a h; simp at h
theorem Fr.some {B g : Nat} {o : Nat} (h : B ≤ g) : Fr B (some ⟨g, o, .none⟩) := by intro a e; cases e; exact h
theorem Fr.mono {A B : Nat} {p} (h : Fr B p) (k : A ≤ B) : Fr A p := fun a e => Nat.le_trans k (h a e)
theorem Own.slf {w : World} {B : Nat} {e v} {zs : List Int} (h : Own w B .i64 e v zs) : ∃ p c, v = .slice p zs.length c ∧ Sl w p zs.length c zs ∧ Fr B p := by
  obtain ⟨p, c, rfl, hs⟩ := h.sl
  refine ⟨p, c, rfl, hs, ?_⟩
  intro a e
  subst e
  have hv := (World.ownsRow.lt h a.block rfl).1
  exact hv
theorem Sl.setCell {w : World} {p n c xs} {g : Nat} (h : Sl w p n c xs) (o : Nat) (v : Value) (hp : ∀ a, p = .some a → a.block ≠ g) : Sl (w.setCell ⟨g, o, none⟩ v) p n c xs := by
  refine ⟨h.1, h.2.1, h.2.2.1, fun hn => ?_⟩
  obtain ⟨b, hb, ha⟩ := h.2.2.2 hn
  have hne := hp _ hb
  refine ⟨b, hb, fun i hi => ?_⟩
  have hne' : g ≠ b := fun e => hne e.symm
  have := ha i hi
  simp [go_sem, hne', this]

/-- append: to a slice of the call's own, all of a slice (which may be nil). -/
theorem op_append_sl {P : Program} {o : Oper} {a : Act} {K : Act → World → Prop} {Q : Exit → Act → World → Prop} (w : World) (s x : Operand) (t e : TypeId)
    (ho : o.op = .call { callee := .builtin .append, args := #[s, x], argTypes := #[t, t] })
    (i : TypeInfo) (bytes : Nat) (ht : P.underlying t = some (.slice e)) (hi : P.info? e = some i) (hz : i.zero = some (.int .i64 0)) (hsize : i.size = 1) (hby : i.bytes = bytes) (hb8 : bytes ≤ 8)
    (B g0 n0 cap0 : Nat) (xs : List Int) (hs : a.eval s = .slice (some ⟨g0, 0, none⟩) n0 cap0) (hown : Own w B .i64 e (.slice (some ⟨g0, 0, none⟩) n0 cap0) xs) (hn0 : xs.length = n0) (N : Nat)
    (p : Option Addr) (m c : Nat) (ys : List Int) (hx : a.eval x = .slice p m c) (hsl : Sl w p m c ys)
    (hN : n0 + m = N) (hb : N ≤ 1000000) (hbase : B ≤ w.heap.size)
    (hK : ∀ g cap w', Own w' B .i64 e (.slice (some ⟨g, 0, none⟩) N cap) (xs ++ ys) → Below B w w' → w.grownBy w' (some g0) → B ≤ g → g < w'.heap.size → K (a.put o.dst (.slice (some ⟨g, 0, none⟩) N cap)) w') :
    o.wp P a w K Q := by
  have hcap := hown.cap.1
  rw [hn0] at hcap
  have hlt := World.ownsRow.lt hown g0 rfl
  subst hn0 hN
  rcases Nat.eq_zero_or_pos m with hm | hm
  · subst hm
    have hys := List.eq_nil_of_length_eq_zero hsl.1
    subst hys
    have hsrc : ∃ news, news = ([] : List Value) ∧ Src P i.size t (.slice p 0 c) 0 news w := by
      refine ⟨[], rfl, ?_⟩
      cases p with
      | none => exact Src.ofNil w ht c
      | some ad => exact Src.ofSlice w ht ad 0 c [] (by simp) (by intro j u hj; simp at hj) (by intro u hu; cases hu)
    obtain ⟨news, hnews, hsrc⟩ := hsrc
    subst hnews
    have hr := run_append_room_src (P := P) w t t o.type e i ht hi g0 0 xs.length cap0 (.slice p 0 c) 0 [] hsrc (by omega) (by intro j hj; simp at hj) (by intro j hj; simp at hj)
    simp only [World.setCells, Nat.add_zero] at hr
    unfold Oper.wp execOp
    simp only [ho, resolve, invoke, builtin, Sem.run_bind, Sem.run_pure, Result.andThen_ok, List.map_toArray, List.map_cons, List.map_nil, hs, hx, hr]
    exact hK g0 cap0 w (by rw [List.append_nil]; exact hown) (Below.refl _ _) ⟨rfl, rfl, rfl, Nat.le_refl _, fun _ _ _ => rfl⟩ hlt.1 hlt.2
  · obtain ⟨b, rfl, ha⟩ := hsl.some hm
    have hm' := hsl.1
    subst hm'
    refine wp_append_own w s x t ho B e i (.int .i64 0) 1 bytes ht hi hz hsize hby rfl (by omega) _ xs.length (xs.map (Value.int .i64)) hs hown ⟨b, 0, none⟩ ys.length c (ys.map (Value.int .i64)) hx (by simp)
      ?_ (by intro u hu; simp at hu; obtain ⟨_, _, rfl⟩ := hu; rfl) (by unfold maxLen; omega) ?_ hbase ?_
    · intro j u hj
      have hjl : j < ys.length := by
        rcases Nat.lt_or_ge j ys.length with h | h
        · exact h
        · rw [List.getElem?_eq_none (by simpa using h)] at hj; simp at hj
      rw [Addr.add_lit, Nat.zero_add, ha j hjl]
      simp [hjl] at hj ⊢
      exact hj
    · have : (xs.length + ys.length) * bytes ≤ (xs.length + ys.length) * 8 := Nat.mul_le_mul_left _ hb8
      omega
    · intro v' w' hown' hgrow hnil
      have ho' : Own w' B .i64 e v' (xs ++ ys) := by
        unfold Own
        rw [List.length_append, List.map_append]
        exact hown'
      have hbel : Below B w w' := (Below.refl B w).grown hgrow hbase (fun q hq => (World.ownsRow.lt hown q hq).1)
      obtain ⟨g, cap, hv, hg, hlt⟩ := ho'.slice (by intro h; simp at h; have := h.2; subst this; simp at hm)
      subst hv
      rw [List.length_append] at ho' ⊢
      exact hK g cap w' ho' hbel hgrow hg hlt
theorem wp_append_sl {P : Program} {ops : Array Oper} {rest : List Oper} {o : Oper} {a : Act} {Q : Exit → Act → World → Prop} (w : World) (hgd : o.guard = none) (s x : Operand) (t e : TypeId)
    (ho : o.op = .call { callee := .builtin .append, args := #[s, x], argTypes := #[t, t] })
    (i : TypeInfo) (bytes : Nat) (ht : P.underlying t = some (.slice e)) (hi : P.info? e = some i) (hz : i.zero = some (.int .i64 0)) (hsize : i.size = 1) (hby : i.bytes = bytes) (hb8 : bytes ≤ 8)
    (B g0 n0 cap0 : Nat) (xs : List Int) (hs : a.eval s = .slice (some ⟨g0, 0, none⟩) n0 cap0) (hown : Own w B .i64 e (.slice (some ⟨g0, 0, none⟩) n0 cap0) xs) (hn0 : xs.length = n0) (N : Nat)
    (p : Option Addr) (m c : Nat) (ys : List Int) (hx : a.eval x = .slice p m c) (hsl : Sl w p m c ys)
    (hN : n0 + m = N) (hb : N ≤ 1000000) (hbase : B ≤ w.heap.size)
    (hK : ∀ g cap w', Own w' B .i64 e (.slice (some ⟨g, 0, none⟩) N cap) (xs ++ ys) → Below B w w' → w.grownBy w' (some g0) → B ≤ g → g < w'.heap.size → wpList P ops Q rest (a.put o.dst (.slice (some ⟨g, 0, none⟩) N cap)) w') :
    wpList P ops Q (o :: rest) a w :=
  wpList_plain hgd fun _ hK' => op_append_sl w s x t e ho i bytes ht hi hz hsize hby hb8 B g0 n0 cap0 xs hs hown hn0 N p m c ys hx hsl hN hb hbase fun g cap w' h1 h2 h3 h4 h5 => hK' _ _ (hK g cap w' h1 h2 h3 h4 h5)
theorem step_append_sl {P : Program} {ops : Array Oper} {o : Oper} {a : Act} {K : Act → World → Prop} {Q : Exit → Act → World → Prop} {E : Prop} (w : World) (hgd : o.guard = none) (s x : Operand) (t e : TypeId)
    (ho : o.op = .call { callee := .builtin .append, args := #[s, x], argTypes := #[t, t] })
    (i : TypeInfo) (bytes : Nat) (ht : P.underlying t = some (.slice e)) (hi : P.info? e = some i) (hz : i.zero = some (.int .i64 0)) (hsize : i.size = 1) (hby : i.bytes = bytes) (hb8 : bytes ≤ 8)
    (B g0 n0 cap0 : Nat) (xs : List Int) (hs : a.eval s = .slice (some ⟨g0, 0, none⟩) n0 cap0) (hown : Own w B .i64 e (.slice (some ⟨g0, 0, none⟩) n0 cap0) xs) (hn0 : xs.length = n0) (N : Nat)
    (p : Option Addr) (m c : Nat) (ys : List Int) (hx : a.eval x = .slice p m c) (hsl : Sl w p m c ys)
    (hN : n0 + m = N) (hb : N ≤ 1000000) (hbase : B ≤ w.heap.size)
    (hK : ∀ g cap w', Own w' B .i64 e (.slice (some ⟨g, 0, none⟩) N cap) (xs ++ ys) → Below B w w' → w.grownBy w' (some g0) → B ≤ g → g < w'.heap.size → K (a.put o.dst (.slice (some ⟨g, 0, none⟩) N cap)) w') :
    if Region.wanted o (yielded ops a.tmps) = true then Oper.wp P o a w K Q else E := by
  have hw : Region.wanted o (yielded ops a.tmps) = true := by simp [Region.wanted, hgd]
  rw [if_pos hw]
  exact op_append_sl w s x t e ho i bytes ht hi hz hsize hby hb8 B g0 n0 cap0 xs hs hown hn0 N p m c ys hx hsl hN hb hbase hK
end Go.Proofs.YtnaflaokhldfnaaDoor
namespace Go.Proofs.YtnaflaokhldfnaaDoor
set_option linter.unusedSimpArgs false
set_option linter.unusedVariables false
open Go.RowKit

theorem getD_big {xs : List Int} {k : Nat} (h : xs.length ≤ k) : xs.getD k 0 = 0 := by
  rw [List.getD_eq_getElem?_getD, List.getElem?_eq_none h]; rfl

/-- The state of a sum behind k rounds: carry c, digits zs. -/
def PR (xs ys : List Int) (k : Nat) (c : Int) (zs : List Int) : Prop :=
  zs.length = k ∧ Dg zs ∧ vl zs + 10 ^ k * c = vt xs k + vt ys k ∧ 0 ≤ c ∧ c ≤ 1 ∧ (k ≤ max xs.length ys.length ∨ (k = max xs.length ys.length + 1 ∧ c = 0 ∧ (10 : Int) ^ (max xs.length ys.length) ≤ vl zs))
theorem PR.start (xs ys : List Int) : PR xs ys 0 0 [] := ⟨rfl, Dg.nil, rfl, by omega, by omega, .inl (Nat.zero_le _)⟩
theorem PR.step {xs ys zs : List Int} {k : Nat} {c d c' : Int} (h : PR xs ys k c zs) (hx : Dg xs) (hy : Dg ys) (hc : k < xs.length ∨ k < ys.length ∨ 0 < c)
    (hd : d = (c + xs.getD k 0 + ys.getD k 0) % 10) (hc' : c' = (c + xs.getD k 0 + ys.getD k 0) / 10) : PR xs ys (k + 1) c' (zs ++ [d]) := by
  obtain ⟨h1, h2, h3, h4, h5, h6⟩ := h
  have bx := hx.getD k
  have by_ := hy.getD k
  have hs := plus_step (P := 10 ^ k) (o := vl zs) (c := c) (a := vt xs k) (b := vt ys k) (x := xs.getD k 0) (y := ys.getD k 0) h3
  refine ⟨by simp [h1], h2.snoc (by omega) (by omega), ?_, by omega, by omega, ?_⟩
  · rw [vl_snoc, h1, hd, hc', Int.pow_succ, vt, vt]; exact hs
  · rcases Nat.lt_or_ge k (max xs.length ys.length) with g | g
    · exact .inl g
    · have gx : xs.length ≤ k := by omega
      have gy : ys.length ≤ k := by omega
      rw [getD_big gx, getD_big gy] at hd hc'
      rcases h6 with h6 | ⟨h6, h7, _⟩
      · have e : k = max xs.length ys.length := by omega
        have e1 : c = 1 := by omega
        subst e1
        refine .inr ⟨by omega, by omega, ?_⟩
        rw [vl_snoc, h1, ← e, hd]
        have := h2.bd.1
        simp
        omega
      · omega
theorem PR.done {xs ys zs : List Int} {k : Nat} {c : Int} (h : PR xs ys k c zs) (hc : ¬ (k < xs.length ∨ k < ys.length ∨ 0 < c)) :
    vl zs = vl xs + vl ys ∧ Dg zs ∧ zs.length ≤ max xs.length ys.length + 1 ∧ (Cn xs → Cn ys → Cn zs) := by
  obtain ⟨h1, h2, h3, h4, h5, h6⟩ := h
  have e0 : c = 0 := by omega
  subst e0
  rw [vt_all (by omega), vt_all (by omega)] at h3
  have hv : vl zs = vl xs + vl ys := by omega
  refine ⟨hv, h2, by omega, fun cx cy => ⟨h2, fun hne => ?_⟩⟩
  have bx := cx.bd.1
  have by_ := cy.bd.1
  rcases h6 with h6 | ⟨h6, _, h7⟩
  · have hz : 0 < zs.length := by cases zs with | nil => exact absurd rfl hne | cons _ _ => simp
    rcases Nat.lt_or_ge (k - 1) xs.length with g | g
    · have := cx.ge g; rw [h1]; omega
    · have := cy.ge (n := k - 1) (by omega); rw [h1]; omega
  · rw [h1, h6]; exact h7

/-- The state of a difference behind k rounds: borrowed c, digits zs. -/
def MR (xs ys : List Int) (k : Nat) (c : Int) (zs : List Int) : Prop :=
  zs.length = k ∧ Dg zs ∧ vl zs - 10 ^ k * c = vt xs k - vt ys k ∧ 0 ≤ c ∧ c ≤ 1
theorem MR.start (xs ys : List Int) : MR xs ys 0 0 [] := ⟨rfl, Dg.nil, rfl, by omega, by omega⟩
theorem MR.step {xs ys zs : List Int} {k : Nat} {c d c' : Int} (h : MR xs ys k c zs) (hx : Dg xs) (hy : Dg ys)
    (hc' : c' = countI (decide (xs.getD k 0 - c - ys.getD k 0 < 0))) (hd : d = xs.getD k 0 - c - ys.getD k 0 + 10 * c') : MR xs ys (k + 1) c' (zs ++ [d]) := by
  obtain ⟨h1, h2, h3, h4, h5⟩ := h
  have bx := hx.getD k
  have by_ := hy.getD k
  have hs := minus_step (P := 10 ^ k) (o := vl zs) (c := c) (a := vt xs k) (b := vt ys k) (x := xs.getD k 0) (y := ys.getD k 0) (c' := c') h3
  have hcc : (c' = 1 ∧ xs.getD k 0 - c - ys.getD k 0 < 0) ∨ (c' = 0 ∧ ¬ xs.getD k 0 - c - ys.getD k 0 < 0) := by
    by_cases g : xs.getD k 0 - c - ys.getD k 0 < 0
    · rw [decide_eq_true g] at hc'; exact .inl ⟨hc', g⟩
    · rw [decide_eq_false g] at hc'; exact .inr ⟨hc', g⟩
  refine ⟨by simp [h1], h2.snoc (by omega) (by omega), ?_, by omega, by omega⟩
  rw [vl_snoc, h1, hd, Int.pow_succ, vt, vt]
  exact hs
theorem MR.done {xs ys zs : List Int} {c : Int} (h : MR xs ys xs.length c zs) (hl : ys.length ≤ xs.length) (hv : vl ys ≤ vl xs) : vl zs = vl xs - vl ys := by
  obtain ⟨h1, h2, h3, h4, h5⟩ := h
  rw [vt_all (Nat.le_refl _), vt_all hl] at h3
  have := h2.bd.2
  rw [h1] at this
  have e : c = 0 := by
    rcases (by omega : c = 0 ∨ c = 1) with e | e
    · exact e
    · subst e; omega
  subst e
  omega

/-- The digits of a quotient, from what stands behind. -/
def dq (xs : List Int) (V : Int) (j : Nat) : Int := vl (xs.drop j) / V % 10
theorem dv_step {x A V : Int} (hV : 0 < V) (hx : 0 ≤ x) (hx' : x ≤ 9) :
    (x + 10 * A) / V = (x + 10 * (A % V)) / V + 10 * (A / V) ∧ (x + 10 * A) % V = (x + 10 * (A % V)) % V ∧ 0 ≤ (x + 10 * (A % V)) / V ∧ (x + 10 * (A % V)) / V ≤ 9 := by
  have e : x + 10 * A = (x + 10 * (A % V)) + V * (10 * (A / V)) := by
    have h1 := Int.mul_ediv_add_emod A V
    have h2 : 10 * A = 10 * (V * (A / V) + A % V) := by rw [h1]
    rw [h2, Int.mul_add, Int.mul_left_comm V 10]
    omega
  have r0 := Int.emod_nonneg A (Int.ne_of_gt hV)
  have r1 := Int.emod_lt_of_pos A hV
  refine ⟨?_, ?_, Int.ediv_nonneg (by omega) (by omega), ?_⟩
  · rw [e, Int.add_mul_ediv_left _ _ (Int.ne_of_gt hV)]
  · rw [e, Int.add_mul_emod_self_left]
  · have : (x + 10 * (A % V)) / V < 10 := Int.ediv_lt_of_lt_mul hV (by omega)
    omega
theorem dq_vl {xs : List Int} (hx : Dg xs) {V : Int} (hV : 0 < V) : ∀ i k, k + i = xs.length → vl ((fl xs.length (dq xs V)).drop k) = vl (xs.drop k) / V
  | 0, k, h => by
    rw [List.drop_of_length_le (by rw [fl_length]; omega), List.drop_of_length_le (by omega)]; simp [vl]
  | i + 1, k, h => by
    have ih := dq_vl hx hV i (k + 1) (by omega)
    have hk : k < xs.length := by omega
    rw [vl_drop _ (by rw [fl_length]; exact hk), ih, fl_getD hk]
    have e := vl_drop xs hk
    have b := hx.getD k
    obtain ⟨s1, s2, s3, s4⟩ := dv_step (A := vl (xs.drop (k + 1))) hV b.1 b.2
    unfold dq
    rw [e, s1]
    omega
theorem dq_all {xs : List Int} (hx : Dg xs) {V : Int} (hV : 0 < V) : vl (fl xs.length (dq xs V)) = vl xs / V := dq_vl hx hV xs.length 0 (by omega)
theorem dq_dg (xs : List Int) (V : Int) : Dg (fl xs.length (dq xs V)) := by
  intro d hd
  unfold fl at hd
  obtain ⟨i, _, rfl⟩ := List.mem_map.1 hd
  unfold dq
  omega
end Go.Proofs.YtnaflaokhldfnaaDoor
namespace Go.Proofs.YtnaflaokhldfnaaDoor
set_option linter.unusedSimpArgs false
set_option linter.unusedVariables false
open Go.RowKit

def PlusR (xs ys : List Int) (w : World) (e : Ending) (w' : World) : Prop :=
  ∃ v zs k cc, e = .returned v ∧ Own w' w.heap.size .i64 3 v zs ∧ PR xs ys k cc zs ∧ ¬ (k < xs.length ∨ k < ys.length ∨ 0 < cc) ∧ Gr w w'
/-- A slice is returned that holds digits of which φ holds, at most n of them, in memory that is new. -/
def SlR (φ : List Int → Prop) (n : Nat) (w : World) (e : Ending) (w' : World) : Prop :=
  ∃ r k cap zs, e = .returned (.slice r k cap) ∧ Sl w' r k cap zs ∧ Fr w.heap.size r ∧ φ zs ∧ k ≤ n ∧ Gr w w'
set_option maxHeartbeats 2000000 in
set_option maxRecDepth 100000 in
theorem plus_own (p q : Option Addr) (m n c d : Nat) (xs ys : List Int) (w : World) (hx : Sl w p m c xs) (hy : Sl w q n d ys) (dx : Dg xs) (dy : Dg ys) (hm : m ≤ 1000) (hn : n ≤ 1000) :
    Calls Tryd.prog 79 #[.slice p m c, .slice q n d] w fun e w' => PlusR xs ys w e w' := by
  obtain ⟨i0, hi, hz0, hz1, hz2⟩ := info_parts info3
  have HX := Lib.hid hx
  have HY := Lib.hid hy
  have DX := Lib.hid dx
  have DY := Lib.hid dy
  clear hx hy dx dy
  go_enter Tryd.func79, Tryd.ntmps79
  go_wp2
  go_loopw [5, 6, 7] (fun v cv j wr => ∃ (k : Nat) (cc : Int) (zs : List Int), k ≤ max m n + 1 ∧ j = .int .i64 k ∧ cv = .int .i64 cc ∧ 0 ≤ cc ∧ cc ≤ 1 ∧ Hid (Own wr w.heap.size .i64 3 v zs) ∧ Hid (PR xs ys k cc zs) ∧ Hid (Gr w wr)) (fun _ _ j _ => max m n + 2 - (intOf j).toNat)
  case atStart => exact ⟨0, 0, [], by omega, rfl, rfl, by omega, by omega, Own.nil _ _ _ _, PR.start _ _, Gr.refl _⟩
  case round =>
    obtain ⟨k, cc, zs, hk, rfl, rfl, hc0, hc1, hO, hP, hG⟩ := hrel
    have hx1 := Lib.hid HX.out.len
    have hy1 := Lib.hid HY.out.len
    have hzl := Lib.hid hP.out.1
    have hgs := hG.out.size
    obtain ⟨x, ex⟩ : ∃ x, xs.getD k 0 = x := ⟨_, rfl⟩
    obtain ⟨y, ey⟩ : ∃ y, ys.getD k 0 = y := ⟨_, rfl⟩
    have bx := DX.out.getD k
    have by_ := DY.out.getD k
    rw [ex] at bx
    rw [ey] at by_
    have hk2 : k < m ∨ k < n ∨ 0 < cc → k ≤ max m n := by
      intro h
      rcases hP.out.2.2.2.2.2 with g | ⟨g, g2, _⟩
      · rw [hx1.out, hy1.out] at g; exact g
      · rw [hx1.out, hy1.out] at g; omega
    have hst : ∀ d c', (k < m ∨ k < n ∨ 0 < cc) → d = (cc + x + y) % 10 → c' = (cc + x + y) / 10 → PR xs ys (k + 1) c' (zs ++ [d]) := fun d c' h1 h2 h3 =>
      hP.out.step DX.out DY.out (by rw [hx1.out, hy1.out]; exact h1) (by rw [ex, ey]; exact h2) (by rw [ex, ey]; exact h3)
    have HS := Lib.hid hst
    have HK := Lib.hid hk2
    clear hst hk2
    by_cases h1 : k < m
    · obtain ⟨b, rfl, ha⟩ := HX.out.some (by omega)
      have hcx := hG.out.keep (ha k (by rw [hx1.out]; exact h1))
      rw [ex] at hcx
      have EX := Lib.hid ex
      clear ex ha
      by_cases h2 : k < n
      · obtain ⟨b', rfl, ha'⟩ := HY.out.some (by omega)
        have hcy := hG.out.keep (ha' k (by rw [hy1.out]; exact h2))
        rw [ey] at hcy
        have EY := Lib.hid ey
        clear ey ha'
        go_wp2_with (at_builtin; go_loud (refine wp_append_ints _ rfl (.tmp 46) (.tmp 49) 97 3 rfl .i64 i0 8 Tryd.underlying97 hi hz0 hz1 hz2 (by decide) w.heap.size _ zs rfl (hO.out.alloc _) (k + 1) wr.heap.size 1 1 [(cc + x + y) % 10] (by first | rfl | simp) rfl (by omega) (fun j hj => one_cell _ _ _ _ j hj) (by rw [hzl.out]) (by omega) (by simp <;> omega) ?_); intro g1 cap1 w2 hO2 hB2 hgr2 hg1 hg1l)
        go_roundw
        case rel => exact ⟨k + 1, (cc + x + y) / 10, zs ++ [(cc + x + y) % 10], by have := HK.out (.inl h1); omega, by go_num, by go_num, by omega, by omega, hO2, Lib.hid (HS.out _ _ (.inl h1) (by omega) rfl), Below.trans (Gr.alloc hG.out _) hB2⟩
        case measure => simp [intOf]; omega
      · have e0 : y = 0 := by rw [← ey]; exact getD_big (by rw [hy1.out]; omega)
        subst e0
        have EY := Lib.hid ey
        clear ey
        go_wp2_with (at_builtin; go_loud (refine wp_append_ints _ rfl (.tmp 46) (.tmp 49) 97 3 rfl .i64 i0 8 Tryd.underlying97 hi hz0 hz1 hz2 (by decide) w.heap.size _ zs rfl (hO.out.alloc _) (k + 1) wr.heap.size 1 1 [(cc + x) % 10] (by first | rfl | simp) rfl (by omega) (fun j hj => one_cell _ _ _ _ j hj) (by rw [hzl.out]) (by omega) (by simp <;> omega) ?_); intro g1 cap1 w2 hO2 hB2 hgr2 hg1 hg1l)
        go_roundw
        case rel => exact ⟨k + 1, (cc + x + 0) / 10, zs ++ [(cc + x) % 10], by have := HK.out (.inl h1); omega, by go_num, by go_num, by omega, by omega, hO2, Lib.hid (HS.out _ _ (.inl h1) (by omega) rfl), Below.trans (Gr.alloc hG.out _) hB2⟩
        case measure => simp [intOf]; omega
    · have e0 : x = 0 := by rw [← ex]; exact getD_big (by rw [hx1.out]; omega)
      subst e0
      have EX := Lib.hid ex
      clear ex
      by_cases h2 : k < n
      · obtain ⟨b', rfl, ha'⟩ := HY.out.some (by omega)
        have hcy := hG.out.keep (ha' k (by rw [hy1.out]; exact h2))
        rw [ey] at hcy
        have EY := Lib.hid ey
        clear ey ha'
        go_wp2_with (at_builtin; go_loud (refine wp_append_ints _ rfl (.tmp 46) (.tmp 49) 97 3 rfl .i64 i0 8 Tryd.underlying97 hi hz0 hz1 hz2 (by decide) w.heap.size _ zs rfl (hO.out.alloc _) (k + 1) wr.heap.size 1 1 [(cc + y) % 10] (by first | rfl | simp) rfl (by omega) (fun j hj => one_cell _ _ _ _ j hj) (by rw [hzl.out]) (by omega) (by simp <;> omega) ?_); intro g1 cap1 w2 hO2 hB2 hgr2 hg1 hg1l)
        go_roundw
        case rel => exact ⟨k + 1, (cc + 0 + y) / 10, zs ++ [(cc + y) % 10], by have := HK.out (.inr (.inl h2)); omega, by go_num, by go_num, by omega, by omega, hO2, Lib.hid (HS.out _ _ (.inr (.inl h2)) (by omega) rfl), Below.trans (Gr.alloc hG.out _) hB2⟩
        case measure => simp [intOf]; omega
      · have e0 : y = 0 := by rw [← ey]; exact getD_big (by rw [hy1.out]; omega)
        subst e0
        have EY := Lib.hid ey
        clear ey
        by_cases h3 : 0 < cc
        · have e1 : cc = 1 := by omega
          subst e1
          go_wp2_with (at_builtin; go_loud (refine wp_append_ints _ rfl (.tmp 46) (.tmp 49) 97 3 rfl .i64 i0 8 Tryd.underlying97 hi hz0 hz1 hz2 (by decide) w.heap.size _ zs rfl (hO.out.alloc _) (k + 1) wr.heap.size 1 1 [(1) % 10] (by first | rfl | simp) rfl (by omega) (fun j hj => one_cell _ _ _ _ j hj) (by rw [hzl.out]) (by omega) (by simp <;> omega) ?_); intro g1 cap1 w2 hO2 hB2 hgr2 hg1 hg1l)
          go_roundw
          case rel => exact ⟨k + 1, (1 + 0 + 0) / 10, zs ++ [(1) % 10], by have := HK.out (.inr (.inr h3)); omega, by go_num, by go_num, by omega, by omega, hO2, Lib.hid (HS.out _ _ (.inr (.inr h3)) (by omega) rfl), Below.trans (Gr.alloc hG.out _) hB2⟩
          case measure => simp [intOf]; omega
        · have e1 : cc = 0 := by omega
          subst e1
          go_wp2
          refine bodyPost_ret (v := u5) (by simp [results, Tryd.results79, go_sem, *]) rfl ⟨u5, zs, k, 0, rfl, hO.out, hP.out, by rw [hx1.out, hy1.out]; omega, hG.out⟩

theorem plus_sl {p q : Option Addr} {m n c d : Nat} {xs ys : List Int} {w : World} (hx : Sl w p m c xs) (hy : Sl w q n d ys) (dx : Dg xs) (dy : Dg ys) (hm : m ≤ 1000) (hn : n ≤ 1000) :
    Calls Tryd.prog 79 #[.slice p m c, .slice q n d] w (SlR (fun zs => vl zs = vl xs + vl ys ∧ Dg zs ∧ (Cn xs → Cn ys → Cn zs)) (max m n + 1) w) := by
  refine (plus_own p q m n c d xs ys w hx hy dx dy hm hn).mono fun e w' h => ?_
  obtain ⟨v, zs, k, cc, rfl, hO, hP, hk, hG⟩ := h
  obtain ⟨r, cap, rfl, hS, hF⟩ := hO.slf
  obtain ⟨h1, h2, h3, h4⟩ := hP.done hk
  exact ⟨r, _, cap, zs, rfl, hS, hF, ⟨h1, h2, h4⟩, by rw [hx.len, hy.len] at h3; exact h3, hG⟩
end Go.Proofs.YtnaflaokhldfnaaDoor
namespace Go.Proofs.YtnaflaokhldfnaaDoor
set_option linter.unusedSimpArgs false
set_option linter.unusedVariables false
open Go.RowKit

set_option maxHeartbeats 2000000 in
set_option maxRecDepth 100000 in
theorem minus_sl {p q : Option Addr} {m n c d : Nat} {xs ys : List Int} {w : World} (hx : Sl w p m c xs) (hy : Sl w q n d ys) (dx : Dg xs) (dy : Dg ys) (hm : m ≤ 1000) (hn : n ≤ m) (hv : vl ys ≤ vl xs) :
    Calls Tryd.prog 81 #[.slice p m c, .slice q n d] w (SlR (fun zs => vl zs = vl xs - vl ys ∧ Cn zs) m w) := by
  obtain ⟨i0, hi, hz0, hz1, hz2⟩ := info_parts info3
  have HX := Lib.hid hx
  have HY := Lib.hid hy
  have DX := Lib.hid dx
  have DY := Lib.hid dy
  have HV := Lib.hid hv
  clear hx hy dx dy hv
  go_enter Tryd.func81, Tryd.ntmps81
  go_wp2
  go_loopw [5, 6, 7] (fun v cv j wr => ∃ (k : Nat) (cc : Int) (zs : List Int), k ≤ m ∧ j = .int .i64 k ∧ cv = .int .i64 cc ∧ 0 ≤ cc ∧ cc ≤ 1 ∧ Hid (Own wr w.heap.size .i64 3 v zs) ∧ Hid (MR xs ys k cc zs) ∧ Hid (Gr w wr)) (fun _ _ j _ => m + 2 - (intOf j).toNat)
  case atStart => exact ⟨0, 0, [], by omega, rfl, rfl, by omega, by omega, Own.nil _ _ _ _, MR.start _ _, Gr.refl _⟩
  case round =>
    obtain ⟨k, cc, zs, hk, rfl, rfl, hc0, hc1, hO, hP, hG⟩ := hrel
    have hx1 := Lib.hid HX.out.len
    have hy1 := Lib.hid HY.out.len
    have hzl := Lib.hid hP.out.1
    have hgs := hG.out.size
    by_cases h1 : k < m
    · obtain ⟨x, ex⟩ : ∃ x, xs.getD k 0 = x := ⟨_, rfl⟩
      obtain ⟨y, ey⟩ : ∃ y, ys.getD k 0 = y := ⟨_, rfl⟩
      have bx := DX.out.getD k
      have by_ := DY.out.getD k
      rw [ex] at bx
      rw [ey] at by_
      have hst : ∀ d c', c' = countI (decide (x - cc - y < 0)) → d = x - cc - y + 10 * c' → MR xs ys (k + 1) c' (zs ++ [d]) := fun d c' h2 h3 =>
        hP.out.step DX.out DY.out (by rw [ex, ey]; exact h2) (by rw [ex, ey]; exact h3)
      have HS := Lib.hid hst
      clear hst
      obtain ⟨b, rfl, ha⟩ := HX.out.some (by omega)
      have hcx := hG.out.keep (ha k (by rw [hx1.out]; exact h1))
      rw [ex] at hcx
      have EX := Lib.hid ex
      clear ex ha
      by_cases h2 : k < n
      · obtain ⟨b', rfl, ha'⟩ := HY.out.some (by omega)
        have hcy := hG.out.keep (ha' k (by rw [hy1.out]; exact h2))
        rw [ey] at hcy
        have EY := Lib.hid ey
        clear ey ha'
        have hcb := countI_bd (decide (x - cc - y < 0))
        go_wp2_with (first | (go_at_call 27; refine (Count_any _ _).mono ?_; rintro e w1 ⟨rfl, rfl, hc0, hc1⟩) | (at_builtin; go_loud (refine wp_append_ints _ rfl (.tmp 34) (.tmp 39) 97 3 rfl .i64 i0 8 Tryd.underlying97 hi hz0 hz1 hz2 (by decide) w.heap.size _ zs rfl (hO.out.alloc _) (k + 1) wr.heap.size 1 1 [x - cc - y + 10 * countI (decide (x - cc - y < 0))] (by first | rfl | simp) rfl (by omega) (fun j hj => one_cell _ _ _ _ j hj) (by rw [hzl.out]) (by omega) (by simp <;> omega) ?_); intro g1 cap1 w2 hO2 hB2 hgr2 hg1 hg1l))
        go_roundw
        case rel => exact ⟨k + 1, countI (decide (x - cc - y < 0)), zs ++ [x - cc - y + 10 * countI (decide (x - cc - y < 0))], by omega, by go_num, rfl, by omega, by omega, hO2, Lib.hid (HS.out _ _ rfl rfl), Below.trans (Gr.alloc hG.out _) hB2⟩
        case measure => simp [intOf]; omega
      · have e0 : y = 0 := by rw [← ey]; exact getD_big (by rw [hy1.out]; omega)
        subst e0
        have EY := Lib.hid ey
        clear ey
        have hcb := countI_bd (decide (x - cc < 0))
        go_wp2_with (first | (go_at_call 27; refine (Count_any _ _).mono ?_; rintro e w1 ⟨rfl, rfl, hc0, hc1⟩) | (at_builtin; go_loud (refine wp_append_ints _ rfl (.tmp 34) (.tmp 39) 97 3 rfl .i64 i0 8 Tryd.underlying97 hi hz0 hz1 hz2 (by decide) w.heap.size _ zs rfl (hO.out.alloc _) (k + 1) wr.heap.size 1 1 [x - cc + 10 * countI (decide (x - cc < 0))] (by first | rfl | simp) rfl (by omega) (fun j hj => one_cell _ _ _ _ j hj) (by rw [hzl.out]) (by omega) (by simp <;> omega) ?_); intro g1 cap1 w2 hO2 hB2 hgr2 hg1 hg1l))
        go_roundw
        case rel => exact ⟨k + 1, countI (decide (x - cc < 0)), zs ++ [x - cc + 10 * countI (decide (x - cc < 0))], by omega, by go_num, rfl, by omega, by omega, hO2, Lib.hid (HS.out _ _ (by rw [Int.sub_zero]) (by rw [Int.sub_zero])), Below.trans (Gr.alloc hG.out _) hB2⟩
        case measure => simp [intOf]; omega
    · obtain rfl : k = m := by omega
      obtain ⟨r, cap, hv5, hS, hF⟩ := hO.out.slf
      rw [hzl.out] at hv5 hS
      subst hv5
      have hT := trim_sl hS
      obtain ⟨t, ht⟩ : ∃ t, tN zs k = t := ⟨_, rfl⟩
      rw [ht] at hT
      obtain ⟨tl1, tl2, tl3⟩ := trim_left hS hP.out.2.1
      rw [ht] at tl1 tl2 tl3
      have hle := tN_le zs k
      rw [ht] at hle
      have h0 : cc = cc := rfl
      have hvl : vl zs = vl xs - vl ys := (show MR xs ys xs.length cc zs by rw [hx1.out]; exact hP.out).done (by rw [hx1.out, hy1.out]; exact hn) HV.out
      have HVL := Lib.hid hvl
      have T1 := Lib.hid tl1
      have T3 := Lib.hid tl3
      clear hvl tl1 tl3 ht hS
      go_wp2_with (go_at_call 97; refine (hT).mono ?_; rintro e w1 ⟨rfl, rfl⟩)
      refine bodyPost_ret (v := .slice r t cap) (by simp [results, Tryd.results81, go_sem, *]) rfl ⟨r, t, cap, _, rfl, T1.out, hF, ⟨by rw [T3.out, HVL.out], tl2⟩, hle, hG.out⟩
end Go.Proofs.YtnaflaokhldfnaaDoor
