/- SegmentNumbers' walk. -/
import Derived.Test.YtljminmfldejnaaKb
import Derived.Maps.AppendAt
namespace Go.Proofs.Ytljminmfldejnaa
set_option linter.unusedSimpArgs false
set_option linter.unusedVariables false
open Go.RowKit

theorem Sv.of5k {W : World} {K : Nat} {a b c d e : Value} (h0 : W.cell? ⟨K, 0, none⟩ = some a) (h1 : W.cell? ⟨K, 1, none⟩ = some b) (h2 : W.cell? ⟨K, 2, none⟩ = some c) (h3 : W.cell? ⟨K, 3, none⟩ = some d) (h4 : W.cell? ⟨K, 4, none⟩ = some e) : Sv W (some ⟨K, 0, none⟩) 1 1 5 [a, b, c, d, e] := by
  refine ⟨rfl, Nat.le_refl _, by unfold maxLen; omega, (fun e => by cases e), fun _ => ⟨K, 0, rfl, World.block_lt_of_cell? W _ h0, fun j hj => ?_⟩⟩
  rw [Nat.zero_add]
  obtain rfl | rfl | rfl | rfl | rfl : j = 0 ∨ j = 1 ∨ j = 2 ∨ j = 3 ∨ j = 4 := by omega
  · exact h0
  · exact h1
  · exact h2
  · exact h3
  · exact h4
theorem two_setk {w : World} {K : Nat} {x y a b : Value} (h : w.cell? ⟨K, 0, none⟩ = some a ∧ w.cell? ⟨K, 1, none⟩ = some b ∧ w.frozen? ⟨K, 0, none⟩ = false ∧ w.frozen? ⟨K, 1, none⟩ = false) : ((w.setCell ⟨K, 0, none⟩ x).setCell ⟨K, 1, none⟩ y).cell? ⟨K, 0, none⟩ = some x ∧ ((w.setCell ⟨K, 0, none⟩ x).setCell ⟨K, 1, none⟩ y).cell? ⟨K, 1, none⟩ = some y := by
  obtain ⟨h0, h1, f0, f1⟩ := h
  constructor <;> simp [go_sem, *]
theorem box_keptk {a w : World} {x y : Value} {t : TypeId} (h : Gr (a.alloc (.cells #[x, y] t)) w) : w.cell? ⟨a.heap.size, 0, none⟩ = some x ∧ w.cell? ⟨a.heap.size, 1, none⟩ = some y ∧ w.frozen? ⟨a.heap.size, 0, none⟩ = false ∧ w.frozen? ⟨a.heap.size, 1, none⟩ = false :=
  ⟨h.keep (by simp [go_sem]), h.keep (by simp [go_sem]), (h.cells.2 _ _ (by simp)).trans (by simp [go_sem]), (h.cells.2 _ _ (by simp)).trans (by simp [go_sem])⟩
/-- append of one number to a slice of the call's own; where the new slice lies. -/
theorem wp_app_int {P : Program} {ops : Array Oper} {rest : List Oper} {o : Oper} {a : Act} {Q : Exit → Act → World → Prop} (w : World) (hgd : o.guard = none) (s z : Operand) (t e : TypeId)
    (ho : o.op = .call { callee := .builtin .append, args := #[s, z], argTypes := #[t, t] })
    (i : TypeInfo) (ht : P.underlying t = some (.slice e)) (hi : P.info? e = some i) (hz : i.zero = some (.int .i64 0)) (hsize : i.size = 1) (hby : i.bytes = 8)
    (B : Nat) (v : Value) (xs : List Int) (hs : a.eval s = v) (hown : Own w B .i64 e v xs) (y : Int) (h c : Nat) (hx : a.eval z = .slice (some ⟨h, 0, none⟩) 1 c) (hcell : w.cell? ⟨h, 0, none⟩ = some (.int .i64 y)) (hb : xs.length ≤ 1000) (hbase : B ≤ w.heap.size)
    (hK : ∀ v' w', Own w' B .i64 e v' (xs ++ [y]) → Below B w w' → w.grownBy w' v.ownBlock → (v'.ownBlock = v.ownBlock ∨ v'.ownBlock = some w.heap.size) → wpList P ops Q rest (a.put o.dst v') w') :
    wpList P ops Q (o :: rest) a w := by
  refine wpList_append_own_at w hgd s z t ho B e i (.int .i64 0) 1 8 ht hi hz hsize hby rfl (by omega) v xs.length (xs.map (Value.int .i64)) hs hown ⟨h, 0, none⟩ 1 c [.int .i64 y] hx rfl (fun j u hj => ?_) (fun u hu => by obtain rfl := List.mem_singleton.1 hu; rfl) (by unfold maxLen; omega) (by omega) hbase fun v' w' h1 h2 _ h4 => ?_
  · match j, hj with
    | 0, hj =>
      simp only [List.getElem?_cons_zero, Option.some.injEq] at hj
      subst hj
      rw [Addr.add_lit]; exact hcell
  · refine hK v' w' ?_ ((Below.refl B w).grown h2 hbase fun q hq => (World.ownsRow.lt hown q hq).1) h2 h4
    unfold Own
    rw [List.length_append, List.map_append]
    exact h1

/-- Two slices of numbers and a store in block K, all apart. -/
def SnM (B K : Nat) (w : World) (v5 v6 : Value) (A : Option Addr) (m c : Nat) (x : Int) (g : List (Int × ByteArray)) (had gone : List Int) : Prop :=
  Own w B .i64 3 v6 had ∧ Own w B .i64 3 v5 gone ∧ (∀ b, v5.ownBlock = some b → v6.ownBlock ≠ some b) ∧ v5.ownBlock ≠ some K ∧ v6.ownBlock ≠ some K ∧
  (∀ a, A = some a → 0 < m → v5.ownBlock ≠ some a.block ∧ v6.ownBlock ≠ some a.block) ∧
  (w.cell? ⟨K, 0, none⟩ = some (.slice A m c) ∧ w.cell? ⟨K, 1, none⟩ = some (.int .i64 x) ∧ w.frozen? ⟨K, 0, none⟩ = false ∧ w.frozen? ⟨K, 1, none⟩ = false) ∧ Sv w A m c 2 (sg g)
theorem sv_kept {w w' : World} {row : Option Nat} {A : Option Addr} {n c size : Nat} {xs : List Value} (h : Sv w A n c size xs) (hg : w.grownBy w' row) (hne : ∀ a, A = some a → 0 < n → row ≠ some a.block) : Sv w' A n c size xs :=
  ⟨h.1, h.2.1, h.2.2.1, h.2.2.2.1, fun hn => by
    obtain ⟨b, o, e, hb, hc⟩ := h.2.2.2.2 hn
    exact ⟨b, o, e, Nat.lt_of_lt_of_le hb hg.size, fun j hj => (World.grownBy.cell_far hg ⟨b, o + j, none⟩ hb (fun e' => hne _ e hn e'.symm)).trans (hc j hj)⟩⟩
theorem own_kept {w w' : World} {row : Option Nat} {B : Nat} {t : TypeId} {v : Value} {xs : List Int} (h : Own w B .i64 t v xs) (hg : w.grownBy w' row) (hne : ∀ b, v.ownBlock = some b → row ≠ some b) : Own w' B .i64 t v xs := by
  refine World.ownsRow.kept h hg ?_
  rcases hv : v.ownBlock with _ | b
  · exact .inl rfl
  · exact .inr fun e => hne b hv e.symm
theorem grown_set (w : World) (p : Addr) (u : Value) : w.grownBy (w.setCell p u) (some p.block) :=
  ⟨rfl, rfl, rfl, by simp [World.setCell], fun k _ hk => heap_setCell_other w p k u (fun e => hk (by rw [e]))⟩
section
variable {B K : Nat} {w w' : World} {v5 v6 v' : Value} {A A' : Option Addr} {m m' c c' : Nat} {x x' : Int} {g g' : List (Int × ByteArray)} {had gone : List Int} {y : Int}
theorem SnM.gr (h : SnM B K w v5 v6 A m c x g had gone) (hg : Gr w w') : SnM B K w' v5 v6 A m c x g had gone := by
  obtain ⟨h1, h2, h3, h4, h5, h6, ⟨k0, k1, k2, k3⟩, h8⟩ := h
  have hk := World.block_lt_of_cell? _ _ k0
  exact ⟨h1.gr hg, h2.gr hg, h3, h4, h5, h6, ⟨hg.keep k0, hg.keep k1, (hg.cells.2 _ _ hk).trans k2, (hg.cells.2 _ _ hk).trans k3⟩, h8.gr hg⟩
theorem SnM.app6 (h : SnM B K w v5 v6 A m c x g had gone) (hg : w.grownBy w' v6.ownBlock) (hO : Own w' B .i64 3 v' (had ++ [y])) (hat : v'.ownBlock = v6.ownBlock ∨ v'.ownBlock = some w.heap.size) : SnM B K w' v5 v' A m c x g (had ++ [y]) gone := by
  obtain ⟨h1, h2, h3, h4, h5, h6, ⟨k0, k1, k2, k3⟩, h8⟩ := h
  have hk := World.block_lt_of_cell? _ _ k0
  have hl5 := fun b hb => (World.ownsRow.lt h2 b hb).2
  refine ⟨hO, own_kept h2 hg h3, fun b hb => ?_, h4, ?_, fun a ha hm => ⟨(h6 a ha hm).1, ?_⟩, ⟨hg.cell k0 h5.symm, hg.cell k1 h5.symm, (World.grownBy.frozen_far hg _ hk h5.symm).trans k2, (World.grownBy.frozen_far hg ⟨K, 1, none⟩ hk h5.symm).trans k3⟩, sv_kept h8 hg fun a ha hm => (h6 a ha hm).2⟩
  · rcases hat with e | e <;> rw [e]
    · exact h3 b hb
    · intro e'; have := hl5 b hb; simp only [Option.some.injEq] at e'; omega
  · rcases hat with e | e <;> rw [e]
    · exact h5
    · intro e'; simp only [Option.some.injEq] at e'; dsimp only at hk; omega
  · rcases hat with e | e <;> rw [e]
    · exact (h6 a ha hm).2
    · obtain ⟨b, o, e2, hb, -⟩ := h8.at_ hm
      intro e'
      rw [ha] at e2
      simp only [Option.some.injEq] at e' e2
      subst e2
      dsimp only at e'
      omega
theorem SnM.app5 (h : SnM B K w v5 v6 A m c x g had gone) (hg : w.grownBy w' v5.ownBlock) (hO : Own w' B .i64 3 v' (gone ++ [y])) (hat : v'.ownBlock = v5.ownBlock ∨ v'.ownBlock = some w.heap.size) : SnM B K w' v' v6 A m c x g had (gone ++ [y]) := by
  obtain ⟨h1, h2, h3, h4, h5, h6, ⟨k0, k1, k2, k3⟩, h8⟩ := h
  have hk := World.block_lt_of_cell? _ _ k0
  have hl6 := fun b hb => (World.ownsRow.lt h1 b hb).2
  refine ⟨own_kept h1 hg fun b hb e => h3 b e hb, hO, fun b hb => ?_, ?_, h5, fun a ha hm => ⟨?_, (h6 a ha hm).2⟩, ⟨hg.cell k0 h4.symm, hg.cell k1 h4.symm, (World.grownBy.frozen_far hg _ hk h4.symm).trans k2, (World.grownBy.frozen_far hg ⟨K, 1, none⟩ hk h4.symm).trans k3⟩, sv_kept h8 hg fun a ha hm => (h6 a ha hm).1⟩
  · rcases hat with e | e <;> rw [e] at hb
    · exact h3 b hb
    · intro e'; have := hl6 b e'; simp only [Option.some.injEq] at hb; omega
  · rcases hat with e | e <;> rw [e]
    · exact h4
    · intro e'; simp only [Option.some.injEq] at e'; dsimp only at hk; omega
  · rcases hat with e | e <;> rw [e]
    · exact (h6 a ha hm).1
    · obtain ⟨b, o, e2, hb, -⟩ := h8.at_ hm
      intro e'
      rw [ha] at e2
      simp only [Option.some.injEq] at e' e2
      subst e2
      dsimp only at e'
      omega
theorem SnM.store (h : SnM B K w v5 v6 A m c x g had gone) (hs : Sv w A' m' c' 2 (sg g')) (hf : ∀ a, A' = some a → 0 < m' → a.block ≠ K ∧ v5.ownBlock ≠ some a.block ∧ v6.ownBlock ≠ some a.block) :
    SnM B K ((w.setCell ⟨K, 0, none⟩ (.slice A' m' c')).setCell ⟨K, 1, none⟩ (.int .i64 x')) v5 v6 A' m' c' x' g' had gone := by
  obtain ⟨h1, h2, h3, h4, h5, h6, hk, h8⟩ := h
  have g1 := grown_set w ⟨K, 0, none⟩ (.slice A' m' c')
  have g2 := grown_set (w.setCell ⟨K, 0, none⟩ (.slice A' m' c')) ⟨K, 1, none⟩ (.int .i64 x')
  have e5 : ∀ b, v5.ownBlock = some b → some K ≠ some b := fun b hb e => h4 (by rw [hb]; exact e.symm)
  have e6 : ∀ b, v6.ownBlock = some b → some K ≠ some b := fun b hb e => h5 (by rw [hb]; exact e.symm)
  have eS : ∀ a, A' = some a → 0 < m' → some K ≠ some a.block := fun a ha hm e => (hf a ha hm).1 (by simp only [Option.some.injEq] at e; exact e.symm)
  refine ⟨own_kept (own_kept h1 g1 e6) g2 e6, own_kept (own_kept h2 g1 e5) g2 e5, h3, h4, h5, fun a ha hm => (hf a ha hm).2, ⟨(two_setk hk).1, (two_setk hk).2, ?_, ?_⟩, sv_kept (sv_kept hs g1 eS) g2 eS⟩
  · rw [World.frozen?_setCell, World.frozen?_setCell]; exact hk.2.2.1
  · rw [World.frozen?_setCell, World.frozen?_setCell]; exact hk.2.2.2
end
theorem cr_num {nx p : Int} {gs g : List (Int × ByteArray)} {x N : Int} (h : crR nx gs p = (g, x, N, 0)) : N = nx := by
  unfold crR bad at h
  split at h
  · rename_i h1
    simp only [Prod.mk.injEq] at h
    exact absurd h.2.2.2 h1
  · split at h
    · simp at h
    · split at h
      · simp at h
      · simp only [Prod.mk.injEq] at h
        exact h.2.2.1.symm

/-- The loop over the operations: what is known of the two lists, the store, its cell. -/
def SnR (B K n q : Nat) (W1 : World) (v5 v6 : Value) (wr : World) : Prop :=
  ∃ A m c x g had gone, SnI x g had gone ∧ SnM B K wr v5 v6 A m c x g had gone ∧ had.length ≤ n + q ∧ gone.length ≤ q ∧ Gr W1 wr
/-- The store behind an operation, in a variable. -/
def SnC (a : World) (m : Nat) (g : List (Int × ByteArray)) (x N E : Int) (s10 s11 s12 : Value) (wx : World) : Prop :=
  ∃ J A c, s10 = .pointer (some ⟨J, 0, none⟩) ∧ s11 = .int .i64 N ∧ s12 = .int .i64 E ∧ a.heap.size ≤ J ∧ wx.cell? ⟨J, 0, none⟩ = some (.slice A m c) ∧ wx.cell? ⟨J, 1, none⟩ = some (.int .i64 x) ∧ Sv wx A m c 2 (sg g) ∧ (∀ y, A = some y → 0 < m → a.heap.size ≤ y.block) ∧ Gr a wx
def Pb (m : Nat) (g : List (Int × ByteArray)) (x N E : Int) (W : World) (e : Ending) (w' : World) : Prop :=
  ∃ A c, e = .returned (.tuple #[.agg #[.slice A m c, .int .i64 x], .int .i64 N, .int .i64 E]) ∧ Sv w' A m c 2 (sg g) ∧ (∀ a, A = some a → 0 < m → W.heap.size ≤ a.block) ∧ Gr W w'
def Pd (m : Nat) (x N : Int) (W : World) (e : Ending) (w' : World) : Prop := ∃ A c, e = .returned (.tuple #[.agg #[.slice A m c, .int .i64 x], .int .i64 N, .int .i64 0]) ∧ Gr W w'
/-- The number that a new segment would get. -/
def SnD (a : World) (N : Int) (s14 s15 : Value) (wx : World) : Prop := s14 = .int .i64 N ∧ s15 = .int .i64 0 ∧ Gr a wx

set_option maxHeartbeats 8000000 in
set_option maxRecDepth 100000 in
theorem sn_walk (A B : Option Addr) (n c l cb : Nat) (gs : List (Int × ByteArray)) (nx : Int) (ops : List (Int × Int × Int × Int × ByteArray)) (w : World) (hs : Sv w A n c 2 (sg gs)) (hb : Sh gs) (ho : Sv w B l cb 5 (oc ops)) (hbo : ShO ops) (hf : fewB gs = true) (hl : liB ops = true) (he : stE nx gs = 0) :
    Calls Try.prog 9 #[.agg #[.slice A n c, .int .i64 nx], .slice B l cb] w fun e w' => e = .returned (.bool true) ∧ Gr w w' := by
  obtain ⟨i0, hi, iz0, iz1, iz2⟩ := info_parts infoInt4
  have hlen := hs.segs
  have hn : n ≤ 12 := by have := (few_yes hf).1; omega
  have hll : l ≤ 42 := by have := (li_yes hl).1; have := ho.ops; omega
  have hlo := ho.ops
  have HF := Lib.hid (fun W hg => few_is A n c gs nx _ hf W (hs.gr hg) hb)
  have HL := Lib.hid (fun W hg => light_is B l cb ops _ hl W (ho.gr hg) hbo)
  have HE := Lib.hid (fun W hg => Err_is A n c gs nx _ he W (hs.gr hg) hb)
  have HO := Lib.hid (fun W hg => Own_n A n c gs nx W (hs.gr hg) (by omega))
  have HSI := Lib.hid (sn_start he)
  have HS := Lib.hid hs
  have HSO := Lib.hid ho
  have HBO := Lib.hid hbo
  have HLO := Lib.hid hlo
  have HSL := Lib.hid hlen
  clear hs hb hf ho hbo hl he hlen hlo
  go_enter Try.func9, Try.ntmps9
  go_wp2_with (first | (go_at_call 12; (with_reducible refine (awake_any _).mono ?_); rintro e w1 ⟨rfl, hb⟩; obtain ⟨hc, hf⟩ := gcells hb (w.heap.size + 1) (by first | exact hz | omega | (simp; done) | (simp; omega)); have hz : w.heap.size + 1 ≤ w1.heap.size := (by have h := hb.size; (try simp at h); omega); have hz0 : w.heap.size < w1.heap.size := (by omega)) | (go_at_call 13; (with_reducible refine (HF.out _ (by repeat (first | (with_reducible exact Gr.refl _) | (with_reducible assumption) | (with_reducible refine Gr.alloc ?_ _) | (with_reducible refine Gr.drew ?_) | (with_reducible refine Gr.drewN ?_ _) | (with_reducible refine Gr.setCell ?_ (by simp <;> omega) _) | (with_reducible refine Gr.trans ?_ (by with_reducible assumption)) | exact Gr.refl _ | assumption | refine Gr.alloc ?_ _ | refine Gr.drew ?_ | refine Gr.drewN ?_ _ | refine Gr.setCell ?_ (by simp <;> omega) _ | refine Gr.trans ?_ (by assumption)))).mono ?_); rintro e w1 ⟨rfl, hb⟩; obtain ⟨hc, hf⟩ := gcells hb (w.heap.size + 1) (by first | exact hz | omega | (simp; done) | (simp; omega)); have hz : w.heap.size + 1 ≤ w1.heap.size := (by have h := hb.size; (try simp at h); omega); have hz0 : w.heap.size < w1.heap.size := (by omega)) | (go_at_call 32; (with_reducible refine (HL.out _ (by repeat (first | (with_reducible exact Gr.refl _) | (with_reducible assumption) | (with_reducible refine Gr.alloc ?_ _) | (with_reducible refine Gr.drew ?_) | (with_reducible refine Gr.drewN ?_ _) | (with_reducible refine Gr.setCell ?_ (by simp <;> omega) _) | (with_reducible refine Gr.trans ?_ (by with_reducible assumption)) | exact Gr.refl _ | assumption | refine Gr.alloc ?_ _ | refine Gr.drew ?_ | refine Gr.drewN ?_ _ | refine Gr.setCell ?_ (by simp <;> omega) _ | refine Gr.trans ?_ (by assumption)))).mono ?_); rintro e w1 ⟨rfl, hb⟩; obtain ⟨hc, hf⟩ := gcells hb (w.heap.size + 1) (by first | exact hz | omega | (simp; done) | (simp; omega)); have hz : w.heap.size + 1 ≤ w1.heap.size := (by have h := hb.size; (try simp at h); omega); have hz0 : w.heap.size < w1.heap.size := (by omega)) | (go_at_call 39; (with_reducible refine (HE.out _ (by repeat (first | (with_reducible exact Gr.refl _) | (with_reducible assumption) | (with_reducible refine Gr.alloc ?_ _) | (with_reducible refine Gr.drew ?_) | (with_reducible refine Gr.drewN ?_ _) | (with_reducible refine Gr.setCell ?_ (by simp <;> omega) _) | (with_reducible refine Gr.trans ?_ (by with_reducible assumption)) | exact Gr.refl _ | assumption | refine Gr.alloc ?_ _ | refine Gr.drew ?_ | refine Gr.drewN ?_ _ | refine Gr.setCell ?_ (by simp <;> omega) _ | refine Gr.trans ?_ (by assumption)))).mono ?_); rintro e w1 ⟨rfl, hb⟩; obtain ⟨hc, hf⟩ := gcells hb (w.heap.size + 1) (by first | exact hz | omega | (simp; done) | (simp; omega)); have hz : w.heap.size + 1 ≤ w1.heap.size := (by have h := hb.size; (try simp at h); omega); have hz0 : w.heap.size < w1.heap.size := (by omega)))
  have b0 : w1.cell? ⟨w.heap.size, 0, none⟩ = some (.slice A n c) := by simp [go_sem, *]
  have b1 : w1.cell? ⟨w.heap.size, 1, none⟩ = some (.int .i64 nx) := by simp [go_sem, *]
  have G1 := Lib.hid (show Gr w w1 from (by repeat (first | (with_reducible exact Gr.refl _) | (with_reducible assumption) | (with_reducible refine Gr.alloc ?_ _) | (with_reducible refine Gr.drew ?_) | (with_reducible refine Gr.drewN ?_ _) | (with_reducible refine Gr.setCell ?_ (by simp <;> omega) _) | (with_reducible refine Gr.trans ?_ (by with_reducible assumption)) | exact Gr.refl _ | assumption | refine Gr.alloc ?_ _ | refine Gr.drew ?_ | refine Gr.drewN ?_ _ | refine Gr.setCell ?_ (by simp <;> omega) _ | refine Gr.trans ?_ (by assumption))))
  clear hc hf hb HF HL HE
  generalize w1 = W1 at *
  go_loopw [6, 7] (fun v i wr => ∃ q : Nat, q ≤ n ∧ i = .int .i64 q ∧ Hid (Own wr W1.heap.size .i64 3 v (nuL gs q)) ∧ Hid (Gr W1 wr)) (fun _ i _ => n - (intOf i).toNat)
  case atStart => exact ⟨0, Nat.zero_le _, rfl, Lib.hid (Own.nil _ _ _ _), Lib.hid (Gr.refl _)⟩
  case round =>
    obtain ⟨q, hq, rfl, hO, hG⟩ := hrel
    have c0 := hG.out.keep b0
    have c1 := hG.out.keep b1
    have hzr : W1.heap.size ≤ wr.heap.size := hG.out.size
    have hzw := World.block_lt_of_cell? _ _ c0
    by_cases hlt : q < n
    · obtain ⟨ob, oo, rfl, hbl, -⟩ := HS.out.at_ (show 0 < n by omega)
      have k0 := ((HS.out.gr (G1.out.trans hG.out)).seg hlt).1
      have HO1 := hO
      have hlq := nuL_len gs q
      have HNS := Lib.hid (nuL_succ gs q)
      clear hO
      generalize nuG gs q = m at *
      have hq0 : (0 : Int) ≤ q := by omega
      have hq1 : (q : Int) < n := by omega
      go_wp2_with (at_builtin; go_loud (refine wp_append_ints _ rfl _ _ 69 3 rfl .i64 i0 8 Try.underlying69 hi iz0 iz1 iz2 (by decide) W1.heap.size _ (nuL gs q) rfl (HO1.out.alloc _) (q + 1) wr.heap.size 1 1 [m] (by first | rfl | simp) rfl (by omega) (fun j hj => one_cell _ _ _ _ j hj) (by rw [hlq]) (by omega) (by simp <;> omega) ?_); intro g1 cap1 w2 hO2 hB2 hgr2 hg1 hg1l)
      go_roundw
      case rel =>
        refine ⟨q + 1, by omega, by go_num, Lib.hid ?_, Lib.hid (Below.trans (Gr.alloc hG.out _) (by simpa using hB2))⟩
        rw [HNS.out]; exact hO2
      case measure => simp [intOf]; omega
    · obtain rfl : q = n := by omega
      go_upto_region 10 with (fail)
      go_wp2_with (go_at_call 15; (with_reducible refine (HO.out _ (G1.out.trans (hG.out.trans (by repeat (first | (with_reducible exact Gr.refl _) | (with_reducible assumption) | (with_reducible refine Gr.alloc ?_ _) | (with_reducible refine Gr.drew ?_) | (with_reducible refine Gr.drewN ?_ _) | (with_reducible refine Gr.setCell ?_ (by simp <;> omega) _) | (with_reducible refine Gr.trans ?_ (by with_reducible assumption)) | exact Gr.refl _ | assumption | refine Gr.alloc ?_ _ | refine Gr.drew ?_ | refine Gr.drewN ?_ _ | refine Gr.setCell ?_ (by simp <;> omega) _ | refine Gr.trans ?_ (by assumption)))))).mono ?_); rintro e w6 ⟨A6, c6, rfl, hV6, hb, hzz⟩; have HV6 := Lib.hid hV6; clear hV6)
      have hI0 : SnI nx gs (nuL gs q) [] := by have h := HSI.out; rw [HSL.out] at h; exact h
      have hzz6 := hb.size
      have hM0 : SnM W1.heap.size w6.heap.size (w6.alloc (.cells #[.slice A6 q c6, .int .i64 nx] 24)) (.slice none 0 0) u6 A6 q c6 nx gs (nuL gs q) [] := by
        have hO' := hO.out.gr hb
        refine ⟨hO'.alloc _, Own.nil _ _ _ _, (fun b hb => by cases hb), (fun h => by cases h), fun h => ?_, fun a ha hm => ⟨(fun h => by cases h), fun h => ?_⟩, ⟨by simp [go_sem], by simp [go_sem], by simp [go_sem], by simp [go_sem]⟩, HV6.out.sv.gr ((Gr.refl _).alloc _)⟩
        · have := (World.ownsRow.lt hO' _ h).2; omega
        · obtain ⟨gb, e, h1, h2, -⟩ := HV6.out.at_ hm
          rw [ha] at e
          simp only [Option.some.injEq] at e
          subst e
          have := (World.ownsRow.lt hO.out _ h).2
          dsimp only at this
          omega
      have hGK : Gr W1 (w6.alloc (.cells #[.slice A6 q c6, .int .i64 nx] 24)) := (hG.out.trans hb).alloc _
      have hKB : W1.heap.size ≤ w6.heap.size := by omega
      have HR0 := Lib.hid (show SnR W1.heap.size w6.heap.size q 0 W1 (.slice none 0 0) u6 (w6.alloc (.cells #[.slice A6 q c6, .int .i64 nx] 24)) from ⟨_, _, _, _, _, _, _, hI0, hM0, by rw [nuL_len]; omega, by simp, hGK⟩)
      clear hI0 hM0 hO hG HV6 hGK hb hc hf c0 c1 b0 b1 hzz HSI HS HO hzr hlt hq
      generalize w6.heap.size = K at *
      generalize w6.alloc (.cells #[.slice A6 q c6, .int .i64 nx] 24) = W2 at *
      go_loopw [5, 6, 9] (fun v5 v6 i wr => ∃ p : Nat, p ≤ l ∧ i = .int .i64 p ∧ Hid (SnR W1.heap.size K q p W1 v5 v6 wr)) (fun _ _ i _ => l - (intOf i).toNat)
      case atStart => exact ⟨0, Nat.zero_le _, rfl, HR0⟩
      case round =>
        obtain ⟨p, hp, rfl, hR⟩ := hrel
        obtain ⟨A, m, c, x, g, had, gone, hI, hM, hhl, hgl, hG⟩ := hR.out
        have GF := Lib.hid (G1.out.trans hG)
        clear hR HR0
        by_cases hlt : p < l
        · obtain ⟨ob, oo, rfl, hob, -⟩ := HSO.out.at_ (show 0 < l by omega)
          have hk := (HSO.out.gr GF.out).op hlt
          have hbs := HBO.out p (by rw [HLO.out]; exact hlt)
          obtain ⟨kd, sn, o, pg, b, hop⟩ : ∃ kd sn o pg b, opAt ops p = (kd, sn, o, pg, b) := ⟨_, _, _, _, _, rfl⟩
          rw [hop] at hk hbs
          dsimp only at hk hbs
          obtain ⟨k0, k1, k2, k3, k4⟩ := hk
          clear hop
          obtain ⟨⟨g', x', N, E⟩, hr⟩ : ∃ r, alR x g [(kd, sn, o, pg, b)] = r := ⟨_, rfl⟩
          have hfg := few_right hI.1
          have hmg := hM.2.2.2.2.2.2.2.segs
          have hm12 : m ≤ 12 := by have := (few_yes hfg).1; omega
          have HAp : Hid (∀ W A' c' B' cb', Sv W A' m c' 2 (sg g) → Sv W B' 1 cb' 5 [.int .i64 kd, .int .i64 sn, .int .i64 o, .int .i64 pg, .string b] → Calls Try.prog 33 #[.agg #[.slice A' m c', .int .i64 x], .slice B' 1 cb'] W (Pb g'.length g' x' N E W)) := Lib.hid (fun W A' c' B' cb' h1 h2 => by
            have h := (al_both A' B' m c' 1 cb' g x [(kd, sn, o, pg, b)] W h1 (few_sh hfg) h2 (fun i hi => by
              obtain rfl : i = 0 := by simp at hi; omega
              exact hbs)).1
            rw [hr] at h; exact h)
          have HCr := Lib.hid (fun W A' c' (hv : Sv W A' m c' 2 (sg g)) => (cr_both A' m c' g x W hv (few_sh hfg) pg).1)
          have HO9 := Lib.hid (fun W (hg : Gr wr W) => Own_n A m c g x W (hM.2.2.2.2.2.2.2.gr hg) (by omega))
          have hres : (E != 0) = true ∨ (E = 0 ∧ N = 1 ∧ SnI x' g' (if kd = 0 then had ++ [x] else had) (if kd = 3 then gone ++ [sn] else gone) ∧ (kd = 0 → crR x g pg = (g', x', x, 0))) := by
            rw [al_one hI.1] at hr
            by_cases h : (opR x g kd sn o pg b).2.2.2 = 0
            · rw [if_neg (by simp [h])] at hr
              simp only [Prod.mk.injEq] at hr
              obtain ⟨rfl, rfl, rfl, rfl⟩ := hr
              refine .inr ⟨rfl, rfl, sn_step hI h, fun h0 => ?_⟩
              obtain ⟨-, s2⟩ := op_next h
              rcases s2 with ⟨-, -, e, -⟩ | ⟨k3, -⟩ | ⟨k0, -⟩
              · have e2 : crR x g pg = ((opR x g kd sn o pg b).1, (opR x g kd sn o pg b).2.1, (opR x g kd sn o pg b).2.2.1, 0) := by rw [e]; exact Prod.ext rfl (Prod.ext rfl (Prod.ext rfl h))
                rw [e2, cr_num e2]
              · omega
              · exact absurd h0 k0
            · rw [if_pos h] at hr
              simp only [Prod.mk.injEq] at hr
              exact .inl (by rw [← hr.2.2.2]; simpa using h)
          have HRS := Lib.hid hres
          have hMM := Lib.hid hM
          have hII := Lib.hid hI
          have hnot : x ∉ had := fun h => by have := hI.2.1 x h; omega
          have HNT := Lib.hid hnot
          obtain ⟨q0, q1, q2, q3⟩ := hM.2.2.2.2.2.2.1
          have hgl' := Lib.hid (rfl : g'.length = g'.length)
          obtain ⟨m', hm'⟩ : ∃ m', g'.length = m' := ⟨_, rfl⟩
          have HM' := Lib.hid hm'
          rw [hm'] at HAp
          have HKr := Lib.hid (World.block_lt_of_cell? _ _ q0)
          have hK1 := HKr.out
          have hob1 := World.block_lt_of_cell? _ _ k0
          dsimp only at hK1 hob1
          clear hm' hgl' hnot hres hI hM hr hfg hmg hbs hm12
          have hobW : ob < W1.heap.size := by have := G1.out.size; omega
          have hp0 : (0 : Int) ≤ p := by omega
          have hp1 : (p : Int) < l := by omega
          go_upto_region 14 with (fail)
          go_cut [10, 11, 12] (fun s10 s11 s12 wx => SnC wr m' g' x' N E s10 s11 s12 wx)
          case first =>
            go_region_held3 (fun w' => w'.cell? ⟨K, 0, none⟩ = some (.slice A m c) ∧ w'.cell? ⟨K, 1, none⟩ = some (.int .i64 x) ∧ w'.cell? ⟨ob, oo + p * 5, none⟩ = some (.int .i64 kd) ∧ w'.cell? ⟨ob, oo + p * 5 + 1, none⟩ = some (.int .i64 sn) ∧ w'.cell? ⟨ob, oo + p * 5 + 2, none⟩ = some (.int .i64 o) ∧ w'.cell? ⟨ob, oo + p * 5 + 3, none⟩ = some (.int .i64 pg) ∧ w'.cell? ⟨ob, oo + p * 5 + 4, none⟩ = some (.string b)) (((try go_split_ands); (repeat' apply And.intro) <;> ((try simp only [World.cell?_drew]); first | (with_reducible assumption) | (simp [go_sem]; done) | ((repeat (first | (refine keepFar ?_ (by first | (dsimp only; omega) | (simp; done) | (simp; omega))) | (refine (Gr.alloc (Gr.refl _) _).keep ?_))); (try simp only [World.cell?_drew]); first | (with_reducible assumption) | (refine hb.keep ?_; (try simp only [World.cell?_drew]); first | (with_reducible assumption) | (simp [go_sem]; done) | ((repeat (refine (Gr.alloc (Gr.refl _) _).keep ?_)); (try simp only [World.cell?_drew]); (with_reducible assumption))) | (simp [*, go_sem]; done)))))
              (first
                | (go_at_call 15; (with_reducible refine (HO9.out _ (by repeat (first | (with_reducible exact Gr.refl _) | (with_reducible assumption) | (with_reducible refine Gr.alloc ?_ _) | (with_reducible refine Gr.drew ?_) | (with_reducible refine Gr.drewN ?_ _) | (with_reducible refine Gr.setCell ?_ (by simp <;> omega) _) | (with_reducible refine Gr.trans ?_ (by with_reducible assumption)) | exact Gr.refl _ | assumption | refine Gr.alloc ?_ _ | refine Gr.drew ?_ | refine Gr.drewN ?_ _ | refine Gr.setCell ?_ (by simp <;> omega) _ | refine Gr.trans ?_ (by assumption)))).mono ?_); rintro e w4 ⟨A2, c2, rfl, hV, hb, hz4⟩; have HV := Lib.hid hV; clear hV; obtain ⟨hc4, hf4⟩ := hb.cells; (try simp at hz4); have hz40 : wr.heap.size < w4.heap.size := (by omega); have hz43 := Nat.lt_of_le_of_lt (Nat.sub_le _ 1) hz4; (try simp only [Nat.add_sub_cancel] at hz43))
                | (go_at_call 33; (with_reducible refine (HAp.out _ _ _ _ _ (HV.out.sv.gr (by repeat (first | (with_reducible exact Gr.refl _) | (with_reducible assumption) | (with_reducible refine Gr.alloc ?_ _) | (with_reducible refine Gr.drew ?_) | (with_reducible refine Gr.drewN ?_ _) | (with_reducible refine Gr.setCell ?_ (by simp <;> omega) _) | (with_reducible refine Gr.trans ?_ (by with_reducible assumption)) | exact Gr.refl _ | assumption | refine Gr.alloc ?_ _ | refine Gr.drew ?_ | refine Gr.drewN ?_ _ | refine Gr.setCell ?_ (by simp <;> omega) _ | refine Gr.trans ?_ (by assumption)))) (Sv.of5k (by first | (simp [go_sem]; done) | exact hb.keep (by simp [go_sem]) | exact (Gr.alloc hb _).keep (by simp [go_sem])) (by first | (simp [go_sem]; done) | exact hb.keep (by simp [go_sem]) | exact (Gr.alloc hb _).keep (by simp [go_sem])) (by first | (simp [go_sem]; done) | exact hb.keep (by simp [go_sem]) | exact (Gr.alloc hb _).keep (by simp [go_sem])) (by first | (simp [go_sem]; done) | exact hb.keep (by simp [go_sem]) | exact (Gr.alloc hb _).keep (by simp [go_sem])) (by first | (simp [go_sem]; done) | exact hb.keep (by simp [go_sem]) | exact (Gr.alloc hb _).keep (by simp [go_sem])))).mono ?_); rintro e w5 ⟨A5, c5, rfl, hV5, hne5, hb5⟩; have HV5 := Lib.hid hV5; have HN5 := Lib.hid hne5; clear hV5 hne5; obtain ⟨hc5, hf5⟩ := hb5.cells; have hz5 := Gr.size hb5; (try simp at hz5); have hz54 : w4.heap.size ≤ w5.heap.size := (by omega); have hz50 : wr.heap.size < w5.heap.size := (by omega); have hz51 := Nat.lt_of_lt_of_le hz43 hz54; have hb := hb.trans (Gr.trans (by repeat (first | (with_reducible exact Gr.refl _) | (with_reducible assumption) | (with_reducible refine Gr.alloc ?_ _) | (with_reducible refine Gr.drew ?_) | (with_reducible refine Gr.drewN ?_ _) | (with_reducible refine Gr.setCell ?_ (by simp <;> omega) _) | (with_reducible refine Gr.trans ?_ (by with_reducible assumption)) | exact Gr.refl _ | assumption | refine Gr.alloc ?_ _ | refine Gr.drew ?_ | refine Gr.drewN ?_ _ | refine Gr.setCell ?_ (by simp <;> omega) _ | refine Gr.trans ?_ (by assumption))) hb5)))
            all_goals
              go_wp2_with fail
              go_meet
              clear HAp HCr HO9 HRS hMM hII HNT HSO HBO HLO HV
            all_goals
              refine ⟨_, A5, c5, rfl, rfl, rfl, ?_, ?_, ?_, ?_, ?_, ?_⟩
              · first | (simp; done) | (simp; omega) | omega
              · first | (simp [go_sem, *]; done) | (have hk := two_setk (x := .slice A5 m' c5) (y := .int .i64 x') (box_keptk (by first | (with_reducible exact hb5) | (with_reducible exact ((Gr.refl _).alloc _).trans hb5) | (with_reducible exact (Gr.refl _).drew.trans hb) | (with_reducible exact ((Gr.refl _).alloc _).drew.trans hb))); exact hk.1)
              · first | (simp [go_sem, *]; done) | (have hk := two_setk (x := .slice A5 m' c5) (y := .int .i64 x') (box_keptk (by first | (with_reducible exact hb5) | (with_reducible exact ((Gr.refl _).alloc _).trans hb5) | (with_reducible exact (Gr.refl _).drew.trans hb) | (with_reducible exact ((Gr.refl _).alloc _).drew.trans hb))); exact hk.2)
              · first | (with_reducible exact HV5.out) | (with_reducible exact HV5.out.gr ((Gr.refl _).alloc _)) | (exact (HV5.out.setFar _ (fun a ha h0 => by have h5 := HN5.out a ha h0; (try simp at h5); dsimp only; omega)).setFar _ (fun a ha h0 => by have h5 := HN5.out a ha h0; (try simp at h5); dsimp only; omega))
              · exact fun y hy h0 => by have h5 := HN5.out y hy h0; (try simp at h5); omega
              · exact (by repeat (first | (with_reducible exact Gr.refl _) | (with_reducible assumption) | (with_reducible refine Gr.alloc ?_ _) | (with_reducible refine Gr.drew ?_) | (with_reducible refine Gr.drewN ?_ _) | (with_reducible refine Gr.setCell ?_ (by simp <;> omega) _) | (with_reducible refine Gr.trans ?_ (by with_reducible assumption)) | exact Gr.refl _ | assumption | refine Gr.alloc ?_ _ | refine Gr.drew ?_ | refine Gr.drewN ?_ _ | refine Gr.setCell ?_ (by simp <;> omega) _ | refine Gr.trans ?_ (by assumption)))
          case rest =>
            obtain ⟨J, A7, c7, rfl, rfl, rfl, hJ, j0, j1, hv7, hn7, hG7⟩ := hcut
            have hM7 := hMM.out.gr hG7
            have HV7 := Lib.hid hv7
            have HN7 := Lib.hid hn7
            have GW := Lib.hid (hG.trans hG7)
            have hkr : wr.heap.size ≤ wc.heap.size := hG7.size
            have e0 := hG7.keep k0
            have e1 := hG7.keep k1
            have e3 := hG7.keep k3
            obtain ⟨q0, q1, q2, q3⟩ := hM7.2.2.2.2.2.2.1
            clear HAp hv7 hn7 hG k0 k1 k2 k3 k4
            rcases HRS.out with hE0 | ⟨rfl, rfl, hI', hcr⟩
            · have hI := hII.out
              have hM := hM7
              have GF := Lib.hid (G1.out.trans GW.out)
              clear hII hMM hM7 HRS HCr HO9 HNT HV7 HN7 e0 e1 e3 q0 q1 q2 q3 j0 j1 hJ GW HSO HBO HLO
              generalize wc = W9 at *
              go_wp2
              have hm0 := hM
              obtain ⟨hO6, hO5, -, -, -, -, ⟨c0, c1, -, -⟩, hsv⟩ := hM
              obtain ⟨A5, d5, rfl, hW5⟩ := wv_of_own hO5
              obtain ⟨hst, -, hgone⟩ := hI
              have hfew := few_right hst
              have hn3 := (few_yes hfew).1
              have hsg3 := hsv.segs
              have HO3 := Lib.hid (fun W (hg : Gr W9 W) => Own_n A m c g x W (hsv.gr hg) (by omega))
              have HR3 := Lib.hid (fun k (hk : k ∈ gone) W A c (hv : Sv W A m c 2 (sg g)) => ReadAt_no A m c g x k 0 0 24 (gone_read hst (hgone k hk).1 (hgone k hk).2.1 (hgone k hk).2.2) (by decide) (by omega) W hv (few_sh hfew))
              have HW5 := Lib.hid hW5
              have hlg : gone.length ≤ 1000 := by omega
              clear hm0 hO6 hO5 hst hgone hfew hn3 hsg3 hsv hW5
              go_wp2
              go_loopw [16] (fun i wz => ∃ r : Nat, r ≤ gone.length ∧ i = .int .i64 r ∧ Hid (Gr W9 wz)) (fun i _ => gone.length - (intOf i).toNat)
              case atStart => exact ⟨0, Nat.zero_le _, rfl, Gr.refl _⟩
              case round =>
                obtain ⟨r, hr, rfl, hG3⟩ := hrel
                have i0 := hG3.out.keep c0
                have i1 := hG3.out.keep c1
                have hzK := World.block_lt_of_cell? _ _ i0
                by_cases hlr : r < gone.length
                · obtain ⟨g5, rfl, -, hg5, hcl, -⟩ := HW5.out.at_ (show 0 < gone.length by omega)
                  have k0 := (hG3.out.keep (p := ⟨g5, r, none⟩) (v := .int .i64 gone[r]) (by rw [hcl r (by omega), List.getElem?_map, List.getElem?_eq_getElem hlr]; rfl))
                  have hmem : gone[r] ∈ gone := List.getElem_mem hlr
                  have HRk := Lib.hid (HR3.out _ hmem)
                  clear HR3 hcl hmem
                  generalize gone[r] = gk at *
                  have hr0 : (0 : Int) ≤ r := by omega
                  have hr1 : (r : Int) < gone.length := by omega
                  go_wp2
                  go_region_held3 (fun w' => w'.cell? ⟨K, 0, none⟩ = some (.slice A m c) ∧ w'.cell? ⟨K, 1, none⟩ = some (.int .i64 x) ∧ w'.cell? ⟨g5, r, none⟩ = some (.int .i64 gk)) (((try go_split_ands); (repeat' apply And.intro) <;> ((try simp only [World.cell?_drew]); first | (with_reducible assumption) | (simp [go_sem]; done) | ((repeat (first | (refine keepFar ?_ (by first | (dsimp only; omega) | (simp; done) | (simp; omega))) | (refine (Gr.alloc (Gr.refl _) _).keep ?_))); (try simp only [World.cell?_drew]); first | (with_reducible assumption) | (refine hb.keep ?_; (try simp only [World.cell?_drew]); first | (with_reducible assumption) | (simp [go_sem]; done) | ((repeat (refine (Gr.alloc (Gr.refl _) _).keep ?_)); (try simp only [World.cell?_drew]); (with_reducible assumption))) | (simp [*, go_sem]; done)))))
                    (first
                      | (go_at_call 15; (with_reducible refine (HO3.out _ (hG3.out.trans (by repeat (first | (with_reducible exact Gr.refl _) | (with_reducible assumption) | (with_reducible refine Gr.alloc ?_ _) | (with_reducible refine Gr.drew ?_) | (with_reducible refine Gr.drewN ?_ _) | (with_reducible refine Gr.setCell ?_ (by simp <;> omega) _) | (with_reducible refine Gr.trans ?_ (by with_reducible assumption)) | exact Gr.refl _ | assumption | refine Gr.alloc ?_ _ | refine Gr.drew ?_ | refine Gr.drewN ?_ _ | refine Gr.setCell ?_ (by simp <;> omega) _ | refine Gr.trans ?_ (by assumption))))).mono ?_); rintro e u6 ⟨B6, e6, rfl, hV6, hb, hzz⟩; have HV6 := Lib.hid hV6; clear hV6 hzz)
                      | (go_at_call 28; (with_reducible refine (HRk.out _ _ _ (HV6.out.sv.gr (by repeat (first | (with_reducible exact Gr.refl _) | (with_reducible assumption) | (with_reducible refine Gr.alloc ?_ _) | (with_reducible refine Gr.drew ?_) | (with_reducible refine Gr.drewN ?_ _) | (with_reducible refine Gr.setCell ?_ (by simp <;> omega) _) | (with_reducible refine Gr.trans ?_ (by with_reducible assumption)) | exact Gr.refl _ | assumption | refine Gr.alloc ?_ _ | refine Gr.drew ?_ | refine Gr.drewN ?_ _ | refine Gr.setCell ?_ (by simp <;> omega) _ | refine Gr.trans ?_ (by assumption))))).mono ?_); rintro e u7 ⟨rfl, hb7⟩; have hb := hb.trans (Gr.trans (by repeat (first | (with_reducible exact Gr.refl _) | (with_reducible assumption) | (with_reducible refine Gr.alloc ?_ _) | (with_reducible refine Gr.drew ?_) | (with_reducible refine Gr.drewN ?_ _) | (with_reducible refine Gr.setCell ?_ (by simp <;> omega) _) | (with_reducible refine Gr.trans ?_ (by with_reducible assumption)) | exact Gr.refl _ | assumption | refine Gr.alloc ?_ _ | refine Gr.drew ?_ | refine Gr.drewN ?_ _ | refine Gr.setCell ?_ (by simp <;> omega) _ | refine Gr.trans ?_ (by assumption))) hb7)))
                  have HB := Lib.hid hb
                  clear hb hb7 HV6
                  go_wp2
                  go_roundw
                  case rel => exact ⟨r + 1, by omega, by go_num, Lib.hid (by exact hG3.out.trans ((Gr.refl _).drew.trans HB.out))⟩
                  case measure => simp [intOf]; omega
                · go_wp2
                  go_ret
                  exact ⟨rfl, GF.out.trans hG3.out⟩
            · have HI' := Lib.hid hI'
              have HFW := Lib.hid (fun W A c (hv : Sv W A m' c 2 (sg g')) => few_is A m' c g' x' true (few_right HI'.out.1) W hv (few_sh (few_right HI'.out.1)))
              have HM7 := Lib.hid hM7
              have HG7 := Lib.hid hG7
              clear hI' hM7 hG7 HRS
              generalize wc = W7 at *
              by_cases hk0 : kd = 0
              · subst hk0
                have HCc : Hid (∀ W A' c', Sv W A' m c' 2 (sg g) → Calls Try.prog 19 #[.agg #[.slice A' m c', .int .i64 x], .int .i64 pg] W (Pd m' x' x W)) := Lib.hid (fun W A' c' hv => by
                  have h := HCr.out W A' c' hv
                  rw [hcr rfl] at h
                  refine h.mono fun e w' ⟨A9, c9, e9, _, g9⟩ => ⟨A9, c9, ?_, g9⟩
                  rw [← HM'.out]; exact e9)
                have hii : SnI x' g' (had ++ [x]) gone := by have h := HI'.out; rw [if_pos rfl, if_neg (by decide)] at h; exact h
                have HII := Lib.hid hii
                have hJ6 : some J ≠ u6.ownBlock := fun e => by have := (World.ownsRow.lt hMM.out.1 J e.symm).2; omega
                have HJ6 := Lib.hid hJ6
                clear hii hcr HCr hJ6
                obtain ⟨A6, d6, rfl, hW6⟩ := wv_of_own hMM.out.1
                have HW6 := Lib.hid hW6
                clear hW6
                go_upto_region 19 with ((go_at_call 13; (with_reducible refine (HFW.out _ _ _ (HV7.out.gr (by repeat (first | (with_reducible exact Gr.refl _) | (with_reducible assumption) | (with_reducible refine Gr.alloc ?_ _) | (with_reducible refine Gr.drew ?_) | (with_reducible refine Gr.drewN ?_ _) | (with_reducible refine Gr.setCell ?_ (by simp <;> omega) _) | (with_reducible refine Gr.trans ?_ (by with_reducible assumption)) | exact Gr.refl _ | assumption | refine Gr.alloc ?_ _ | refine Gr.drew ?_ | refine Gr.drewN ?_ _ | refine Gr.setCell ?_ (by simp <;> omega) _ | refine Gr.trans ?_ (by assumption))))).mono ?_); rintro e w8 ⟨rfl, hb⟩; have y0 := hb.keep j0; have y1 := hb.keep j1; have d0 := hb.keep e0; have d1 := hb.keep e1; have d3 := hb.keep e3; have z0 := hb.keep q0; have z1 := hb.keep q1; have zf0 := (hb.cells.2 _ _ (World.block_lt_of_cell? _ _ q0)).trans q2; have zf1 := (hb.cells.2 _ _ (World.block_lt_of_cell? _ _ q0)).trans q3; have h8 := Lib.hid hb))
                have G8 := Lib.hid (HG7.out.trans h8.out)
                have hz8 : W7.heap.size ≤ w8.heap.size := h8.out.size
                clear hb j0 j1 e0 e1 q0 q1 q2 q3
                go_cut [13, 14, 15] (fun _ s14 s15 wx => SnD w8 x s14 s15 wx)
                case first =>
                  go_region_held3 (fun w' => w'.cell? ⟨K, 0, none⟩ = some (.slice A m c) ∧ w'.cell? ⟨K, 1, none⟩ = some (.int .i64 x) ∧ w'.cell? ⟨ob, oo + p * 5 + 3, none⟩ = some (.int .i64 pg)) (((try go_split_ands); (repeat' apply And.intro) <;> ((try simp only [World.cell?_drew]); first | (with_reducible assumption) | (simp [go_sem]; done) | ((repeat (first | (refine keepFar ?_ (by first | (dsimp only; omega) | (simp; done) | (simp; omega))) | (refine (Gr.alloc (Gr.refl _) _).keep ?_))); (try simp only [World.cell?_drew]); first | (with_reducible assumption) | (refine hb.keep ?_; (try simp only [World.cell?_drew]); first | (with_reducible assumption) | (simp [go_sem]; done) | ((repeat (refine (Gr.alloc (Gr.refl _) _).keep ?_)); (try simp only [World.cell?_drew]); (with_reducible assumption))) | (simp [*, go_sem]; done)))))
                    (first
                      | (go_at_call 15; (with_reducible refine (HO9.out _ (G8.out.trans (by repeat (first | (with_reducible exact Gr.refl _) | (with_reducible assumption) | (with_reducible refine Gr.alloc ?_ _) | (with_reducible refine Gr.drew ?_) | (with_reducible refine Gr.drewN ?_ _) | (with_reducible refine Gr.setCell ?_ (by simp <;> omega) _) | (with_reducible refine Gr.trans ?_ (by with_reducible assumption)) | exact Gr.refl _ | assumption | refine Gr.alloc ?_ _ | refine Gr.drew ?_ | refine Gr.drewN ?_ _ | refine Gr.setCell ?_ (by simp <;> omega) _ | refine Gr.trans ?_ (by assumption))))).mono ?_); rintro e w4 ⟨A2, c2, rfl, hV, hb, hz4⟩; have HV := Lib.hid hV; clear hV; obtain ⟨hc4, hf4⟩ := hb.cells; (try simp at hz4); have hz40 : w8.heap.size < w4.heap.size := (by omega); have hz43 := Nat.lt_of_le_of_lt (Nat.sub_le _ 1) hz4; (try simp only [Nat.add_sub_cancel] at hz43))
                      | (go_at_call 19; (with_reducible refine (HCc.out _ _ _ (HV.out.sv.gr (by repeat (first | (with_reducible exact Gr.refl _) | (with_reducible assumption) | (with_reducible refine Gr.alloc ?_ _) | (with_reducible refine Gr.drew ?_) | (with_reducible refine Gr.drewN ?_ _) | (with_reducible refine Gr.setCell ?_ (by simp <;> omega) _) | (with_reducible refine Gr.trans ?_ (by with_reducible assumption)) | exact Gr.refl _ | assumption | refine Gr.alloc ?_ _ | refine Gr.drew ?_ | refine Gr.drewN ?_ _ | refine Gr.setCell ?_ (by simp <;> omega) _ | refine Gr.trans ?_ (by assumption))))).mono ?_); rintro e w5 ⟨A5, c5, rfl, hb5⟩; have hb := hb.trans (Gr.trans (by repeat (first | (with_reducible exact Gr.refl _) | (with_reducible assumption) | (with_reducible refine Gr.alloc ?_ _) | (with_reducible refine Gr.drew ?_) | (with_reducible refine Gr.drewN ?_ _) | (with_reducible refine Gr.setCell ?_ (by simp <;> omega) _) | (with_reducible refine Gr.trans ?_ (by with_reducible assumption)) | exact Gr.refl _ | assumption | refine Gr.alloc ?_ _ | refine Gr.drew ?_ | refine Gr.drewN ?_ _ | refine Gr.setCell ?_ (by simp <;> omega) _ | refine Gr.trans ?_ (by assumption))) hb5); obtain ⟨hc5, hf5⟩ := hb5.cells; have hz5 := Gr.size hb5; (try simp at hz5); have hz54 : w4.heap.size ≤ w5.heap.size := (by omega); have hz50 : w8.heap.size < w5.heap.size := (by omega); have hz51 := Nat.lt_of_lt_of_le hz43 hz54))
                  all_goals
                    go_wp2_with fail
                    go_meet
                    exact ⟨rfl, rfl, (by repeat (first | (with_reducible exact Gr.refl _) | (with_reducible assumption) | (with_reducible refine Gr.alloc ?_ _) | (with_reducible refine Gr.drew ?_) | (with_reducible refine Gr.drewN ?_ _) | (with_reducible refine Gr.setCell ?_ (by simp <;> omega) _) | (with_reducible refine Gr.trans ?_ (by with_reducible assumption)) | exact Gr.refl _ | assumption | refine Gr.alloc ?_ _ | refine Gr.drew ?_ | refine Gr.drewN ?_ _ | refine Gr.setCell ?_ (by simp <;> omega) _ | refine Gr.trans ?_ (by assumption)))⟩
                case rest =>
                  obtain ⟨rfl, rfl, hG9⟩ := hcut
                  have G9 := Lib.hid (h8.out.trans hG9)
                  have x0 := hG9.keep y0
                  have x1 := hG9.keep y1
                  have x2 := hG9.keep d0
                  have HM9 := Lib.hid (HM7.out.gr (h8.out.trans hG9))
                  have hz9 : W7.heap.size ≤ wc.heap.size := (h8.out.trans hG9).size
                  clear y0 y1 d0 d1 d3 z0 z1 zf0 zf1 HO9 HCc
                  generalize wc = W9 at *
                  go_wp2_with (first
                    | (go_at_call 40; (with_reducible refine (IndexOf_none A6 had.length d6 had x HNT.out _ (HW6.out.sv.gr (HG7.out.trans (G9.out.trans (by repeat (first | (with_reducible exact Gr.refl _) | (with_reducible assumption) | (with_reducible refine Gr.alloc ?_ _) | (with_reducible refine Gr.drew ?_) | (with_reducible refine Gr.drewN ?_ _) | (with_reducible refine Gr.setCell ?_ (by simp <;> omega) _) | (with_reducible refine Gr.trans ?_ (by with_reducible assumption)) | exact Gr.refl _ | assumption | refine Gr.alloc ?_ _ | refine Gr.drew ?_ | refine Gr.drewN ?_ _ | refine Gr.setCell ?_ (by simp <;> omega) _ | refine Gr.trans ?_ (by assumption))))))).mono ?_); rintro e w10 ⟨rfl, hb⟩; have ha := Lib.hid hb; have x0 := hb.keep x0; have x1 := hb.keep x1; have x2 := hb.keep x2; have hob10 := World.block_lt_of_cell? _ _ x2; have hJ10 := World.block_lt_of_cell? _ _ x0)
                    | (at_builtin; go_loud ((refine wp_app_int _ rfl _ _ 69 3 rfl i0 Try.underlying69 hi iz0 iz1 iz2 W1.heap.size (.slice A6 had.length d6) had rfl (HM9.out.1.gr (ha.out.alloc _)) x w10.heap.size 1 rfl (by simp [go_sem]) (by omega) (by have h1 := ha.out.size; have h2 := GW.out.size; simp <;> omega) ?_); intro v' w11 hO11 hB11 hgr11 hat11; have HM11 := Lib.hid (SnM.app6 (HM9.out.gr (ha.out.alloc _)) hgr11 hO11 hat11); have HA11 := Lib.hid hat11; have HG11 := Lib.hid hgr11; have y0 := hgr11.cell (((Gr.refl _).alloc _).keep x0) HJ6.out; have y1 := hgr11.cell (((Gr.refl _).alloc _).keep x1) HJ6.out; obtain ⟨z0, z1, zf0, zf1⟩ := HM11.out.2.2.2.2.2.2.1; have d0 : w11.cell? ⟨ob, oo + p * 5, none⟩ = some (.int .i64 0) := hgr11.cell (((Gr.refl _).alloc _).keep x2) (fun e => by have := (World.ownsRow.lt hMM.out.1 _ e.symm).1; dsimp only at this; omega))))
                  go_roundw
                  case rel =>
                    refine ⟨p + 1, by omega, by go_num, Lib.hid ⟨A7, m', c7, x', g', had ++ [x], gone, HII.out, SnM.store HM11.out (sv_kept (HV7.out.gr (G9.out.trans (ha.out.alloc _))) HG11.out (fun a ha hm e => ?_)) (fun a hA hm => ?_), by rw [List.length_append]; simp; omega, by omega, ((Gr.and_below (GW.out.trans (G9.out.trans (ha.out.alloc _))) hB11 (Nat.le_refl _)).setCell hKB _).setCell hKB _⟩⟩
                    · have h1 := HN7.out a ha hm
                      have := (World.ownsRow.lt hMM.out.1 _ e).2
                      omega
                    · have h1 := HN7.out a hA hm
                      obtain ⟨bq, oq, e2, hb2, -⟩ := HV7.out.at_ hm
                      rw [hA] at e2
                      simp only [Option.some.injEq] at e2
                      subst e2
                      refine ⟨by dsimp only at h1 ⊢; omega, fun h => ?_, fun h => ?_⟩
                      · have := (World.ownsRow.lt hMM.out.2.1 _ h).2; dsimp only at this h1; omega
                      · rcases HA11.out with e | e <;> rw [e] at h
                        · have := (World.ownsRow.lt hMM.out.1 _ h).2; dsimp only at this h1; omega
                        · simp only [Option.some.injEq] at h
                          have := ha.out.size
                          simp at h
                          omega
                  case measure => simp [intOf]; omega
              · by_cases hk3 : kd = 3
                · subst hk3
                  have hii : SnI x' g' had (gone ++ [sn]) := by have h := HI'.out; rw [if_neg (by decide), if_pos rfl] at h; exact h
                  have HII := Lib.hid hii
                  have hJ5 : some J ≠ u5.ownBlock := fun e => by have := (World.ownsRow.lt hMM.out.2.1 J e.symm).2; omega
                  have HJ5 := Lib.hid hJ5
                  clear hii hcr HCr hJ5
                  go_wp2_with (first
                    | ((go_at_call 13; (with_reducible refine (HFW.out _ _ _ (HV7.out.gr (by repeat (first | (with_reducible exact Gr.refl _) | (with_reducible assumption) | (with_reducible refine Gr.alloc ?_ _) | (with_reducible refine Gr.drew ?_) | (with_reducible refine Gr.drewN ?_ _) | (with_reducible refine Gr.setCell ?_ (by simp <;> omega) _) | (with_reducible refine Gr.trans ?_ (by with_reducible assumption)) | exact Gr.refl _ | assumption | refine Gr.alloc ?_ _ | refine Gr.drew ?_ | refine Gr.drewN ?_ _ | refine Gr.setCell ?_ (by simp <;> omega) _ | refine Gr.trans ?_ (by assumption))))).mono ?_); rintro e w8 ⟨rfl, hb⟩; have y0 := hb.keep j0; have y1 := hb.keep j1; have d0 := hb.keep e0; have d1 := hb.keep e1; have d3 := hb.keep e3; have z0 := hb.keep q0; have z1 := hb.keep q1; have zf0 := (hb.cells.2 _ _ (World.block_lt_of_cell? _ _ q0)).trans q2; have zf1 := (hb.cells.2 _ _ (World.block_lt_of_cell? _ _ q0)).trans q3; have h8 := Lib.hid hb); have hJ8 := World.block_lt_of_cell? _ _ y0)
                    | (at_builtin; go_loud ((refine wp_app_int _ rfl _ _ 69 3 rfl i0 Try.underlying69 hi iz0 iz1 iz2 W1.heap.size u5 gone rfl (HM7.out.2.1.gr (h8.out.alloc _)) sn w8.heap.size 1 rfl (by simp [go_sem]) (by omega) (by have h1 := h8.out.size; have h2 := GW.out.size; simp <;> omega) ?_); intro v' w11 hO11 hB11 hgr11 hat11; have HM11 := Lib.hid (SnM.app5 (HM7.out.gr (h8.out.alloc _)) hgr11 hO11 hat11); have HA11 := Lib.hid hat11; have HG11 := Lib.hid hgr11; have y0 := hgr11.cell (((Gr.refl _).alloc _).keep y0) HJ5.out; have y1 := hgr11.cell (((Gr.refl _).alloc _).keep y1) HJ5.out; obtain ⟨z0, z1, zf0, zf1⟩ := HM11.out.2.2.2.2.2.2.1)))
                  go_roundw
                  case rel =>
                    refine ⟨p + 1, by omega, by go_num, Lib.hid ⟨A7, m', c7, x', g', had, gone ++ [sn], HII.out, SnM.store HM11.out (sv_kept (HV7.out.gr (h8.out.alloc _)) HG11.out (fun a ha hm e => ?_)) (fun a ha hm => ?_), by omega, by rw [List.length_append]; simp; omega, ((Gr.and_below (GW.out.trans (h8.out.alloc _)) hB11 (Nat.le_refl _)).setCell hKB _).setCell hKB _⟩⟩
                    · have h1 := HN7.out a ha hm
                      have := (World.ownsRow.lt hMM.out.2.1 _ e).2
                      omega
                    · have h1 := HN7.out a ha hm
                      obtain ⟨bq, oq, e2, hb2, -⟩ := HV7.out.at_ hm
                      rw [ha] at e2
                      simp only [Option.some.injEq] at e2
                      subst e2
                      refine ⟨by dsimp only at h1 ⊢; omega, fun h => ?_, fun h => ?_⟩
                      · rcases HA11.out with e | e <;> rw [e] at h
                        · have := (World.ownsRow.lt hMM.out.2.1 _ h).2; dsimp only at this h1; omega
                        · simp only [Option.some.injEq] at h
                          have := h8.out.size
                          simp at h
                          omega
                      · have := (World.ownsRow.lt hMM.out.1 _ h).2; dsimp only at this h1; omega
                  case measure => simp [intOf]; omega
                · have hk0' : (kd == 0) = false := by simp [hk0]
                  have hk3' : (kd == 3) = false := by simp [hk3]
                  have hii : SnI x' g' had gone := by have h := HI'.out; rw [if_neg hk0, if_neg hk3] at h; exact h
                  have HII := Lib.hid hii
                  clear hii hcr
                  go_wp2_with ((go_at_call 13; (with_reducible refine (HFW.out _ _ _ (HV7.out.gr (by repeat (first | (with_reducible exact Gr.refl _) | (with_reducible assumption) | (with_reducible refine Gr.alloc ?_ _) | (with_reducible refine Gr.drew ?_) | (with_reducible refine Gr.drewN ?_ _) | (with_reducible refine Gr.setCell ?_ (by simp <;> omega) _) | (with_reducible refine Gr.trans ?_ (by with_reducible assumption)) | exact Gr.refl _ | assumption | refine Gr.alloc ?_ _ | refine Gr.drew ?_ | refine Gr.drewN ?_ _ | refine Gr.setCell ?_ (by simp <;> omega) _ | refine Gr.trans ?_ (by assumption))))).mono ?_); rintro e w8 ⟨rfl, hb⟩; have y0 := hb.keep j0; have y1 := hb.keep j1; have d0 := hb.keep e0; have d1 := hb.keep e1; have d3 := hb.keep e3; have z0 := hb.keep q0; have z1 := hb.keep q1; have zf0 := (hb.cells.2 _ _ (World.block_lt_of_cell? _ _ q0)).trans q2; have zf1 := (hb.cells.2 _ _ (World.block_lt_of_cell? _ _ q0)).trans q3; have h8 := Lib.hid hb))
                  go_roundw
                  case rel =>
                    refine ⟨p + 1, by omega, by go_num, Lib.hid ⟨A7, m', c7, x', g', had, gone, HII.out, SnM.store (HM7.out.gr h8.out) (HV7.out.gr h8.out) (fun a ha hm => ?_), by omega, by omega, ((GW.out.trans h8.out).setCell hKB _).setCell hKB _⟩⟩
                    have h1 := HN7.out a ha hm
                    have h2 := HM7.out
                    refine ⟨by omega, fun h => ?_, fun h => ?_⟩
                    · have := (World.ownsRow.lt hMM.out.2.1 _ h).2; omega
                    · have := (World.ownsRow.lt hMM.out.1 _ h).2; omega
                  case measure => simp [intOf]; omega
        · obtain rfl : p = l := by omega
          have hm0 := hM
          obtain ⟨hO6, hO5, -, -, -, -, ⟨c0, c1, -, -⟩, hsv⟩ := hM
          obtain ⟨A5, d5, rfl, hW5⟩ := wv_of_own hO5
          obtain ⟨hst, -, hgone⟩ := hI
          have hfew := few_right hst
          have hn3 := (few_yes hfew).1
          have hsg3 := hsv.segs
          have HO3 := Lib.hid (fun W (hg : Gr wr W) => Own_n A m c g x W (hsv.gr hg) (by omega))
          have HR3 := Lib.hid (fun k (hk : k ∈ gone) W A c (hv : Sv W A m c 2 (sg g)) => ReadAt_no A m c g x k 0 0 24 (gone_read hst (hgone k hk).1 (hgone k hk).2.1 (hgone k hk).2.2) (by decide) (by omega) W hv (few_sh hfew))
          have HW5 := Lib.hid hW5
          have hlg : gone.length ≤ 1000 := by omega
          clear hm0 hO6 hO5 hst hgone hfew hn3 hsg3 hsv hW5
          go_wp2
          go_loopw [16] (fun i wz => ∃ r : Nat, r ≤ gone.length ∧ i = .int .i64 r ∧ Hid (Gr wr wz)) (fun i _ => gone.length - (intOf i).toNat)
          case atStart => exact ⟨0, Nat.zero_le _, rfl, Gr.refl _⟩
          case round =>
            obtain ⟨r, hr, rfl, hG3⟩ := hrel
            have i0 := hG3.out.keep c0
            have i1 := hG3.out.keep c1
            have hzK := World.block_lt_of_cell? _ _ i0
            by_cases hlr : r < gone.length
            · obtain ⟨g5, rfl, -, hg5, hcl, -⟩ := HW5.out.at_ (show 0 < gone.length by omega)
              have k0 := (hG3.out.keep (p := ⟨g5, r, none⟩) (v := .int .i64 gone[r]) (by rw [hcl r (by omega), List.getElem?_map, List.getElem?_eq_getElem hlr]; rfl))
              have hmem : gone[r] ∈ gone := List.getElem_mem hlr
              have HRk := Lib.hid (HR3.out _ hmem)
              clear HR3 hcl hmem
              generalize gone[r] = gk at *
              have hr0 : (0 : Int) ≤ r := by omega
              have hr1 : (r : Int) < gone.length := by omega
              go_wp2
              go_region_held3 (fun w' => w'.cell? ⟨K, 0, none⟩ = some (.slice A m c) ∧ w'.cell? ⟨K, 1, none⟩ = some (.int .i64 x) ∧ w'.cell? ⟨g5, r, none⟩ = some (.int .i64 gk)) (((try go_split_ands); (repeat' apply And.intro) <;> ((try simp only [World.cell?_drew]); first | (with_reducible assumption) | (simp [go_sem]; done) | ((repeat (first | (refine keepFar ?_ (by first | (dsimp only; omega) | (simp; done) | (simp; omega))) | (refine (Gr.alloc (Gr.refl _) _).keep ?_))); (try simp only [World.cell?_drew]); first | (with_reducible assumption) | (refine hb.keep ?_; (try simp only [World.cell?_drew]); first | (with_reducible assumption) | (simp [go_sem]; done) | ((repeat (refine (Gr.alloc (Gr.refl _) _).keep ?_)); (try simp only [World.cell?_drew]); (with_reducible assumption))) | (simp [*, go_sem]; done)))))
                (first
                  | (go_at_call 15; (with_reducible refine (HO3.out _ (hG3.out.trans (by repeat (first | (with_reducible exact Gr.refl _) | (with_reducible assumption) | (with_reducible refine Gr.alloc ?_ _) | (with_reducible refine Gr.drew ?_) | (with_reducible refine Gr.drewN ?_ _) | (with_reducible refine Gr.setCell ?_ (by simp <;> omega) _) | (with_reducible refine Gr.trans ?_ (by with_reducible assumption)) | exact Gr.refl _ | assumption | refine Gr.alloc ?_ _ | refine Gr.drew ?_ | refine Gr.drewN ?_ _ | refine Gr.setCell ?_ (by simp <;> omega) _ | refine Gr.trans ?_ (by assumption))))).mono ?_); rintro e u6 ⟨B6, e6, rfl, hV6, hb, hzz⟩; have HV6 := Lib.hid hV6; clear hV6 hzz)
                  | (go_at_call 28; (with_reducible refine (HRk.out _ _ _ (HV6.out.sv.gr (by repeat (first | (with_reducible exact Gr.refl _) | (with_reducible assumption) | (with_reducible refine Gr.alloc ?_ _) | (with_reducible refine Gr.drew ?_) | (with_reducible refine Gr.drewN ?_ _) | (with_reducible refine Gr.setCell ?_ (by simp <;> omega) _) | (with_reducible refine Gr.trans ?_ (by with_reducible assumption)) | exact Gr.refl _ | assumption | refine Gr.alloc ?_ _ | refine Gr.drew ?_ | refine Gr.drewN ?_ _ | refine Gr.setCell ?_ (by simp <;> omega) _ | refine Gr.trans ?_ (by assumption))))).mono ?_); rintro e u7 ⟨rfl, hb7⟩; have hb := hb.trans (Gr.trans (by repeat (first | (with_reducible exact Gr.refl _) | (with_reducible assumption) | (with_reducible refine Gr.alloc ?_ _) | (with_reducible refine Gr.drew ?_) | (with_reducible refine Gr.drewN ?_ _) | (with_reducible refine Gr.setCell ?_ (by simp <;> omega) _) | (with_reducible refine Gr.trans ?_ (by with_reducible assumption)) | exact Gr.refl _ | assumption | refine Gr.alloc ?_ _ | refine Gr.drew ?_ | refine Gr.drewN ?_ _ | refine Gr.setCell ?_ (by simp <;> omega) _ | refine Gr.trans ?_ (by assumption))) hb7)))
              have HB := Lib.hid hb
              clear hb hb7 HV6
              go_wp2
              go_roundw
              case rel => exact ⟨r + 1, by omega, by go_num, Lib.hid (by exact hG3.out.trans ((Gr.refl _).drew.trans HB.out))⟩
              case measure => simp [intOf]; omega
            · go_wp2
              go_ret
              exact ⟨rfl, GF.out.trans hG3.out⟩
end Go.Proofs.Ytljminmfldejnaa
