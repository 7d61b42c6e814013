/- Lists of operations: what they give; the program's Applied. -/
import Derived.Test.YtljminmfldejnaaHx
import Derived.Test.YtljminmfldejnaaOp
namespace Go.Proofs.Ytljminmfldejnaa
set_option linter.unusedSimpArgs false
set_option linter.unusedVariables false
open Go.RowKit

section
variable (A : Option Addr) (n c : Nat) (gs : List (Int × ByteArray)) (nx kd sn o pg : Int) (b : ByteArray) (hd : b.size ≤ maxLen) (w : World) (hs : Sv w A n c 2 (sg gs)) (hb : Sh gs)
include hd hs hb
theorem op_both : Calls Try.prog 59 #[.agg #[.slice A n c, .int .i64 nx], .agg #[.int .i64 kd, .int .i64 sn, .int .i64 o, .int .i64 pg, .string b]] w (PrV (opR nx gs kd sn o pg b).1 (opR nx gs kd sn o pg b).1.length (opR nx gs kd sn o pg b).2.1 (opR nx gs kd sn o pg b).2.2.2 w) ∧
    Calls Try.prog 60 #[.agg #[.slice A n c, .int .i64 nx], .agg #[.int .i64 kd, .int .i64 sn, .int .i64 o, .int .i64 pg, .string b]] w (Rf (opR nx gs kd sn o pg b) w) := by
  by_cases hE : opE kd sn o pg b = 0
  rotate_left
  · rw [opR, if_pos hE]
    refine ⟨?_, done_bad A n c nx kd sn o pg _ b w rfl hE⟩
    rcases Bool.eq_false_or_eq_true (wiB kd 0 4) with hk | hk
    · by_cases h2 : sn ≠ uSn kd sn ∨ o ≠ uOf kd o ∨ pg ≠ uPg kd pg ∨ b ≠ uBy kd b
      · rw [opE_bad hk h2]; exact app_form A n c nx kd sn o pg b w hk h2
      · simp only [not_or, ne_eq, Classical.not_not] at h2
        exact absurd (opE_good hk h2.1 h2.2.1 h2.2.2.1 h2.2.2.2) hE
    · rw [opE_kind hk]; exact app_kind A n c nx kd sn o pg b w hk
  obtain ⟨hk, h1, h2, h3, h4⟩ := opE_zero hE
  rw [opR, if_neg (by simp [hE])]
  rcases (show kd = 0 ∨ kd = 1 ∨ kd = 2 ∨ kd = 3 ∨ kd = 4 by omega) with rfl | rfl | rfl | rfl | rfl
  · simp [uSn, uOf, uBy] at h1 h2 h4
    subst h1 h2 h4
    rw [if_pos rfl]
    exact ⟨app_cr A n c nx 0 0 pg ⟨#[]⟩ _ _ _ _ _ w hE fun W hg => (cr_both A n c gs nx W (hs.gr hg) hb pg).1, done_cr A n c nx 0 0 pg ⟨#[]⟩ _ _ _ _ _ w hE fun W hg => (cr_both A n c gs nx W (hs.gr hg) hb pg).2⟩
  · simp [uOf, uBy] at h2 h4
    subst h2 h4
    rw [if_neg (by decide), if_pos rfl]
    exact ⟨app_ex A n c nx sn 0 pg ⟨#[]⟩ _ _ _ (exR nx gs sn pg).2.2.1 _ w hE fun W hg => (ex_both A n c gs nx W (hs.gr hg) hb sn pg).1, done_ex A n c nx sn 0 pg ⟨#[]⟩ _ _ _ _ _ w hE fun W hg => (ex_both A n c gs nx W (hs.gr hg) hb sn pg).2⟩
  · simp [uOf, uBy] at h2 h4
    subst h2 h4
    rw [if_neg (by decide), if_neg (by decide), if_pos rfl]
    exact ⟨app_tr A n c nx sn 0 pg ⟨#[]⟩ _ _ _ (trR nx gs sn pg).2.2.1 _ w hE fun W hg => (tr_both A n c gs nx W (hs.gr hg) hb sn pg).1, done_tr A n c nx sn 0 pg ⟨#[]⟩ _ _ _ _ _ w hE fun W hg => (tr_both A n c gs nx W (hs.gr hg) hb sn pg).2⟩
  · simp [uOf, uPg, uBy] at h2 h3 h4
    subst h2 h3 h4
    rw [if_neg (by decide), if_neg (by decide), if_neg (by decide), if_pos rfl]
    exact ⟨app_de A n c nx sn 0 0 ⟨#[]⟩ _ _ _ (deR nx gs sn).2.2.1 _ w hE fun W hg => (de_both A n c gs nx W (hs.gr hg) hb sn).1, done_de A n c nx sn 0 0 ⟨#[]⟩ _ _ _ _ _ w hE fun W hg => (de_both A n c gs nx W (hs.gr hg) hb sn).2⟩
  · simp [uPg] at h3
    subst h3
    rw [if_neg (by decide), if_neg (by decide), if_neg (by decide), if_neg (by decide)]
    exact ⟨app_wr A n c nx sn o 0 b _ _ _ (wrR nx gs sn o b).2.2.1 _ w hE fun W hg => (wr_both A n c gs nx W (hs.gr hg) hb sn o b hd).1, done_wr A n c nx sn o 0 b _ _ _ _ _ w hE fun W hg => (wr_both A n c gs nx W (hs.gr hg) hb sn o b hd).2⟩
end

theorem byG_app {gs : List (Int × ByteArray)} {x : Int × ByteArray} (j : Nat) : byG (gs ++ [x]) j = if j < gs.length then byG gs j else if j = gs.length then x.2 else ⟨#[]⟩ := by
  unfold byG
  rw [List.getD_eq_getElem?_getD, List.getD_eq_getElem?_getD]
  by_cases h : j < gs.length
  · rw [if_pos h, List.getElem?_append_left h]
  · rw [if_neg h, List.getElem?_append_right (by omega)]
    by_cases h2 : j = gs.length
    · subst h2; simp
    · rw [if_neg h2, List.getElem?_eq_none (by simp; omega)]; rfl
theorem cutG_at {gs : List (Int × ByteArray)} {i : Nat} (hi : i < gs.length) (j : Nat) : (cutG gs i).getD j (0, ⟨#[]⟩) = if j < i then gs.getD j (0, ⟨#[]⟩) else gs.getD (j + 1) (0, ⟨#[]⟩) := by
  unfold cutG
  rw [List.getD_eq_getElem?_getD, List.getD_eq_getElem?_getD, List.getD_eq_getElem?_getD]
  by_cases h : j < i
  · rw [if_pos h, List.getElem?_append_left (by rw [List.length_take]; omega), List.getElem?_take_of_lt h]
  · rw [if_neg h, List.getElem?_append_right (by rw [List.length_take]; omega), List.getElem?_drop, List.length_take]
    congr 2
    omega
theorem sh_set {gs : List (Int × ByteArray)} (hb : Sh gs) {i : Nat} (hi : i < gs.length) {x : ByteArray} (hx : x.size ≤ maxLen) : Sh (setG gs i x) := fun j hj => by
  rw [setG_len] at hj
  rw [setG_by hi]
  split
  · exact hx
  · exact hb j hj
/-- A result without an error is a store like those that come in. -/
theorem opR_ok {nx kd sn o pg : Int} {gs : List (Int × ByteArray)} {b : ByteArray} (hb : Sh gs) (h : (opR nx gs kd sn o pg b).2.2.2 = 0) : Sh (opR nx gs kd sn o pg b).1 ∧ (opR nx gs kd sn o pg b).1.length ≤ 11 := by
  unfold opR at h ⊢
  by_cases hE : opE kd sn o pg b = 0
  rotate_left
  · rw [if_pos hE] at h; exact absurd h hE
  rw [if_neg (by simp [hE])] at h ⊢
  have hsz : ∀ {k : Int}, ixE nx gs k = 0 → (byG gs (fI gs k)).size ≤ 287 ∧ fI gs k < gs.length ∧ gs.length ≤ 10 := fun h => by
    obtain ⟨e2, e3, e4, e5, e6⟩ := seg_right h
    exact ⟨by omega, e2, e3⟩
  by_cases h0 : kd = 0
  · rw [if_pos h0] at h ⊢
    unfold crR at h ⊢
    by_cases h1 : stE nx gs = 0
    rotate_left
    · rw [if_pos h1] at h; exact absurd h h1
    rw [if_neg (by simp [h1])] at h ⊢
    rcases Bool.eq_false_or_eq_true (wiB pg 1 8) with hp | hp
    rotate_left
    · rw [if_pos hp] at h; exact absurd h (by decide)
    rw [if_neg (by simp [hp])] at h ⊢
    by_cases h2 : gs.length = 10 ∨ 1000 < nx
    · rw [if_pos h2] at h; exact absurd h (by decide)
    rw [if_neg h2]
    have hl := (st_right h1).1
    have hw := wiB_iff.1 hp
    refine ⟨fun j hj => ?_, by simp; omega⟩
    show (byG (gs ++ [(nx, zP pg.toNat)]) j).size ≤ maxLen
    rw [byG_app]
    have hz := zP_size pg.toNat
    split
    · rename_i hj2; exact hb j hj2
    · split
      · show (zP pg.toNat).size ≤ maxLen
        unfold maxLen; omega
      · show (0 : Nat) ≤ maxLen
        unfold maxLen; omega
  rw [if_neg h0] at h ⊢
  by_cases h1 : kd = 1
  · rw [if_pos h1] at h ⊢
    unfold exR at h ⊢
    by_cases h2 : ixE nx gs sn = 0
    rotate_left
    · rw [if_pos h2] at h; exact absurd h h2
    rw [if_neg (by simp [h2])] at h ⊢
    rcases Bool.eq_false_or_eq_true (wiB pg 1 8) with hp | hp
    rotate_left
    · rw [if_pos hp] at h; exact absurd h (by decide)
    rw [if_neg (by simp [hp])] at h ⊢
    by_cases h3 : 8 < pgs (byG gs (fI gs sn)) + pg
    · rw [if_pos h3] at h; exact absurd h (by decide)
    rw [if_neg h3]
    obtain ⟨e1, e2, e3⟩ := hsz h2
    have hw := wiB_iff.1 hp
    exact ⟨sh_set hb e2 (by rw [ByteArray.size_append, zP_size]; unfold maxLen; omega), by rw [show (setG gs (fI gs sn) (byG gs (fI gs sn) ++ zP pg.toNat), nx, (0 : Int), (0 : Int)).1.length = gs.length from setG_len _ _ _]; omega⟩
  rw [if_neg h1] at h ⊢
  by_cases h1 : kd = 2
  · rw [if_pos h1] at h ⊢
    unfold trR at h ⊢
    by_cases h2 : ixE nx gs sn = 0
    rotate_left
    · rw [if_pos h2] at h; exact absurd h h2
    rw [if_neg (by simp [h2])] at h ⊢
    rcases Bool.eq_false_or_eq_true (wiB pg 1 (pgs (byG gs (fI gs sn)))) with hp | hp
    rotate_left
    · rw [if_pos hp] at h; exact absurd h (by decide)
    rw [if_neg (by simp [hp])]
    obtain ⟨e1, e2, e3⟩ := hsz h2
    exact ⟨sh_set hb e2 (by rw [ByteArray.size_extract]; unfold maxLen; omega), by rw [show (setG gs (fI gs sn) ((byG gs (fI gs sn)).extract 0 (32 * pg.toNat)), nx, (0 : Int), (0 : Int)).1.length = gs.length from setG_len _ _ _]; omega⟩
  rw [if_neg h1] at h ⊢
  by_cases h1 : kd = 3
  · rw [if_pos h1] at h ⊢
    unfold deR at h ⊢
    by_cases h2 : ixE nx gs sn = 0
    rotate_left
    · rw [if_pos h2] at h; exact absurd h h2
    rw [if_neg (by simp [h2])]
    obtain ⟨e1, e2, e3⟩ := hsz h2
    have hlen := cutG_len e2
    refine ⟨fun j hj => ?_, by show (cutG gs (fI gs sn)).length ≤ 11; omega⟩
    have hj' : j < (cutG gs (fI gs sn)).length := hj
    show (byG (cutG gs (fI gs sn)) j).size ≤ maxLen
    unfold byG
    rw [cutG_at e2]
    split
    · exact hb j (by omega)
    · exact hb (j + 1) (by omega)
  rw [if_neg h1] at h ⊢
  unfold wrR at h ⊢
  by_cases h2 : iwE nx gs sn o b.size = 0
  rotate_left
  · rw [if_pos h2] at h; exact absurd h h2
  rw [if_neg (by simp [h2])]
  obtain ⟨e0, e4⟩ := iwE_zero h2
  obtain ⟨e1, e2, e3⟩ := hsz e0
  have hr := rgB_iff.1 e4
  obtain ⟨i, rfl⟩ := Int.eq_ofNat_of_zero_le hr.1
  rw [Int.toNat_natCast]
  exact ⟨sh_set hb e2 (by rw [pS_size (by omega)]; unfold maxLen; omega), by rw [show (setG gs (fI gs sn) (pS (byG gs (fI gs sn)) i b), nx, (0 : Int), (0 : Int)).1.length = gs.length from setG_len _ _ _]; omega⟩

/-- One operation of a list. -/
def opX (nx : Int) (gs : List (Int × ByteArray)) (x : Int × Int × Int × Int × ByteArray) : List (Int × ByteArray) × Int × Int × Int := opR nx gs x.1 x.2.1 x.2.2.1 x.2.2.2.1 x.2.2.2.2
/-- What a list of operations gives from the one with a number on. -/
def apF : List (Int × Int × Int × Int × ByteArray) → Int → List (Int × ByteArray) → Nat → List (Int × ByteArray) × Int × Int × Int
  | [], nx, gs, i => (gs, nx, i, 0)
  | x :: r, nx, gs, i => if (opX nx gs x).2.2.2 ≠ 0 then ([], 0, i, (opX nx gs x).2.2.2) else apF r (opX nx gs x).2.1 (opX nx gs x).1 (i + 1)
def alR (nx : Int) (gs : List (Int × ByteArray)) (l : List (Int × Int × Int × Int × ByteArray)) : List (Int × ByteArray) × Int × Int × Int :=
  if stE nx gs ≠ 0 then bad (stE nx gs) else if 40 < l.length then bad 2 else apF l nx gs 0
theorem drop_op {l : List (Int × Int × Int × Int × ByteArray)} {q : Nat} (h : q < l.length) : l.drop q = opAt l q :: l.drop (q + 1) := by
  rw [List.drop_eq_getElem_cons h]
  congr 1
  unfold opAt
  rw [List.getD_eq_getElem?_getD, List.getElem?_eq_getElem h]
  rfl
theorem apF_bad {l : List (Int × Int × Int × Int × ByteArray)} {q i : Nat} {nx : Int} {gs : List (Int × ByteArray)} (h : q < l.length) (hE : (opX nx gs (opAt l q)).2.2.2 ≠ 0) : apF (l.drop q) nx gs i = ([], 0, (i : Int), (opX nx gs (opAt l q)).2.2.2) := by
  rw [drop_op h, apF, if_pos hE]
theorem apF_ok {l : List (Int × Int × Int × Int × ByteArray)} {q i : Nat} {nx : Int} {gs : List (Int × ByteArray)} (h : q < l.length) (hE : (opX nx gs (opAt l q)).2.2.2 = 0) : apF (l.drop q) nx gs i = apF (l.drop (q + 1)) (opX nx gs (opAt l q)).2.1 (opX nx gs (opAt l q)).1 (i + 1) := by
  rw [drop_op h, apF, if_neg (by simp [hE])]
theorem apF_end {l : List (Int × Int × Int × Int × ByteArray)} {q i : Nat} {nx : Int} {gs : List (Int × ByteArray)} (h : l.length ≤ q) : apF (l.drop q) nx gs i = (gs, nx, (i : Int), 0) := by
  rw [List.drop_eq_nil_of_le h, apF]
/-- A store in a variable with the number g. -/
def VbS (wx : World) (g B m : Nat) (x : Int) (gs : List (Int × ByteArray)) : Prop :=
  ∃ A c, g < wx.heap.size ∧ wx.cell? ⟨g, 0, none⟩ = some (.slice A m c) ∧ wx.cell? ⟨g, 1, none⟩ = some (.int .i64 x) ∧ wx.frozen? ⟨g, 0, none⟩ = false ∧ wx.frozen? ⟨g, 1, none⟩ = false ∧ Sv wx A m c 2 (sg gs) ∧ (∀ a, A = some a → 0 < m → B ≤ a.block ∧ a.block ≠ g)
/-- A result of Applied. -/
def PrA (r : List (Int × ByteArray) × Int × Int × Int) (w : World) (e : Ending) (w' : World) : Prop :=
  ∃ A c, e = .returned (.tuple #[.agg #[.slice A r.1.length c, .int .i64 r.2.1], .int .i64 r.2.2.1, .int .i64 r.2.2.2]) ∧ Sv w' A r.1.length c 2 (sg r.1) ∧ (∀ a, A = some a → 0 < r.1.length → w.heap.size ≤ a.block) ∧ Gr w w'
end Go.Proofs.Ytljminmfldejnaa
