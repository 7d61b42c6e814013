/- What the operations give: one result for both sides. -/
import Derived.Test.YtljminmfldejnaaHv
namespace Go.Proofs.Ytljminmfldejnaa
set_option linter.unusedSimpArgs false
set_option linter.unusedVariables false
open Go.RowKit

/-- A store's segments, its next number, a number, an error. -/
def bad (E : Int) : List (Int × ByteArray) × Int × Int × Int := ([], 0, 0, E)
def crR (nx : Int) (gs : List (Int × ByteArray)) (p : Int) : List (Int × ByteArray) × Int × Int × Int :=
  if stE nx gs ≠ 0 then bad (stE nx gs) else if wiB p 1 8 = false then bad 3 else if gs.length = 10 ∨ 1000 < nx then bad 30 else (gs ++ [(nx, zP p.toNat)], nx + 1, nx, 0)
def exR (nx : Int) (gs : List (Int × ByteArray)) (k p : Int) : List (Int × ByteArray) × Int × Int × Int :=
  if ixE nx gs k ≠ 0 then bad (ixE nx gs k) else if wiB p 1 8 = false then bad 3 else if 8 < pgs (byG gs (fI gs k)) + p then bad 30 else (setG gs (fI gs k) (byG gs (fI gs k) ++ zP p.toNat), nx, 0, 0)
def trR (nx : Int) (gs : List (Int × ByteArray)) (k p : Int) : List (Int × ByteArray) × Int × Int × Int :=
  if ixE nx gs k ≠ 0 then bad (ixE nx gs k) else if wiB p 1 (pgs (byG gs (fI gs k))) = false then bad 3 else (setG gs (fI gs k) ((byG gs (fI gs k)).extract 0 (32 * p.toNat)), nx, 0, 0)
def deR (nx : Int) (gs : List (Int × ByteArray)) (k : Int) : List (Int × ByteArray) × Int × Int × Int :=
  if ixE nx gs k ≠ 0 then bad (ixE nx gs k) else (cutG gs (fI gs k), nx, 0, 0)
def wrR (nx : Int) (gs : List (Int × ByteArray)) (k a : Int) (d : ByteArray) : List (Int × ByteArray) × Int × Int × Int :=
  if iwE nx gs k a d.size ≠ 0 then bad (iwE nx gs k a d.size) else (setG gs (fI gs k) (pS (byG gs (fI gs k)) a.toNat d), nx, 0, 0)

/-- What the program's functions return, by a result: the store alone, and with the number. -/
def Pr2 (r : List (Int × ByteArray) × Int × Int × Int) (w : World) (e : Ending) (w' : World) : Prop :=
  ∃ A c, e = .returned (.tuple #[.agg #[.slice A r.1.length c, .int .i64 r.2.1], .int .i64 r.2.2.2]) ∧ Wv w' w.heap.size A r.1.length c 2 (sg r.1) ∧ Gr w w'
def Pr3 (r : List (Int × ByteArray) × Int × Int × Int) (w : World) (e : Ending) (w' : World) : Prop :=
  ∃ A c, e = .returned (.tuple #[.agg #[.slice A r.1.length c, .int .i64 r.2.1], .int .i64 r.2.2.1, .int .i64 r.2.2.2]) ∧ Wv w' w.heap.size A r.1.length c 2 (sg r.1) ∧ Gr w w'
/-- What the reference's functions return. -/
def Rf (r : List (Int × ByteArray) × Int × Int × Int) (w : World) (e : Ending) (w' : World) : Prop := AnR r.1 r.1.length r.2.1 r.2.2.1 ⟨#[]⟩ r.2.2.2 w e w'
theorem Pr2.of {g : List (Int × ByteArray)} {x E N : Int} {w w' : World} {e : Ending} (h : St2R g x E w e w') : Pr2 (g, x, N, E) w e w' := by
  obtain ⟨A, c, h1, h2, h3⟩ := h
  exact ⟨A, c, h1, h2, h3⟩
theorem Pr3.of {g : List (Int × ByteArray)} {x E N : Int} {w w' : World} {e : Ending} (h : St3R g x N E w e w') : Pr3 (g, x, N, E) w e w' := by
  obtain ⟨A, c, h1, h2, h3⟩ := h
  exact ⟨A, c, h1, h2, h3⟩

section
variable (A : Option Addr) (n c : Nat) (gs : List (Int × ByteArray)) (nx : Int) (w : World) (hs : Sv w A n c 2 (sg gs)) (hb : Sh gs)
include hs hb
theorem cr_both (p : Int) : Calls Try.prog 19 #[.agg #[.slice A n c, .int .i64 nx], .int .i64 p] w (Pr3 (crR nx gs p) w) ∧
    Calls Try.prog 21 #[.agg #[.slice A n c, .int .i64 nx], .int .i64 p] w (Rf (crR nx gs p) w) := by
  by_cases hE : stE nx gs = 0
  rotate_left
  · rw [crR, if_pos hE]
    exact ⟨(Created_store A n c gs nx p _ rfl hE w hs hb).mono fun e w' h => Pr3.of h, refCreated_store A n c gs nx p _ rfl hE w hs hb⟩
  rw [crR, if_neg (by simp [hE])]
  rcases Bool.eq_false_or_eq_true (wiB p 1 8) with hp | hp
  rotate_left
  · rw [if_pos hp]
    exact ⟨(Created_range A n c gs nx p hE hp w hs hb).mono fun e w' h => Pr3.of h, refCreated_range A n c gs nx p hE hp w hs hb⟩
  rw [if_neg (by simp [hp])]
  have hl := hs.segs
  by_cases hf : gs.length = 10 ∨ 1000 < nx
  · rw [if_pos hf]
    exact ⟨(Created_full A n c gs nx p hE hp (by omega) w hs hb).mono fun e w' h => Pr3.of h, refCreated_full A n c gs nx p hE hp (by omega) w hs hb⟩
  rw [if_neg hf]
  have hw := wiB_iff.1 hp
  obtain ⟨q, rfl⟩ := Int.eq_ofNat_of_zero_le (show 0 ≤ p by omega)
  have hn10 := (st_right hE).1
  rw [Int.toNat_natCast]
  refine ⟨(Created_yes A n c gs nx q hE (by omega) (by omega) w hs hb).mono fun e w' h => Pr3.of h, ?_⟩
  have h := refCreated_yes A n c gs nx q hE (by omega) (by omega) w hs hb
  have hlen : (gs ++ [(nx, zP q)]).length = n + 1 := by rw [List.length_append, hl]; rfl
  unfold Rf
  rw [show (gs ++ [(nx, zP q)], nx + 1, nx, (0 : Int)).1.length = n + 1 from hlen]
  exact h
theorem ex_both (k p : Int) : Calls Try.prog 24 #[.agg #[.slice A n c, .int .i64 nx], .int .i64 k, .int .i64 p] w (Pr2 (exR nx gs k p) w) ∧
    Calls Try.prog 26 #[.agg #[.slice A n c, .int .i64 nx], .int .i64 k, .int .i64 p] w (Rf (exR nx gs k p) w) := by
  by_cases hE : ixE nx gs k = 0
  rotate_left
  · rw [exR, if_pos hE]
    exact ⟨(Extended_no A n c gs nx k p _ rfl hE w hs hb).mono fun e w' h => Pr2.of h, refExtended_no A n c gs nx k p _ rfl hE w hs hb⟩
  rw [exR, if_neg (by simp [hE])]
  rcases Bool.eq_false_or_eq_true (wiB p 1 8) with hp | hp
  rotate_left
  · rw [if_pos hp]
    exact ⟨(Extended_range A n c gs nx k p hE hp w hs hb).mono fun e w' h => Pr2.of h, refExtended_range A n c gs nx k p hE hp w hs hb⟩
  rw [if_neg (by simp [hp])]
  have hl := hs.segs
  by_cases hf : 8 < pgs (byG gs (fI gs k)) + p
  · rw [if_pos hf]
    exact ⟨(Extended_full A n c gs nx k p hE hp hf w hs hb).mono fun e w' h => Pr2.of h, refExtended_full A n c gs nx k p hE hp hf w hs hb⟩
  rw [if_neg hf]
  have hw := wiB_iff.1 hp
  obtain ⟨q, rfl⟩ := Int.eq_ofNat_of_zero_le (show 0 ≤ p by omega)
  rw [Int.toNat_natCast]
  have h1 := Extended_yes A n c gs nx k q hE (by omega) (by omega) w hs hb
  have h2 := refExtended_yes A n c gs nx k q hE (by omega) (by omega) w hs hb
  unfold Rf Pr2
  rw [show (setG gs (fI gs k) (byG gs (fI gs k) ++ zP q), nx, (0 : Int), (0 : Int)).1.length = n from (setG_len _ _ _).trans hl]
  exact ⟨h1, h2⟩
theorem tr_both (k p : Int) : Calls Try.prog 25 #[.agg #[.slice A n c, .int .i64 nx], .int .i64 k, .int .i64 p] w (Pr2 (trR nx gs k p) w) ∧
    Calls Try.prog 27 #[.agg #[.slice A n c, .int .i64 nx], .int .i64 k, .int .i64 p] w (Rf (trR nx gs k p) w) := by
  by_cases hE : ixE nx gs k = 0
  rotate_left
  · rw [trR, if_pos hE]
    exact ⟨(Truncated_no A n c gs nx k p _ rfl hE w hs hb).mono fun e w' h => Pr2.of h, refTruncated_no A n c gs nx k p _ rfl hE w hs hb⟩
  rw [trR, if_neg (by simp [hE])]
  rcases Bool.eq_false_or_eq_true (wiB p 1 (pgs (byG gs (fI gs k)))) with hp | hp
  rotate_left
  · rw [if_pos hp]
    exact ⟨(Truncated_range A n c gs nx k p hE hp w hs hb).mono fun e w' h => Pr2.of h, refTruncated_range A n c gs nx k p hE hp w hs hb⟩
  rw [if_neg (by simp [hp])]
  have hl := hs.segs
  have hw := wiB_iff.1 hp
  obtain ⟨q, rfl⟩ := Int.eq_ofNat_of_zero_le (show 0 ≤ p by omega)
  rw [Int.toNat_natCast]
  have h1 := Truncated_yes A n c gs nx k q hE hp w hs hb
  have h2 := refTruncated_yes A n c gs nx k q hE hp w hs hb
  unfold Rf Pr2
  rw [show (setG gs (fI gs k) ((byG gs (fI gs k)).extract 0 (32 * q)), nx, (0 : Int), (0 : Int)).1.length = n from (setG_len _ _ _).trans hl]
  exact ⟨h1, h2⟩
theorem de_both (k : Int) : Calls Try.prog 20 #[.agg #[.slice A n c, .int .i64 nx], .int .i64 k] w (Pr2 (deR nx gs k) w) ∧
    Calls Try.prog 23 #[.agg #[.slice A n c, .int .i64 nx], .int .i64 k] w (Rf (deR nx gs k) w) := by
  by_cases hE : ixE nx gs k = 0
  rotate_left
  · rw [deR, if_pos hE]
    exact ⟨(Destroyed_no A n c gs nx k _ rfl hE w hs hb).mono fun e w' h => Pr2.of h, refDestroyed_no A n c gs nx k _ rfl hE w hs hb⟩
  rw [deR, if_neg (by simp [hE])]
  have h2 := refDestroyed_yes A n c gs nx k hE w hs hb
  have hlen : (cutG gs (fI gs k)).length = n - 1 := by rw [cutG_len (ix_zero hE).2.1, hs.segs]
  refine ⟨(Destroyed_yes A n c gs nx k hE w hs hb).mono fun e w' h => Pr2.of h, ?_⟩
  unfold Rf
  rw [show (cutG gs (fI gs k), nx, (0 : Int), (0 : Int)).1.length = n - 1 from hlen]
  exact h2
theorem wr_both (k a : Int) (d : ByteArray) (hd : d.size ≤ maxLen) : Calls Try.prog 29 #[.agg #[.slice A n c, .int .i64 nx], .agg #[.int .i64 k, .int .i64 a], .string d] w (Pr2 (wrR nx gs k a d) w) ∧
    Calls Try.prog 31 #[.agg #[.slice A n c, .int .i64 nx], .agg #[.int .i64 k, .int .i64 a], .string d] w (Rf (wrR nx gs k a d) w) := by
  by_cases hE : iwE nx gs k a d.size = 0
  rotate_left
  · rw [wrR, if_pos hE]
    exact ⟨(Written_no A n c gs nx k a _ d hd rfl hE w hs hb).mono fun e w' h => Pr2.of h, refWritten_no A n c gs nx k a _ d hd rfl hE w hs hb⟩
  rw [wrR, if_neg (by simp [hE])]
  have hr := rgB_iff.1 (iwE_zero hE).2
  obtain ⟨i, rfl⟩ := Int.eq_ofNat_of_zero_le hr.1
  rw [Int.toNat_natCast]
  have h1 := Written_yes A n c gs nx k i d hd hE w hs hb
  have h2 := refWritten_yes A n c gs nx k i d hE w hs hb
  unfold Rf Pr2
  rw [show (setG gs (fI gs k) (pS (byG gs (fI gs k)) i d), nx, (0 : Int), (0 : Int)).1.length = n from (setG_len _ _ _).trans hs.segs]
  exact ⟨h1, h2⟩
end

/-- One operation's result. -/
def opR (nx : Int) (gs : List (Int × ByteArray)) (kd sn o pg : Int) (b : ByteArray) : List (Int × ByteArray) × Int × Int × Int :=
  if opE kd sn o pg b ≠ 0 then bad (opE kd sn o pg b) else if kd = 0 then crR nx gs pg else if kd = 1 then exR nx gs sn pg else if kd = 2 then trR nx gs sn pg else if kd = 3 then deR nx gs sn else wrR nx gs sn o b
end Go.Proofs.Ytljminmfldejnaa
