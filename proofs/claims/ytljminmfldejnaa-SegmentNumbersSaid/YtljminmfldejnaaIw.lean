/- Undone, plainly: an operation, and those that lead back behind it. -/
import Derived.Test.YtljminmfldejnaaIv
namespace Go.Proofs.Ytljminmfldejnaa
set_option linter.unusedSimpArgs false
set_option linter.unusedVariables false
open Go.RowKit

theorem setG_setG (gs : List (Int × ByteArray)) (i : Nat) (y z : ByteArray) (h : i < gs.length) : setG (setG gs i y) i z = setG gs i z := by
  unfold setG
  rw [List.set_set]
  congr 2
  exact setG_nu h i
theorem setG_self {gs : List (Int × ByteArray)} {i : Nat} (h : i < gs.length) : setG gs i (byG gs i) = gs := by
  unfold setG nuG byG
  rw [List.getD_eq_getElem?_getD, List.getElem?_eq_getElem h]
  exact List.set_getElem_self h
/-- Pages of a segment are right. -/
def PgOk (y : ByteArray) : Prop := y.size % 32 = 0 ∧ 1 ≤ y.size / 32 ∧ y.size / 32 ≤ 8
theorem sgE_made {nx bf m : Int} {x y : ByteArray} (h : sgE nx bf m x = 0) (hy : PgOk y) : sgE nx bf m y = 0 := by
  obtain ⟨h1, h2, -⟩ := sgE_zero h
  unfold PgOk at hy
  unfold sgE
  rw [if_neg (by simp [wiB_yes h1.1 h1.2]), if_neg (by omega), if_neg (by simp; omega), if_neg]
  rw [wiB_yes (by unfold pgs; omega) (by unfold pgs; omega)]
  simp
theorem st_set {nx : Int} {gs : List (Int × ByteArray)} {i : Nat} {y : ByteArray} (h : stE nx gs = 0) (hi : i < gs.length) (hy : PgOk y) : stE nx (setG gs i y) = 0 := by
  obtain ⟨h1, h2, h3⟩ := st_zero h
  refine (st_make (by rw [setG_len]; exact h1) h2 fun j hj => ?_).1
  rw [setG_len] at hj
  have h4 := h3 j hj
  unfold sgErr at h4 ⊢
  rw [bfG_congr (setG_nu hi), setG_nu hi, setG_by hi]
  split
  · exact sgE_made h4 hy
  · exact h4
section
variable {nx k : Int} {gs : List (Int × ByteArray)} {y : ByteArray}
theorem ix_set (h : ixE nx gs k = 0) (hy : PgOk y) : stE nx (setG gs (fI gs k) y) = 0 ∧ ixE nx (setG gs (fI gs k) y) k = 0 ∧ fI (setG gs (fI gs k) y) k = fI gs k ∧ byG (setG gs (fI gs k) y) (fI gs k) = y := by
  obtain ⟨e1, e2, e3, -⟩ := ix_zero h
  have s1 := st_set e1 e2 hy
  have s2 := setG_nu (x := y) e2
  have s3 := setG_len gs (fI gs k) y
  refine ⟨s1, ?_, fI_like s3 s2 k, by rw [setG_by e2, if_pos rfl]⟩
  have := ix_nu s1 (j := fI gs k) (by rw [s3]; exact e2)
  rw [s2, e3] at this
  exact this
theorem seg_ok (h : ixE nx gs k = 0) : PgOk (byG gs (fI gs k)) := (seg_right h).2.2
end
theorem al_one {nx : Int} {gs : List (Int × ByteArray)} (h : stE nx gs = 0) {kd sn o pg : Int} {b : ByteArray} : alR nx gs [(kd, sn, o, pg, b)] = if (opR nx gs kd sn o pg b).2.2.2 ≠ 0 then ([], 0, 0, (opR nx gs kd sn o pg b).2.2.2) else ((opR nx gs kd sn o pg b).1, (opR nx gs kd sn o pg b).2.1, 1, 0) := by
  rw [alR, if_neg (by simp [h]), if_neg (by simp)]
  show apF [(kd, sn, o, pg, b)] nx gs 0 = _
  rw [apF]
  rfl
theorem al_nil {nx : Int} {gs : List (Int × ByteArray)} (h : stE nx gs = 0) : alR nx gs [] = (gs, nx, 0, 0) := by
  rw [alR, if_neg (by simp [h]), if_neg (by simp)]
  rfl
theorem al_two {nx : Int} {gs : List (Int × ByteArray)} (h : stE nx gs = 0) {kd sn o pg : Int} {b : ByteArray} {r : List (Int × Int × Int × Int × ByteArray)} (hr : r.length ≤ 1) (hE : (opR nx gs kd sn o pg b).2.2.2 = 0) : alR nx gs ((kd, sn, o, pg, b) :: r) = apF r (opR nx gs kd sn o pg b).2.1 (opR nx gs kd sn o pg b).1 1 := by
  rw [alR, if_neg (by simp [h]), if_neg (by simp; omega)]
  show apF ((kd, sn, o, pg, b) :: r) nx gs 0 = _
  rw [apF]
  unfold opX
  rw [if_neg (by simp [hE])]

theorem op_ex {nx k : Int} {gs : List (Int × ByteArray)} {q : Nat} (h : ixE nx gs k = 0) (hq : 1 ≤ q) (hf : pgs (byG gs (fI gs k)) + q ≤ 8) : opR nx gs 1 k 0 q ⟨#[]⟩ = (setG gs (fI gs k) (byG gs (fI gs k) ++ zP q), nx, 0, 0) := by
  have hp : 0 ≤ pgs (byG gs (fI gs k)) := by unfold pgs; omega
  have hE : opE 1 k 0 q ⟨#[]⟩ = 0 := opE_good (by decide) (by simp [uSn]) (by simp [uOf]) (by simp [uPg]) (by simp [uBy])
  rw [opR, if_neg (by simp [hE]), if_neg (by decide), if_pos rfl, exR, if_neg (by simp [h]), if_neg (by rw [wiB_yes (by omega) (by omega)]; simp), if_neg (by omega), Int.toNat_natCast]
theorem op_tr {nx k : Int} {gs : List (Int × ByteArray)} {q : Nat} (h : ixE nx gs k = 0) (hq : 1 ≤ q) (hf : (q : Int) ≤ pgs (byG gs (fI gs k))) : opR nx gs 2 k 0 q ⟨#[]⟩ = (setG gs (fI gs k) ((byG gs (fI gs k)).extract 0 (32 * q)), nx, 0, 0) := by
  have hE : opE 2 k 0 q ⟨#[]⟩ = 0 := opE_good (by decide) (by simp [uSn]) (by simp [uOf]) (by simp [uPg]) (by simp [uBy])
  rw [opR, if_neg (by simp [hE]), if_neg (by decide), if_neg (by decide), if_pos rfl, trR, if_neg (by simp [h]), if_neg (by rw [wiB_yes (by omega) (by omega)]; simp), Int.toNat_natCast]
theorem op_wr {nx k : Int} {gs : List (Int × ByteArray)} {o : Nat} {b : ByteArray} (h : ixE nx gs k = 0) (hf : o + b.size ≤ (byG gs (fI gs k)).size) : opR nx gs 4 k o 0 b = (setG gs (fI gs k) (pS (byG gs (fI gs k)) o b), nx, 0, 0) := by
  have hE : opE 4 k o 0 b = 0 := opE_good (by decide) (by simp [uSn]) (by simp [uOf]) (by simp [uPg]) (by simp [uBy])
  have hw : iwE nx gs k o b.size = 0 := iwE_yes h (rgB_iff.2 (by omega))
  rw [opR, if_neg (by simp [hE]), if_neg (by decide), if_neg (by decide), if_neg (by decide), if_neg (by decide), wrR, if_neg (by simp [hw]), Int.toNat_natCast]

theorem cut_all (x : ByteArray) : x.extract 0 x.size = x := ByteArray.extract_zero_size
theorem cut_app (x y : ByteArray) : (x ++ y).extract 0 x.size = x := by
  refine ba_ext (by simp only [ByteArray.size_extract, ByteArray.size_append]; omega) fun i hi => ?_
  have hi' : i < x.size := by simp only [ByteArray.size_extract, ByteArray.size_append] at hi; omega
  rw [bAt_extract _ 0 x.size i (by omega) (by rw [ByteArray.size_append]; omega), bAt_append, Nat.zero_add, if_pos hi']
theorem pS_same {x b : ByteArray} {o : Nat} (h : o + b.size ≤ x.size) (he : x.extract o (o + b.size) = b) : pS x o b = x := by
  refine ba_ext (pS_size h) fun i hi => ?_
  rw [pS_size h] at hi
  rw [pS_at h i hi]
  split
  · rfl
  · split
    · conv => lhs; rw [← he]
      rw [bAt_extract x o _ _ (by omega) (by omega)]
      congr 1
      omega
    · rfl
theorem pS_back {x b : ByteArray} {o : Nat} (h : o + b.size ≤ x.size) : pS (pS x o b) o (x.extract o (o + b.size)) = x := by
  have hz := pS_size h
  have he : (x.extract o (o + b.size)).size = b.size := by rw [ByteArray.size_extract]; omega
  refine ba_ext (by rw [pS_size (by omega), hz]) fun i hi => ?_
  rw [pS_size (by omega), hz] at hi
  rw [pS_at (by omega) i (by omega), he]
  split
  · rw [pS_at h i hi, if_pos (by assumption)]
  · split
    · rw [bAt_extract x o _ _ (by omega) (by omega)]
      congr 1
      omega
    · rw [pS_at h i hi, if_neg (by assumption), if_neg (by assumption)]
theorem tail_back {x : ByteArray} {q r : Nat} (h : 32 * q + 32 * r = x.size) : pS (x.extract 0 (32 * q) ++ zP r) (32 * q) (x.extract (32 * q) (32 * q + 32 * r)) = x := by
  have hz := zP_size r
  have h1 : (x.extract 0 (32 * q)).size = 32 * q := by rw [ByteArray.size_extract]; omega
  have h2 : (x.extract (32 * q) (32 * q + 32 * r)).size = 32 * r := by rw [ByteArray.size_extract]; omega
  have h3 : (x.extract 0 (32 * q) ++ zP r).size = x.size := by rw [ByteArray.size_append]; omega
  refine ba_ext (by rw [pS_size (by omega)]; omega) fun i hi => ?_
  rw [pS_size (by omega), h3] at hi
  rw [pS_at (by omega) i (by omega)]
  split
  · rw [bAt_append, if_pos (by omega), bAt_extract x 0 _ i (by omega) (by omega), Nat.zero_add]
  · rw [if_pos (by omega), bAt_extract x (32 * q) _ _ (by omega) (by omega)]
    congr 1
    omega
theorem tail_zero {x : ByteArray} {q r : Nat} (h : 32 * q + 32 * r = x.size) (he : x.extract (32 * q) (32 * q + (zP r).size) = zP r) : x.extract 0 (32 * q) ++ zP r = x := by
  have hz := zP_size r
  rw [hz] at he
  have := tail_back h
  rw [he] at this
  have h1 : (x.extract 0 (32 * q)).size = 32 * q := by rw [ByteArray.size_extract]; omega
  refine (pS_same (b := zP r) (o := 32 * q) (x := x.extract 0 (32 * q) ++ zP r) (by rw [ByteArray.size_append]; omega) ?_).symm.trans this
  refine ba_ext (by simp only [ByteArray.size_extract, ByteArray.size_append]; omega) fun i hi => ?_
  have hi' : i < 32 * r := by simp only [ByteArray.size_extract, ByteArray.size_append] at hi; omega
  rw [bAt_extract (x.extract 0 (32 * q) ++ zP r) (32 * q) (32 * q + (zP r).size) i (by omega) (by rw [ByteArray.size_append]; omega), bAt_append, if_neg (by omega)]
  congr 1
  omega

/-- The operations that can be undone. -/
theorem undo_case {nx kd sn o pg : Int} {gs : List (Int × ByteArray)} {b : ByteArray} (h : (opR nx gs kd sn o pg b).2.2.2 = 0) (h0 : kd ≠ 0) (h3 : kd ≠ 3) : ixE nx gs sn = 0 ∧
    ((kd = 1 ∧ o = 0 ∧ b = ⟨#[]⟩ ∧ ∃ q : Nat, pg = q ∧ 1 ≤ q ∧ pgs (byG gs (fI gs sn)) + q ≤ 8) ∨
     (kd = 2 ∧ o = 0 ∧ b = ⟨#[]⟩ ∧ ∃ q : Nat, pg = q ∧ 1 ≤ q ∧ (q : Int) ≤ pgs (byG gs (fI gs sn))) ∨
     (kd = 4 ∧ pg = 0 ∧ ∃ p : Nat, o = p ∧ p + b.size ≤ (byG gs (fI gs sn)).size)) := by
  by_cases hE : opE kd sn o pg b = 0
  rotate_left
  · rw [opR, if_pos hE] at h; exact absurd h hE
  obtain ⟨hk, u1, u2, u3, u4⟩ := opE_zero hE
  rw [opR, if_neg (by simp [hE]), if_neg h0] at h
  by_cases h1 : kd = 1
  · rw [if_pos h1, exR] at h
    by_cases e1 : ixE nx gs sn = 0
    rotate_left
    · rw [if_pos e1] at h; exact absurd h e1
    rw [if_neg (by simp [e1])] at h
    rcases Bool.eq_false_or_eq_true (wiB pg 1 8) with hp | hp
    rotate_left
    · rw [if_pos hp] at h; exact absurd h (by decide)
    rw [if_neg (by simp [hp])] at h
    by_cases e2 : 8 < pgs (byG gs (fI gs sn)) + pg
    · rw [if_pos e2] at h; exact absurd h (by decide)
    have hw := wiB_iff.1 hp
    subst h1
    simp [uOf, uBy] at u2 u4
    obtain ⟨q, rfl⟩ := Int.eq_ofNat_of_zero_le (show 0 ≤ pg by omega)
    exact ⟨e1, .inl ⟨rfl, u2, u4, q, rfl, by omega, by omega⟩⟩
  rw [if_neg h1] at h
  by_cases h2 : kd = 2
  · rw [if_pos h2, trR] at h
    by_cases e1 : ixE nx gs sn = 0
    rotate_left
    · rw [if_pos e1] at h; exact absurd h e1
    rw [if_neg (by simp [e1])] at h
    rcases Bool.eq_false_or_eq_true (wiB pg 1 (pgs (byG gs (fI gs sn)))) with hp | hp
    rotate_left
    · rw [if_pos hp] at h; exact absurd h (by decide)
    have hw := wiB_iff.1 hp
    subst h2
    simp [uOf, uBy] at u2 u4
    obtain ⟨q, rfl⟩ := Int.eq_ofNat_of_zero_le (show 0 ≤ pg by omega)
    exact ⟨e1, .inr (.inl ⟨rfl, u2, u4, q, rfl, by omega, by omega⟩)⟩
  rw [if_neg h2, if_neg h3, wrR] at h
  have h4 : kd = 4 := by omega
  by_cases e1 : iwE nx gs sn o b.size = 0
  rotate_left
  · rw [if_pos e1] at h; exact absurd h e1
  obtain ⟨e2, e3⟩ := iwE_zero e1
  have hr := rgB_iff.1 e3
  subst h4
  simp [uPg] at u3
  obtain ⟨p, rfl⟩ := Int.eq_ofNat_of_zero_le hr.1
  exact ⟨e2, .inr (.inr ⟨rfl, u3, p, rfl, by omega⟩)⟩

/-- Behind an operation and those that lead back the store is as it was. -/
theorem undone {nx kd sn o pg : Int} {gs : List (Int × ByteArray)} {b : ByteArray} (h : (opR nx gs kd sn o pg b).2.2.2 = 0) (h0 : kd ≠ 0) (h3 : kd ≠ 3) :
    ∃ y, PgOk y ∧ opR nx gs kd sn o pg b = (setG gs (fI gs sn) y, nx, 0, 0) ∧ alR nx (setG gs (fI gs sn) y) (unL gs kd sn o pg b) = (gs, nx, ((unL gs kd sn o pg b).length : Int), 0) := by
  obtain ⟨hix, hc⟩ := undo_case h h0 h3
  obtain ⟨e1, e2, e3, -⟩ := ix_zero hix
  have hx := seg_ok hix
  have hpx : (pgs (byG gs (fI gs sn)) : Int) * 32 = (byG gs (fI gs sn)).size := by unfold pgs PgOk at *; omega
  rcases hc with ⟨rfl, rfl, rfl, q, rfl, hq, hf⟩ | ⟨rfl, rfl, rfl, q, rfl, hq, hf⟩ | ⟨rfl, rfl, p, rfl, hf⟩
  · have hy : PgOk (byG gs (fI gs sn) ++ zP q) := by
      unfold PgOk
      rw [ByteArray.size_append, zP_size]
      unfold PgOk at hx
      omega
    refine ⟨_, hy, op_ex hix hq hf, ?_⟩
    obtain ⟨s1, s2, s3, s4⟩ := ix_set hix hy
    have hl : unL gs 1 sn 0 q ⟨#[]⟩ = [(2, sn, 0, pgs (byG gs (fI gs sn)), ⟨#[]⟩)] := by rw [unL, if_pos rfl]
    obtain ⟨P, hP⟩ := Int.eq_ofNat_of_zero_le (show 0 ≤ pgs (byG gs (fI gs sn)) by unfold pgs; omega)
    have ho := op_tr (q := P) s2 (by unfold PgOk at hx; omega) (by rw [s3, s4]; unfold pgs; rw [ByteArray.size_append, zP_size]; omega)
    rw [s3, s4] at ho
    rw [hl, hP, al_one s1, ho, setG_setG _ _ _ _ e2, show 32 * P = (byG gs (fI gs sn)).size by omega, cut_app, setG_self e2]
    rfl
  · have hsz : 32 * q ≤ (byG gs (fI gs sn)).size := by omega
    have hy : PgOk ((byG gs (fI gs sn)).extract 0 (32 * q)) := by
      unfold PgOk at hx ⊢
      rw [ByteArray.size_extract]
      omega
    refine ⟨_, hy, op_tr hix hq hf, ?_⟩
    obtain ⟨s1, s2, s3, s4⟩ := ix_set hix hy
    have hl : unL gs 2 sn 0 q ⟨#[]⟩ = pbL sn (byG gs (fI gs sn)) q := by rw [unL, if_neg (by decide), if_pos rfl, Int.toNat_natCast]
    rw [hl]
    unfold pbL
    by_cases hr : pgs (byG gs (fI gs sn)) - q = 0
    · rw [if_pos hr, al_nil s1, show 32 * q = (byG gs (fI gs sn)).size by omega, cut_all, setG_self e2]
      rfl
    · rw [if_neg hr]
      obtain ⟨r, hr2⟩ := Int.eq_ofNat_of_zero_le (show 0 ≤ pgs (byG gs (fI gs sn)) - q by omega)
      rw [hr2, Int.toNat_natCast]
      have hz := zP_size r
      have hsum : 32 * q + 32 * r = (byG gs (fI gs sn)).size := by omega
      have hc1 : ((byG gs (fI gs sn)).extract 0 (32 * q)).size = 32 * q := by rw [ByteArray.size_extract]; omega
      have ho := op_ex (q := r) s2 (by omega) (by rw [s3, s4]; unfold pgs PgOk at *; omega)
      rw [s3, s4, setG_setG _ _ _ _ e2] at ho
      have hy2 : PgOk ((byG gs (fI gs sn)).extract 0 (32 * q) ++ zP r) := by
        unfold PgOk at hx ⊢
        rw [ByteArray.size_append]
        omega
      obtain ⟨t1, t2, t3, t4⟩ := ix_set hix hy2
      have hbl : (bbL sn (byG gs (fI gs sn)) (32 * q) (zP r)).length ≤ 1 := by unfold bbL; split <;> simp
      rw [al_two s1 hbl (by rw [ho]), ho]
      unfold bbL
      by_cases he : (byG gs (fI gs sn)).extract (32 * q) (32 * q + (zP r).size) = zP r
      · rw [if_pos he]
        show ((setG gs (fI gs sn) ((byG gs (fI gs sn)).extract 0 (32 * q) ++ zP r)), nx, (1 : Int), (0 : Int)) = _
        rw [tail_zero hsum he, setG_self e2]
        rfl
      · rw [if_neg he]
        have hw := op_wr (o := 32 * q) (b := (byG gs (fI gs sn)).extract (32 * q) (32 * q + (zP r).size)) t2 (by rw [t3, t4, ByteArray.size_append, ByteArray.size_extract]; omega)
        rw [t3, t4, setG_setG _ _ _ _ e2] at hw
        rw [hz] at hw ⊢
        rw [tail_back hsum, setG_self e2] at hw
        show apF [(4, sn, ((32 * q : Nat) : Int), 0, (byG gs (fI gs sn)).extract (32 * q) (32 * q + 32 * r))] nx (setG gs (fI gs sn) ((byG gs (fI gs sn)).extract 0 (32 * q) ++ zP r)) 1 = _
        rw [apF]
        unfold opX
        rw [hw, if_neg (by simp)]
        rfl
  · have hy : PgOk (pS (byG gs (fI gs sn)) p b) := by unfold PgOk at hx ⊢; rw [pS_size hf]; exact hx
    refine ⟨_, hy, op_wr hix hf, ?_⟩
    obtain ⟨s1, s2, s3, s4⟩ := ix_set hix hy
    have hl : unL gs 4 sn p 0 b = bbL sn (byG gs (fI gs sn)) p b := by rw [unL, if_neg (by decide), if_neg (by decide), Int.toNat_natCast]
    rw [hl]
    unfold bbL
    by_cases he : (byG gs (fI gs sn)).extract p (p + b.size) = b
    · rw [if_pos he, al_nil s1, pS_same hf he, setG_self e2]
      rfl
    · rw [if_neg he]
      have hes : ((byG gs (fI gs sn)).extract p (p + b.size)).size = b.size := by rw [ByteArray.size_extract]; omega
      have hw := op_wr (o := p) (b := (byG gs (fI gs sn)).extract p (p + b.size)) s2 (by rw [s3, s4, pS_size hf, hes]; exact hf)
      rw [s3, s4, setG_setG _ _ _ _ e2, pS_back hf, setG_self e2] at hw
      rw [al_one s1, hw]
      rfl
end Go.Proofs.Ytljminmfldejnaa
