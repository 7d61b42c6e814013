/- Numbers, plainly: behind an operation without error lies a right store. -/
import Derived.Test.YtljminmfldejnaaIw
namespace Go.Proofs.Ytljminmfldejnaa
set_option linter.unusedSimpArgs false
set_option linter.unusedVariables false
open Go.RowKit

theorem sgE_of {nx bf m : Int} {x : ByteArray} (h1 : 1 ≤ m) (h2 : m ≤ nx - 1) (h3 : bf < m) (hx : PgOk x) : sgE nx bf m x = 0 := by
  unfold PgOk at hx
  unfold sgE
  rw [if_neg (by simp [wiB_yes h1 h2]), if_neg (by omega), if_neg (by simp; omega), if_neg]
  rw [wiB_yes (by unfold pgs; omega) (by unfold pgs; omega)]
  simp
theorem st_of {nx : Int} {gs : List (Int × ByteArray)} (h1 : gs.length ≤ 10) (h2 : 1 ≤ nx) (h3 : nx ≤ 1001) (h : ∀ i, i < gs.length → (1 ≤ nuG gs i ∧ nuG gs i ≤ nx - 1) ∧ bfG gs i < nuG gs i ∧ PgOk (byG gs i)) : stE nx gs = 0 :=
  (st_make h1 (wiB_yes h2 h3) fun i hi => by
    obtain ⟨⟨a, b⟩, c, d⟩ := h i hi
    exact sgE_of a b c d).1
section
variable {nx : Int} {gs : List (Int × ByteArray)} {y : ByteArray}
theorem app_nu (m : Int) (j : Nat) : nuG (gs ++ [(m, y)]) j = if j < gs.length then nuG gs j else if j = gs.length then m else 0 := by
  unfold nuG
  simp only [List.getD_eq_getElem?_getD]
  by_cases h : j < gs.length
  · rw [if_pos h, List.getElem?_append_left h]
  · rw [if_neg h, List.getElem?_append_right (by omega)]
    by_cases e : j = gs.length
    · rw [if_pos e, e, Nat.sub_self]; rfl
    · rw [if_neg e, List.getElem?_eq_none (by simp; omega)]; rfl
theorem app_by (m : Int) (j : Nat) (h : j ≤ gs.length) : byG (gs ++ [(m, y)]) j = if j < gs.length then byG gs j else y := by
  unfold byG
  simp only [List.getD_eq_getElem?_getD]
  by_cases h : j < gs.length
  · rw [if_pos h, List.getElem?_append_left h]
  · rw [if_neg h, List.getElem?_append_right (by omega), show j - gs.length = 0 by omega]
    rfl
theorem st_app (h : stE nx gs = 0) (hl : gs.length < 10) (hn : nx ≤ 1000) (hy : PgOk y) : stE (nx + 1) (gs ++ [(nx, y)]) = 0 := by
  obtain ⟨h1, h2, h3, h4⟩ := st_right h
  refine st_of (by rw [List.length_append]; simp; omega) (by omega) (by omega) fun i hi => ?_
  rw [List.length_append, List.length_singleton] at hi
  have hbf : bfG (gs ++ [(nx, y)]) i = bfG gs i := by
    unfold bfG
    by_cases e : i = 0
    · rw [if_pos e, if_pos e]
    · rw [if_neg e, if_neg e, app_nu, if_pos (by omega)]
  rw [hbf, app_nu, app_by nx i (by omega)]
  by_cases hlt : i < gs.length
  · rw [if_pos hlt, if_pos hlt]
    obtain ⟨⟨a, b⟩, c, d⟩ := h4 i hlt
    exact ⟨⟨a, by omega⟩, c, d⟩
  · rw [if_neg hlt, if_neg hlt, if_pos (by omega)]
    refine ⟨⟨h2, by omega⟩, ?_, hy⟩
    unfold bfG
    by_cases e : i = 0
    · rw [if_pos e]; omega
    · rw [if_neg e]
      have := (h4 (i - 1) (by omega)).1.2
      omega
theorem cut_nu {i : Nat} (hi : i < gs.length) (j : Nat) : nuG (cutG gs i) j = if j < i then nuG gs j else nuG gs (j + 1) := by
  unfold nuG
  rw [cutG_at hi]
  split <;> rfl
theorem cut_by {i : Nat} (hi : i < gs.length) (j : Nat) : byG (cutG gs i) j = if j < i then byG gs j else byG gs (j + 1) := by
  unfold byG
  rw [cutG_at hi]
  split <;> rfl
theorem st_cut {i : Nat} (h : stE nx gs = 0) (hi : i < gs.length) : stE nx (cutG gs i) = 0 := by
  obtain ⟨h1, h2, h3, h4⟩ := st_right h
  have hc := cutG_len hi
  refine st_of (by omega) h2 h3 fun j hj => ?_
  rw [cut_nu hi, cut_by hi]
  by_cases hlt : j < i
  · rw [if_pos hlt, if_pos hlt]
    obtain ⟨a, c, d⟩ := h4 j (by omega)
    refine ⟨a, ?_, d⟩
    have : bfG (cutG gs i) j = bfG gs j := by
      unfold bfG
      split
      · rfl
      · rw [cut_nu hi, if_pos (by omega)]
    rw [this]
    exact c
  · rw [if_neg hlt, if_neg hlt]
    obtain ⟨a, c, d⟩ := h4 (j + 1) (by omega)
    refine ⟨a, ?_, d⟩
    unfold bfG
    by_cases e : j = 0
    · rw [if_pos e]; omega
    · rw [if_neg e, cut_nu hi]
      split
      · exact nu_lt h (j + 1) (j - 1) (by omega) (by omega)
      · rw [show j - 1 + 1 = j by omega]
        exact nu_lt h (j + 1) j (by omega) (by omega)
end
/-- Some segment has the number. -/
def Has (gs : List (Int × ByteArray)) (k : Int) : Prop := ∃ j, j < gs.length ∧ nuG gs j = k
/-- What an operation without error does to the numbers. -/
theorem op_next {nx kd sn o pg : Int} {gs : List (Int × ByteArray)} {b : ByteArray} (h : (opR nx gs kd sn o pg b).2.2.2 = 0) :
    stE (opR nx gs kd sn o pg b).2.1 (opR nx gs kd sn o pg b).1 = 0 ∧
    ((kd = 0 ∧ (opR nx gs kd sn o pg b).2.1 = nx + 1 ∧ crR nx gs pg = opR nx gs kd sn o pg b ∧ ∀ k, Has (opR nx gs kd sn o pg b).1 k → Has gs k ∨ k = nx) ∨
     (kd = 3 ∧ (opR nx gs kd sn o pg b).2.1 = nx ∧ ixE nx gs sn = 0 ∧ ¬ Has (opR nx gs kd sn o pg b).1 sn ∧ ∀ k, Has (opR nx gs kd sn o pg b).1 k → Has gs k) ∨
     (kd ≠ 0 ∧ kd ≠ 3 ∧ (opR nx gs kd sn o pg b).2.1 = nx ∧ ∀ k, Has (opR nx gs kd sn o pg b).1 k → Has gs k)) := by
  have hop := h
  by_cases h0 : kd = 0
  · by_cases hE : opE kd sn o pg b = 0
    rotate_left
    · rw [opR, if_pos hE] at h; exact absurd h hE
    have he : opR nx gs kd sn o pg b = crR nx gs pg := by rw [opR, if_neg (by simp [hE]), if_pos h0]
    rw [he] at h ⊢
    unfold crR at h ⊢
    by_cases e1 : stE nx gs = 0
    rotate_left
    · rw [if_pos e1] at h; exact absurd h e1
    rw [if_neg (by simp [e1])] at h ⊢
    rcases Bool.eq_false_or_eq_true (wiB pg 1 8) with hp | hp
    rotate_left
    · rw [if_pos hp] at h; exact absurd h (by decide)
    rw [if_neg (by simp [hp])] at h ⊢
    by_cases e2 : gs.length = 10 ∨ 1000 < nx
    · rw [if_pos e2] at h; exact absurd h (by decide)
    rw [if_neg e2]
    have hw := wiB_iff.1 hp
    obtain ⟨h1, h2, h3, h4⟩ := st_right e1
    refine ⟨st_app e1 (by omega) (by omega) ?_, .inl ⟨h0, rfl, rfl, ?_⟩⟩
    · unfold PgOk
      rw [zP_size]
      omega
    · rintro k ⟨j, hj, hk⟩
      dsimp only at hj hk
      rw [List.length_append, List.length_singleton] at hj
      rw [app_nu] at hk
      by_cases hlt : j < gs.length
      · rw [if_pos hlt] at hk
        exact .inl ⟨j, hlt, hk⟩
      · rw [if_neg hlt, if_pos (by omega)] at hk
        exact .inr hk.symm
  by_cases h3 : kd = 3
  · by_cases hE : opE kd sn o pg b = 0
    rotate_left
    · rw [opR, if_pos hE] at h; exact absurd h hE
    have he : opR nx gs kd sn o pg b = deR nx gs sn := by rw [opR, if_neg (by simp [hE]), if_neg h0, if_neg (by omega), if_neg (by omega), if_pos h3]
    rw [he] at h ⊢
    unfold deR at h ⊢
    by_cases e1 : ixE nx gs sn = 0
    rotate_left
    · rw [if_pos e1] at h; exact absurd h e1
    rw [if_neg (by simp [e1])]
    obtain ⟨f1, f2, f3, -⟩ := ix_zero e1
    have hc := cutG_len f2
    refine ⟨st_cut f1 f2, .inr (.inl ⟨h3, rfl, e1, ?_, ?_⟩)⟩
    · rintro ⟨j, hj, hk⟩
      dsimp only at hj hk
      rw [cut_nu f2] at hk
      split at hk
      · have := nu_lt f1 (fI gs sn) j (by assumption) f2; omega
      · have := nu_lt f1 (j + 1) (fI gs sn) (by omega) (by omega); omega
    · rintro k ⟨j, hj, hk⟩
      dsimp only at hj hk
      rw [cut_nu f2] at hk
      split at hk
      · exact ⟨j, by omega, hk⟩
      · exact ⟨j + 1, by omega, hk⟩
  · obtain ⟨y, hy, ho, -⟩ := undone hop h0 h3
    obtain ⟨hix, -⟩ := undo_case hop h0 h3
    obtain ⟨f1, f2, f3, -⟩ := ix_zero hix
    rw [ho]
    refine ⟨st_set f1 f2 hy, .inr (.inr ⟨h0, h3, rfl, ?_⟩)⟩
    rintro k ⟨j, hj, hk⟩
    dsimp only at hj hk
    rw [setG_len] at hj
    rw [setG_nu f2] at hk
    exact ⟨j, hj, hk⟩
/-- A number that was given and that no segment has is destroyed. -/
theorem gone_read {nx k a m : Int} {gs : List (Int × ByteArray)} (h : stE nx gs = 0) (h1 : 1 ≤ k) (h2 : k < nx) (hn : ¬ Has gs k) : iwE nx gs k a m = 24 := by
  have hf : ¬ fI gs k < gs.length := fun hf => hn ⟨_, hf, by
    have := fB_bad (eqG gs k) gs.length 0 (by unfold fI at hf; omega)
    simpa [eqG, fI] using this⟩
  have hi : ixE nx gs k = 24 := by
    rw [ixE, if_pos h, nbE, if_neg hf, if_pos (wiB_yes h1 (by omega))]
  rw [iwE, if_pos (by rw [hi]; decide), hi]

/-- The cells of numbers. -/
def ic (l : List Int) : List Value := l.map fun x => .int .i64 x
theorem ic_one (l : List Int) : ∀ u ∈ ic l, u.oneCell' = true := fun u h => by
  unfold ic at h
  obtain ⟨x, -, rfl⟩ := List.mem_map.1 h
  rfl
theorem ic_app (l m : List Int) : ic l ++ ic m = ic (l ++ m) := by unfold ic; rw [List.map_append]
theorem Sv.nums {w : World} {A : Option Addr} {n c : Nat} {l : List Int} (h : Sv w A n c 1 (ic l)) : l.length = n := by
  have hl := h.1
  unfold ic at hl
  rw [List.length_map] at hl
  omega
theorem Sv.num {w : World} {b o n c : Nat} {l : List Int} (h : Sv w (some ⟨b, o, none⟩) n c 1 (ic l)) {i : Nat} (hi : i < n) : w.cell? ⟨b, o + i, none⟩ = some (.int .i64 (l.getD i 0)) := by
  have hl := h.nums
  obtain ⟨b', o', e, hb, hc⟩ := h.2.2.2.2 (by omega)
  simp only [Option.some.injEq, Addr.mk.injEq, and_true] at e
  obtain ⟨rfl, rfl⟩ := e
  rw [hc i (by omega)]
  unfold ic
  rw [List.getElem?_map, List.getElem?_eq_getElem (by omega), List.getD_eq_getElem?_getD, List.getElem?_eq_getElem (by omega)]
  rfl
set_option maxHeartbeats 1000000 in
set_option maxRecDepth 100000 in
theorem IndexOf_none (A : Option Addr) (n c : Nat) (l : List Int) (x : Int) (hx : x ∉ l) (w : World) (hs : Sv w A n c 1 (ic l)) :
    Calls Try.prog 40 #[.slice A n c, .int .i64 x] w fun e w' => e = .returned (.int .i64 (-1)) ∧ Gr w w' := by
  have hm := hs.max
  have hlen := hs.nums
  have HS := Lib.hid hs
  rcases Nat.eq_zero_or_pos n with h0 | h0
  · subst h0
    clear hs
    go_enter Try.func40, Try.ntmps40
    go_wp2
    go_loop [5] (fun i => i = .int .i64 0) (fun _ => 0)
    case atStart => rfl
    case round =>
      subst hrel
      go_wp2
      go_ret
      exact ⟨rfl, (by repeat (first | (with_reducible exact Gr.refl _) | (with_reducible assumption) | (with_reducible refine Gr.alloc ?_ _) | (with_reducible refine Gr.drew ?_) | (with_reducible refine Gr.drewN ?_ _) | (with_reducible refine Gr.setCell ?_ (by simp <;> omega) _) | (with_reducible refine Gr.trans ?_ (by with_reducible assumption)) | exact Gr.refl _ | assumption | refine Gr.alloc ?_ _ | refine Gr.drew ?_ | refine Gr.drewN ?_ _ | refine Gr.setCell ?_ (by simp <;> omega) _ | refine Gr.trans ?_ (by assumption)))⟩
  · obtain ⟨b, o, rfl, hb, -⟩ := hs.at_ h0
    clear hs
    have HX := Lib.hid hx
    clear hx
    go_enter Try.func40, Try.ntmps40
    go_wp2
    go_loopw [5] (fun i wr => ∃ q : Nat, q ≤ n ∧ i = .int .i64 q ∧ Hid (Gr w wr)) (fun i _ => n - (intOf i).toNat)
    case atStart => exact ⟨0, Nat.zero_le _, rfl, Gr.refl _⟩
    case round =>
      obtain ⟨q, hq, rfl, hG⟩ := hrel
      by_cases hlt : q < n
      · have k0 := (HS.out.gr hG.out).num hlt
        have hne : (l.getD q 0 == x) = false := by
          rw [beq_eq_false_iff_ne]
          intro e
          refine HX.out ?_
          rw [← e, List.getD_eq_getElem?_getD, List.getElem?_eq_getElem (by omega)]
          exact List.getElem_mem _
        generalize l.getD q 0 = y at *
        have hq0 : (0 : Int) ≤ q := by omega
        have hq1 : (q : Int) < n := by omega
        go_wp2
        go_roundw
        case rel => exact ⟨q + 1, by omega, by go_num, hG⟩
        case measure => simp [intOf]; omega
      · go_wp2
        go_ret
        exact ⟨rfl, hG.out⟩
end Go.Proofs.Ytljminmfldejnaa
