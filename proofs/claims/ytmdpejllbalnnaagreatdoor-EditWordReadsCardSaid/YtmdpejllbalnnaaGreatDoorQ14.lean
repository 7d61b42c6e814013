/- Texts of the walks, merged. -/
import Derived.Test.YtmdpejllbalnnaaGreatDoorQ13
namespace Go.Proofs.YtmdpejllbalnnaaGreatDoor
set_option linter.unusedSimpArgs false
set_option linter.unusedVariables false
open Go.RowKit

/-- The status that a text begins with. -/
def sbL (T : List UInt8) : List UInt8 := if Lib.hasPrefix T [67, 82] then [67, 82] else if Lib.hasPrefix T [45] then [45] else []
set_option maxHeartbeats 1000000 in
theorem statusAt_core (X U : ByteArray) (a : Int) (b1 b2 : Bool)
    (hS : ∀ w, (Instr.slice 9 (.string X) (some (.int .i64 a)) none none).run Tryz.prog w = .ok (.string U) w)
    (h1 : ∀ w, Calls Tryz.prog 95 #[.string U, .string ⟨#[67, 82]⟩] w fun e w' => e = .returned (.bool b1) ∧ w = w')
    (h2 : ∀ w, Calls Tryz.prog 95 #[.string U, .string ⟨#[45]⟩] w fun e w' => e = .returned (.bool b2) ∧ w = w') (w : World) :
    Calls Tryz.prog 92 #[.string X, .int .i64 a] w fun e w' => e = .returned (.string (if b1 then ⟨#[67, 82]⟩ else if b2 then ⟨#[45]⟩ else ⟨#[]⟩)) ∧ Gr w w' := by
  go_enter Tryz.func92, Tryz.ntmps92
  go_wp2
  go_loop [9] (fun i => i = .int .i64 0 ∨ (i = .int .i64 1 ∧ b1 = false) ∨ (i = .int .i64 2 ∧ b1 = false ∧ b2 = false)) (fun i => 2 - (intOf i).toNat)
  case atStart => exact Or.inl rfl
  case round =>
    rcases hrel with rfl | ⟨rfl, rfl⟩ | ⟨rfl, rfl, rfl⟩
    · cases b1
      · go_wp2_with ((go_at_call 95; (with_reducible refine (h1 _).mono ?_); rintro e w1 ⟨rfl, rfl⟩))
        go_round
        case rel => exact Or.inr (Or.inl ⟨by go_num, by first | rfl | trivial⟩)
        case measure => simp [intOf]
      · go_wp2_with ((go_at_call 95; (with_reducible refine (h1 _).mono ?_); rintro e w1 ⟨rfl, rfl⟩))
        go_ret
        exact ⟨rfl, (by repeat (first | (with_reducible exact Gr.refl _) | (with_reducible assumption) | (with_reducible refine Gr.alloc ?_ _) | (with_reducible refine Gr.drew ?_) | (with_reducible refine Gr.drewN ?_ _) | (with_reducible refine Gr.setCell ?_ (by simp <;> omega) _) | (with_reducible refine Gr.trans ?_ (by with_reducible assumption)) | exact Gr.refl _ | assumption | refine Gr.alloc ?_ _ | refine Gr.drew ?_ | refine Gr.drewN ?_ _ | refine Gr.setCell ?_ (by simp <;> omega) _ | refine Gr.trans ?_ (by assumption)))⟩
    · cases b2
      · go_wp2_with ((go_at_call 95; (with_reducible refine (h2 _).mono ?_); rintro e w1 ⟨rfl, rfl⟩))
        go_round
        case rel => exact Or.inr (Or.inr ⟨by go_num, by first | rfl | trivial, by first | rfl | trivial⟩)
        case measure => simp [intOf]
      · go_wp2_with ((go_at_call 95; (with_reducible refine (h2 _).mono ?_); rintro e w1 ⟨rfl, rfl⟩))
        go_ret
        exact ⟨rfl, (by repeat (first | (with_reducible exact Gr.refl _) | (with_reducible assumption) | (with_reducible refine Gr.alloc ?_ _) | (with_reducible refine Gr.drew ?_) | (with_reducible refine Gr.drewN ?_ _) | (with_reducible refine Gr.setCell ?_ (by simp <;> omega) _) | (with_reducible refine Gr.trans ?_ (by with_reducible assumption)) | exact Gr.refl _ | assumption | refine Gr.alloc ?_ _ | refine Gr.drew ?_ | refine Gr.drewN ?_ _ | refine Gr.setCell ?_ (by simp <;> omega) _ | refine Gr.trans ?_ (by assumption)))⟩
    · go_wp2
      go_ret
      exact ⟨rfl, (by repeat (first | (with_reducible exact Gr.refl _) | (with_reducible assumption) | (with_reducible refine Gr.alloc ?_ _) | (with_reducible refine Gr.drew ?_) | (with_reducible refine Gr.drewN ?_ _) | (with_reducible refine Gr.setCell ?_ (by simp <;> omega) _) | (with_reducible refine Gr.trans ?_ (by with_reducible assumption)) | exact Gr.refl _ | assumption | refine Gr.alloc ?_ _ | refine Gr.drew ?_ | refine Gr.drewN ?_ _ | refine Gr.setCell ?_ (by simp <;> omega) _ | refine Gr.trans ?_ (by assumption)))⟩
theorem statusAt_any (T : List UInt8) (a : Int) (p : Nat) (ha : a = p) (hp : p ≤ T.length) (w : World) :
    Calls Tryz.prog 92 #[.string (BL T), .int .i64 a] w fun e w' => e = .returned (.string (BL (sbL (T.drop p)))) ∧ Gr w w' := by
  have hc := cut_i (BL T) a p ha (by rw [BL_size]; exact hp)
  rw [ext_all, BL_list] at hc
  have h1 : ∀ w, Calls Tryz.prog 95 #[.string (BL (T.drop p)), .string ⟨#[67, 82]⟩] w fun e w' => e = .returned (.bool (Lib.hasPrefix (T.drop p) [67, 82])) ∧ w = w' := fun w => by
    refine (Tryz.strings_HasPrefix (BL (T.drop p)) ⟨#[67, 82]⟩ w).mono fun e w' ⟨x, y⟩ => ⟨?_, y.symm⟩
    rw [x, BL_list]
  have h2 : ∀ w, Calls Tryz.prog 95 #[.string (BL (T.drop p)), .string ⟨#[45]⟩] w fun e w' => e = .returned (.bool (Lib.hasPrefix (T.drop p) [45])) ∧ w = w' := fun w => by
    refine (Tryz.strings_HasPrefix (BL (T.drop p)) ⟨#[45]⟩ w).mono fun e w' ⟨x, y⟩ => ⟨?_, y.symm⟩
    rw [x, BL_list]
  have h := statusAt_core (BL T) (BL (T.drop p)) a _ _ hc h1 h2 w
  have e : BL (sbL (T.drop p)) = if Lib.hasPrefix (T.drop p) [67, 82] = true then ⟨#[67, 82]⟩ else if Lib.hasPrefix (T.drop p) [45] = true then ⟨#[45]⟩ else ⟨#[]⟩ := by
    unfold sbL
    split
    · rfl
    · split <;> rfl
  rw [e]
  exact h
/-- A part's value in the memory. -/
def ptV (body st stop : Int) (ast : Bool) : Value := .agg #[.int .i64 body, .int .i64 st, .int .i64 stop, .bool ast]
set_option maxHeartbeats 1000000 in
theorem isPosition_any (T : List UInt8) (a : Int) (q : Nat) (ha : a = q) (hq : q < T.length) (body st stop : Int) (ast : Bool) (w : World) :
    Calls Tryz.prog 75 #[.string (BL T), .agg #[.int .i64 body, .int .i64 st, .int .i64 stop, .bool ast], .int .i64 a] w fun e w' => e = .returned (.bool (dAt T q == 32 || decide (a = stop))) ∧ Gr w w' := by
  subst ha
  have hqx : q < (BL T).size := by rw [BL_size]; exact hq
  have hby : (((BL T)[q]'hqx).toNat : Int) = ((dAt T q).toNat : Int) := by rw [BL_at]
  have h32 : (dAt T q == 32) = decide (((dAt T q).toNat : Int) = 32) := by
    by_cases h : dAt T q = 32
    · rw [h]; rfl
    · have : ¬((dAt T q).toNat : Int) = 32 := fun e => h (by rw [← UInt8.toNat_inj]; show (dAt T q).toNat = 32; omega)
      simp [h, this]
  rw [h32]
  clear h32 hq
  generalize ((dAt T q).toNat : Int) = y at *
  generalize BL T = X at *
  by_cases g : y = 32
  · subst g
    go_enter Tryz.func75, Tryz.ntmps75
    go_wp2
    go_ret
    exact ⟨by simp, (by repeat (first | (with_reducible exact Gr.refl _) | (with_reducible assumption) | (with_reducible refine Gr.alloc ?_ _) | (with_reducible refine Gr.drew ?_) | (with_reducible refine Gr.drewN ?_ _) | (with_reducible refine Gr.setCell ?_ (by simp <;> omega) _) | (with_reducible refine Gr.trans ?_ (by with_reducible assumption)) | exact Gr.refl _ | assumption | refine Gr.alloc ?_ _ | refine Gr.drew ?_ | refine Gr.drewN ?_ _ | refine Gr.setCell ?_ (by simp <;> omega) _ | refine Gr.trans ?_ (by assumption)))⟩
  · have b1 : (y == 32) = false := by simp [g]
    by_cases g2 : (q : Int) = stop
    · have b2 : ((q : Int) == stop) = true := by simp [g2]
      have E := Lib.hid (show (decide (y = 32) || decide ((q : Int) = stop)) = true by simp [g2])
      rw [E.out]
      clear g g2
      go_enter Tryz.func75, Tryz.ntmps75
      go_wp2
      go_ret
      exact ⟨by simp [go_sem], (by repeat (first | (with_reducible exact Gr.refl _) | (with_reducible assumption) | (with_reducible refine Gr.alloc ?_ _) | (with_reducible refine Gr.drew ?_) | (with_reducible refine Gr.drewN ?_ _) | (with_reducible refine Gr.setCell ?_ (by simp <;> omega) _) | (with_reducible refine Gr.trans ?_ (by with_reducible assumption)) | exact Gr.refl _ | assumption | refine Gr.alloc ?_ _ | refine Gr.drew ?_ | refine Gr.drewN ?_ _ | refine Gr.setCell ?_ (by simp <;> omega) _ | refine Gr.trans ?_ (by assumption)))⟩
    · have b2 : ((q : Int) == stop) = false := by simp [g2]
      have E := Lib.hid (show (decide (y = 32) || decide ((q : Int) = stop)) = false by simp [g, g2])
      rw [E.out]
      clear g g2
      go_enter Tryz.func75, Tryz.ntmps75
      go_wp2
      go_ret
      exact ⟨by simp [go_sem], (by repeat (first | (with_reducible exact Gr.refl _) | (with_reducible assumption) | (with_reducible refine Gr.alloc ?_ _) | (with_reducible refine Gr.drew ?_) | (with_reducible refine Gr.drewN ?_ _) | (with_reducible refine Gr.setCell ?_ (by simp <;> omega) _) | (with_reducible refine Gr.trans ?_ (by with_reducible assumption)) | exact Gr.refl _ | assumption | refine Gr.alloc ?_ _ | refine Gr.drew ?_ | refine Gr.drewN ?_ _ | refine Gr.setCell ?_ (by simp <;> omega) _ | refine Gr.trans ?_ (by assumption)))⟩
end Go.Proofs.YtmdpejllbalnnaaGreatDoor
namespace Go.Proofs.YtmdpejllbalnnaaGreatDoor
set_option linter.unusedSimpArgs false
set_option linter.unusedVariables false
open Go.RowKit

/-- The number that the digits of a text make, behind one that is there. -/
def dn (a : Nat) (l : List UInt8) : Nat := l.foldl (fun a b => if isDg b then 10 * a + (b.toNat - 48) else a) a
theorem dn_cons (a : Nat) (b : UInt8) (l : List UInt8) : dn a (b :: l) = dn (if isDg b then 10 * a + (b.toNat - 48) else a) l := rfl
theorem dn_app (a : Nat) (l m : List UInt8) : dn a (l ++ m) = dn (dn a l) m := by unfold dn; rw [List.foldl_append]
theorem dn_none {l : List UInt8} (h : ∀ b ∈ l, isDg b = false) : ∀ a, dn a l = a := by
  induction l with
  | nil => intro a; rfl
  | cons b l ih =>
    intro a
    rw [dn_cons, h b List.mem_cons_self, if_neg (by simp)]
    exact ih (fun x hx => h x (List.mem_cons_of_mem _ hx)) a
theorem dn_rep (a n : Nat) (c : UInt8) (h : isDg c = false) : dn a (List.replicate n c) = a :=
  dn_none (fun b hb => by rw [List.eq_of_mem_replicate hb]; exact h) a
theorem dn_zc {l : List UInt8} (h : ∀ b ∈ l, zc b = true) : dn 0 l = 0 := by
  induction l with
  | nil => rfl
  | cons b l ih =>
    have hb := h b List.mem_cons_self
    have e : (if isDg b then 10 * 0 + (b.toNat - 48) else 0) = 0 := by
      unfold zc at hb
      simp only [Bool.or_eq_true, beq_iff_eq] at hb
      rcases hb with rfl | rfl <;> decide
    rw [dn_cons, e]
    exact ih (fun x hx => h x (List.mem_cons_of_mem _ hx))
theorem fz_take : ∀ (l : List UInt8) (m : Nat), m ≤ fz l → ∀ b ∈ l.take m, zc b = true
  | [], m, _, b, hb => by simp at hb
  | x :: l, 0, _, b, hb => by simp at hb
  | x :: l, m + 1, h, b, hb => by
    rw [fz_cons] at h
    split at h
    · rename_i g
      rw [List.take_succ_cons, List.mem_cons] at hb
      rcases hb with rfl | hb
      · exact g
      · exact fz_take l m (by omega) b hb
    · omega
theorem dn_sup (T : List UInt8) (m : Nat) (h : m ≤ fz T) : dn 0 (sup T m) = dn 0 T := by
  unfold sup
  rw [dn_app, dn_rep _ _ _ (by decide)]
  conv => rhs; rw [← List.take_append_drop m T, dn_app, dn_zc (fz_take T m h)]
theorem dn_spT {D : List UInt8} (cmm : Bool) (W : Nat) : ∀ q, q ≤ D.length → dn 0 (spT D cmm W q) = dn 0 (D.take q)
  | 0, _ => by simp [spT]
  | q + 1, h => by
    rw [spT, dn_app, dn_app, dn_app, dn_spT cmm W q (by omega), List.take_succ_eq_append_getElem (by omega), dn_app]
    have e1 : ∀ a, dn a (if q = W then [46] else []) = a := fun a => by split <;> rfl
    have e2 : ∀ a, dn a (if (cm cmm W q && decide (q < W)) = true then [44] else []) = a := fun a => by split <;> rfl
    rw [e1, e2]
    simp [dAt, List.getD_eq_getElem?_getD, List.getElem?_eq_getElem (show q < D.length by omega)]
theorem dn_tx (D : List UInt8) (cmm : Bool) (W : Nat) : dn 0 (txL D cmm W) = dn 0 D := by
  unfold txL
  rw [dn_sup _ _ (Nat.min_le_left _ _), dn_spT cmm W D.length (Nat.le_refl _), List.take_length]
theorem dn_lb (a : Nat) (T : List UInt8) : dn a (T.drop (lb T)) = dn a T := by
  conv => rhs; rw [← List.take_append_drop (lb T) T, lb_take T _ (Nat.le_refl _), dn_app, dn_rep _ _ _ (by decide)]
theorem dn_fl (T : List UInt8) (c : UInt8) (hc : isDg c = false) : dn 0 (flL T c) = dn 0 T := by
  unfold flL
  split
  · rw [dn_app, dn_app, dn_rep _ _ _ (by decide), dn_none (l := [c]) (by simpa using hc), dn_lb]
  · rw [dn_cons]; rfl
theorem dn_st (T : List UInt8) : dn 0 (stL T) = dn 0 T := by
  unfold stL
  split
  · rw [dn_app, dn_rep _ _ _ (by decide), dn_lb]
  · rfl
theorem dn_dt (D : List UInt8) (h : D.length = 4 ∨ D.length = 6 ∨ D.length = 8) : dn 0 (dtL D) = dn 0 D := by
  have h1 : dn 0 (dtT D) = dn 0 D := by
    unfold dtT
    rw [dn_app, dn_app, dn_app]
    have e1 : ∀ a, dn a [47] = a := fun a => rfl
    have e2 : ∀ a, dn a (if 4 < D.length then 47 :: D.drop 4 else []) = dn a (D.drop 4) := fun a => by
      split
      · rfl
      · rw [List.drop_eq_nil_of_le (by omega)]
    rw [e1, e2, ← dn_app, ← dn_app]
    congr 1
    rw [show D.drop 4 = (D.drop 2).drop 2 by rw [List.drop_drop], List.take_append_drop, List.take_append_drop]
  unfold dtL
  split
  · rename_i g
    rw [← h1]
    have hd : dtT D = 48 :: (dtT D).drop 1 := by
      match D, h with
      | [], h => simp at h
      | a :: l, h =>
        have : a = 48 := g
        subst this
        simp [dtT]
    conv => rhs; rw [hd]
    rw [dn_cons, dn_cons]; rfl
  · exact h1
/-- The digits of a value's text make its amount. -/
theorem dn_edL {D : List UInt8} (W : Nat) (c : UInt8) (neg zero : Bool) (f : Int) (hz : zero = true → dn 0 D = 0) (h89 : c = 89 → D.length = 4 ∨ D.length = 6 ∨ D.length = 8) :
    dn 0 (edL D W c neg zero f) = dn 0 D := by
  unfold edL
  split
  · rfl
  split
  · exact dn_dt D (h89 (by assumption))
  split
  · exact dn_sup D _ (Nat.le_refl _)
  have hb : ∀ b ∈ bhL c, isDg b = false := by
    unfold bhL
    split
    · decide
    · split <;> decide
  have h1 : dn 0 (bodyL D W c neg zero) = dn 0 D := by
    unfold bodyL
    split
    · rename_i g
      rw [dn_rep _ _ _ (by decide), hz (by simp at g; exact g.1)]
    · rw [dn_app, dn_tx]
      split
      · exact dn_none hb _
      · exact dn_rep _ _ _ (by decide)
  unfold frL
  split
  · split
    · rw [dn_fl _ _ (by decide), h1]
    · rw [dn_cons]; exact h1
  · split
    · rw [dn_fl _ _ (by decide), h1]
    · split
      · rw [dn_st, h1]
      · exact h1
theorem spT_len (D E : List UInt8) (cmm : Bool) (W : Nat) : ∀ q, (spT D cmm W q).length = (spT E cmm W q).length
  | 0 => rfl
  | q + 1 => by
    rw [spT, spT, List.length_append, List.length_append, List.length_append, List.length_append, List.length_append, List.length_append, spT_len D E cmm W q]; rfl
theorem fl_len (T : List UInt8) (c : UInt8) : (flL T c).length = T.length + 1 := by
  have := lb_le T
  unfold flL
  split
  · simp; omega
  · simp
theorem st_len (T : List UInt8) : (stL T).length = T.length := by
  have := lb_le T
  unfold stL
  split
  · simp; omega
  · rfl
theorem dt_len (D E : List UInt8) (h : D.length = E.length) (h4 : D.length = 4 ∨ D.length = 6 ∨ D.length = 8) : (dtL D).length = (dtL E).length := by
  have key : ∀ X : List UInt8, X.length = D.length → (dtL X).length = (dtT X).length ∧ (dtT X).length = 5 + (if 4 < D.length then D.length - 3 else 0) := by
    intro X hX
    have e1 : (dtT X).length = 5 + (if 4 < D.length then D.length - 3 else 0) := by
      unfold dtT
      rw [hX]
      simp only [List.length_append, List.length_take, List.length_drop, List.length_singleton, hX]
      split
      · simp [hX]; omega
      · simp; omega
    refine ⟨?_, e1⟩
    unfold dtL
    split
    · rw [List.length_cons, List.length_drop]; omega
    · rfl
  rw [(key D rfl).1, (key D rfl).2, (key E h.symm).1, (key E h.symm).2]
/-- All texts by a code have as many characters. -/
theorem edL_len (D E : List UInt8) (W : Nat) (c : UInt8) (n z n' z' : Bool) (f : Int) (h : D.length = E.length) (h89 : c = 89 → D.length = 4 ∨ D.length = 6 ∨ D.length = 8) :
    (edL D W c n z f).length = (edL E W c n' z' f).length := by
  unfold edL
  split
  · exact h
  split
  · exact dt_len D E h (h89 (by assumption))
  split
  · rw [sup_len _ _ (fz_le D), sup_len _ _ (fz_le E), h]
  have hb : (bodyL D W c n z).length = (bodyL E W c n' z').length := by
    rw [body_len, body_len, h, spT_len D E]
  unfold frL
  split
  · have : ∀ (T : List UInt8) (b : Bool), (if b = true then flL T 45 else 32 :: T).length = T.length + 1 := fun T b => by
      split
      · exact fl_len T 45
      · simp
    rw [this, this, hb]
  · split
    · rw [fl_len, fl_len, hb]
    · split
      · rw [st_len, st_len, hb]
      · exact hb
theorem dn_dcS (k : Nat) : ∀ u, u ≤ k → dn 0 (dcS u).data.toList = u := by
  have key : ∀ a r, r < 10 → dn a [UInt8.ofNat (48 + r)] = 10 * a + r := by
    intro a r hr
    have h1 : (UInt8.ofNat (48 + r)).toNat = 48 + r := by rw [UInt8.toNat_ofNat']; omega
    have h2 : isDg (UInt8.ofNat (48 + r)) = true := by unfold isDg; rw [h1]; simp; omega
    rw [dn_cons, if_pos h2, h1]
    show 10 * a + (48 + r - 48) = _
    omega
  induction k with
  | zero =>
    intro u hu
    obtain rfl : u = 0 := by omega
    rw [dcS_lo (u := 0) (by decide)]
    exact key 0 0 (by decide)
  | succ k ih =>
    intro u hu
    by_cases h : u < 10
    · rw [dcS_lo h]
      show dn 0 [UInt8.ofNat (48 + u)] = u
      rw [key 0 u h]; omega
    · rw [dcS_hi h, ByteArray.data_append, Array.toList_append, dn_app, ih (u / 10) (by omega)]
      show dn (u / 10) [UInt8.ofNat (48 + u % 10)] = u
      rw [key _ _ (by omega)]; omega
theorem dn_ds (L u : Nat) : dn 0 (dsL L u) = u := by
  unfold dsL
  rw [dn_app, dn_zc (fun b hb => by rw [List.eq_of_mem_replicate hb]; rfl), dn_dcS u u (Nat.le_refl _)]
theorem dn_mono (l : List UInt8) : ∀ a, a ≤ dn a l := by
  induction l with
  | nil => intro a; exact Nat.le_refl _
  | cons b l ih =>
    intro a
    rw [dn_cons]
    split
    · exact Nat.le_trans (by omega) (ih _)
    · exact ih _
theorem dn_take (l : List UInt8) (k : Nat) : dn 0 (l.take k) ≤ dn 0 l := by
  conv => rhs; rw [← List.take_append_drop k l, dn_app]
  exact dn_mono _ _
theorem dn_step (l : List UInt8) (k : Nat) (h : k < l.length) : dn 0 (l.take (k + 1)) = if isDg (dAt l k) then 10 * dn 0 (l.take k) + ((dAt l k).toNat - 48) else dn 0 (l.take k) := by
  rw [List.take_succ_eq_append_getElem h, dn_app]
  have e : l[k] = dAt l k := by simp [dAt, List.getD_eq_getElem?_getD, List.getElem?_eq_getElem h]
  rw [e]; rfl
end Go.Proofs.YtmdpejllbalnnaaGreatDoor
namespace Go.Proofs.YtmdpejllbalnnaaGreatDoor
set_option linter.unusedSimpArgs false
set_option linter.unusedVariables false
open Go.RowKit

/-- How many digits a text has. -/
def dc (l : List UInt8) : Nat := (l.filter isDg).length
theorem dc_app (a b : List UInt8) : dc (a ++ b) = dc a + dc b := by unfold dc; rw [List.filter_append, List.length_append]
theorem dc_cons (b : UInt8) (l : List UInt8) : dc (b :: l) = (if isDg b then 1 else 0) + dc l := by
  unfold dc
  rw [List.filter_cons]
  split
  · rw [List.length_cons]; omega
  · omega
theorem dc_le (l : List UInt8) : dc l ≤ l.length := List.length_filter_le _ _
theorem dc_none {l : List UInt8} (h : ∀ b ∈ l, isDg b = false) : dc l = 0 := by
  unfold dc
  rw [List.filter_eq_nil_iff.2 (fun b hb => by rw [h b hb]; simp)]; rfl
theorem dc_rep (n : Nat) (c : UInt8) (h : isDg c = false) : dc (List.replicate n c) = 0 :=
  dc_none (fun b hb => by rw [List.eq_of_mem_replicate hb]; exact h)
theorem dc_drop (l : List UInt8) (n : Nat) : dc (l.drop n) ≤ dc l := by
  conv => rhs; rw [← List.take_append_drop n l, dc_app]
  omega
theorem dc_sup (T : List UInt8) (m : Nat) : dc (sup T m) ≤ dc T := by
  unfold sup
  rw [dc_app, dc_rep _ _ (by decide)]
  have := dc_drop T m
  omega
theorem dc_spT (D : List UInt8) (cmm : Bool) (W : Nat) : ∀ q, dc (spT D cmm W q) ≤ q
  | 0 => by simp [spT, dc]
  | q + 1 => by
    have ih := dc_spT D cmm W q
    have e1 : dc (if q = W then [46] else []) = 0 := by split <;> rfl
    have e2 : dc (if (cm cmm W q && decide (q < W)) = true then [44] else []) = 0 := by split <;> rfl
    have e3 := dc_le [dAt D q]
    rw [spT, dc_app, dc_app, dc_app, e1, e2]
    simp only [List.length_singleton] at e3
    omega
theorem dc_fl (T : List UInt8) (c : UInt8) (hc : isDg c = false) : dc (flL T c) ≤ dc T := by
  unfold flL
  split
  · rw [dc_app, dc_app, dc_rep _ _ (by decide), dc_none (l := [c]) (by simpa using hc)]
    have := dc_drop T (lb T)
    omega
  · rw [dc_cons, if_neg (by decide)]; omega
theorem dc_st (T : List UInt8) : dc (stL T) ≤ dc T := by
  unfold stL
  split
  · rw [dc_app, dc_rep _ _ (by decide)]
    have := dc_drop T (lb T)
    omega
  · exact Nat.le_refl _
theorem dc_dt (D : List UInt8) : dc (dtL D) ≤ D.length := by
  have h1 : dc (dtT D) ≤ D.length := by
    unfold dtT
    rw [dc_app, dc_app, dc_app]
    have a1 := dc_le (D.take 2)
    have a2 := dc_le ((D.drop 2).take 2)
    have a3 : dc (if 4 < D.length then 47 :: D.drop 4 else []) ≤ D.length - 4 := by
      split
      · rw [dc_cons, if_neg (by decide)]
        have := dc_le (D.drop 4)
        rw [List.length_drop] at this
        omega
      · exact Nat.zero_le _
    have a4 : dc [47] = 0 := by decide
    rw [List.length_take] at a1
    rw [List.length_take, List.length_drop] at a2
    omega
  unfold dtL
  split
  · rw [dc_cons, if_neg (by decide)]
    have := dc_drop (dtT D) 1
    omega
  · exact h1
/-- A text by a code has no more digits than the value's type. -/
theorem dc_edL (D : List UInt8) (W : Nat) (c : UInt8) (neg zero : Bool) (f : Int) : dc (edL D W c neg zero f) ≤ D.length := by
  unfold edL
  split
  · exact dc_le D
  split
  · exact dc_dt D
  split
  · exact Nat.le_trans (dc_sup _ _) (dc_le D)
  have hb : ∀ b ∈ bhL c, isDg b = false := by
    unfold bhL
    split
    · decide
    · split <;> decide
  have h1 : dc (bodyL D W c neg zero) ≤ D.length := by
    unfold bodyL
    split
    · rw [dc_rep _ _ (by decide)]; omega
    · have h2 : dc (txL D (cmB c) W) ≤ D.length := Nat.le_trans (dc_sup _ _) (dc_spT D (cmB c) W D.length)
      rw [dc_app]
      split
      · rw [dc_none hb]; omega
      · rw [dc_rep _ _ (by decide)]; omega
  unfold frL
  split
  · split
    · exact Nat.le_trans (dc_fl _ _ (by decide)) h1
    · rw [dc_cons, if_neg (by decide)]; omega
  · split
    · exact Nat.le_trans (dc_fl _ _ (by decide)) h1
    · split
      · exact Nat.le_trans (dc_st _) h1
      · exact h1
/-- The number of the first digits, at most L of them, and how many they are. -/
def amF (L : Nat) (S : List UInt8) : Nat → Nat × Nat
  | 0 => (0, 0)
  | q + 1 =>
    let p := amF L S q
    if p.2 < L ∧ isDg (dAt S q) = true then (10 * p.1 + ((dAt S q).toNat - 48), p.2 + 1) else p
theorem amF_le (L : Nat) (S : List UInt8) : ∀ q, (amF L S q).2 ≤ L ∧ (amF L S q).1 < 10 ^ (amF L S q).2
  | 0 => by simp [amF]
  | q + 1 => by
    obtain ⟨h1, h2⟩ := amF_le L S q
    simp only [amF]
    split
    · rename_i g
      have hd : 48 ≤ (dAt S q).toNat ∧ (dAt S q).toNat ≤ 57 := by have := g.2; unfold isDg at this; simpa using this
      refine ⟨by omega, ?_⟩
      show 10 * (amF L S q).1 + ((dAt S q).toNat - 48) < 10 ^ ((amF L S q).2 + 1)
      rw [Nat.pow_succ]; omega
    · exact ⟨h1, h2⟩
/-- Once there are L of them, nothing is added. -/
theorem amF_stop (L : Nat) (S : List UInt8) (q : Nat) (h : (amF L S q).2 = L) : ∀ n, amF L S (q + n) = amF L S q
  | 0 => rfl
  | n + 1 => by
    have ih := amF_stop L S q h n
    rw [← Nat.add_assoc]
    simp only [amF]
    rw [ih, if_neg (by omega)]
/-- A text with no more digits than L: all of them. -/
theorem amF_all (L : Nat) (S : List UInt8) (h : dc S ≤ L) : ∀ q, q ≤ S.length → amF L S q = (dn 0 (S.take q), dc (S.take q))
  | 0, _ => by simp [amF, dn, dc]
  | q + 1, hq => by
    have ih := amF_all L S h q (by omega)
    have hs : dc (S.take (q + 1)) = dc (S.take q) + (if isDg (dAt S q) then 1 else 0) := by
      rw [List.take_succ_eq_append_getElem (by omega), dc_app, dc_cons]
      have e : S[q] = dAt S q := by simp [dAt, List.getD_eq_getElem?_getD, List.getElem?_eq_getElem (show q < S.length by omega)]
      rw [e]; rfl
    have hm : dc (S.take (q + 1)) ≤ L := by
      have : dc S = dc (S.take (q + 1)) + dc (S.drop (q + 1)) := by rw [← dc_app, List.take_append_drop]
      omega
    simp only [amF]
    rw [ih, dn_step S q (by omega), hs]
    cases hd : isDg (dAt S q)
    · simp
    · rw [hs, hd] at hm
      simp only [if_true] at hm
      rw [if_pos ⟨by show dc (S.take q) < L; omega, rfl⟩]
      simp
end Go.Proofs.YtmdpejllbalnnaaGreatDoor
namespace Go.Proofs.YtmdpejllbalnnaaGreatDoor
set_option linter.unusedSimpArgs false
set_option linter.unusedVariables false
open Go.RowKit

theorem hby_list (T : List UInt8) : ∀ q (h : q < (BL T).size), (((BL T)[q]'h).toNat : Int) = ((dAt T q).toNat : Int) := fun q h => by rw [BL_at]
theorem blank_test (b : UInt8) (z : Bool) (h : (b == 32) = z) : (((b.toNat : Int)) != 32) = !z := by
  have := u8_eq b 32
  rw [h] at this
  show (!((b.toNat : Int) == 32)) = !z
  rw [← this]; rfl
set_option maxHeartbeats 4000000 in
set_option maxRecDepth 100000 in
theorem starred_any (T : List UInt8) (L : Nat) (hL : T.length = L) (hL1 : L ≤ 300) (w : World) :
    Calls Tryz.prog 69 #[.string (BL T)] w fun e w' => e = .returned (.string (BL (stL T))) ∧ Gr w w' := by
  have hsz : (BL T).size = L := by rw [BL_size]; exact hL
  have HA := Lib.hid (hby_list T)
  have hcu := fun (q : Nat) (h : q ≤ L) => cut_i (BL T) (q : Int) q rfl (by omega)
  have hcu2 : ∀ (q : Nat), q ≤ L → ∀ w, (Instr.slice 9 (.string (BL T)) (some (.int .i64 (q : Int))) none none).run Tryz.prog w = .ok (.string (BL (T.drop q))) w := fun q h w => by
    rw [hcu q h w, ext_all, BL_list]
  have HC := Lib.hid hcu2
  have HL := Lib.hid hL
  have HR := Lib.hid fun (q : Nat) (h : q ≤ L) => bRep_any 42 42 rfl q (q : Int) rfl (by omega)
  clear hcu hcu2 hL
  obtain ⟨X, hX⟩ : ∃ X, BL T = X := ⟨_, rfl⟩
  rw [hX] at hsz HA HC ⊢
  have HX := Lib.hid hX
  clear hX
  go_enter Tryz.func69, Tryz.ntmps69
  go_wp2
  go_loop [3] (fun i => ∃ q : Nat, q ≤ L ∧ i = .int .i64 q ∧ Hid (q ≤ lb T)) (fun i => L - (intOf i).toNat)
  case atStart => exact ⟨0, by omega, rfl, Lib.hid (by omega)⟩
  case round =>
    obtain ⟨q, hq, rfl, hr⟩ := hrel
    by_cases hlt : q < L
    · have hqx : q < X.size := by omega
      have hby := HA.out q hqx
      obtain ⟨z, hz⟩ : ∃ z, (dAt T q == 32) = z := ⟨_, rfl⟩
      have hbt := blank_test _ _ hz
      have HZ := Lib.hid hz
      clear hz
      generalize ((dAt T q).toNat : Int) = y at *
      cases z
      · have E : Hid (lb T = q) := Lib.hid (lb_stop hr.out (by have := HZ.out; simpa using this)).symm
        have E2 : Hid (BL (List.replicate q 42 ++ T.drop q) = BL (stL T)) := Lib.hid (by
          unfold stL
          rw [if_pos (by rw [E.out, HL.out]; exact hlt), E.out])
        have hsl := HC.out q hq
        have hrp := HR.out q hq
        have hlq : (T.drop q).length ≤ 300 := by have := HL.out; simp; omega
        have had := fun w => add_bl (List.replicate q 42) (T.drop q) (BL (List.replicate q 42)) (BL (T.drop q)) rfl rfl (by rw [List.length_replicate]; omega) w
        clear hlq
        rw [E2.out] at had
        generalize BL (List.replicate q 42) = Z at *
        generalize BL (T.drop q) = U at *
        go_wp2_with fail
        go_region_with (go_at_call 54; (with_reducible refine (hrp _).mono ?_); rintro e w2 ⟨rfl, hb2⟩)
        all_goals
          go_wp2_with fail
          go_ret
          exact ⟨rfl, (by repeat (first | (with_reducible exact Gr.refl _) | (with_reducible assumption) | (with_reducible refine Gr.alloc ?_ _) | (with_reducible refine Gr.drew ?_) | (with_reducible refine Gr.drewN ?_ _) | (with_reducible refine Gr.setCell ?_ (by simp <;> omega) _) | (with_reducible refine Gr.trans ?_ (by with_reducible assumption)) | exact Gr.refl _ | assumption | refine Gr.alloc ?_ _ | refine Gr.drew ?_ | refine Gr.drewN ?_ _ | refine Gr.setCell ?_ (by simp <;> omega) _ | refine Gr.trans ?_ (by assumption)))⟩
      · have E : Hid (q + 1 ≤ lb T) := Lib.hid (lb_step hr.out (by have := HL.out; omega) (by have := HZ.out; simpa using this))
        go_wp2
        go_round
        case rel => exact ⟨q + 1, by omega, by go_num, E⟩
        case measure => simp [intOf]; omega
    · obtain rfl : q = L := by omega
      have E : Hid (X = BL (stL T)) := Lib.hid (by
        have h1 := hr.out
        have h2 := HL.out
        rw [← HX.out]
        unfold stL
        rw [if_neg (by omega)])
      go_wp2
      go_ret
      exact ⟨ret_str E.out, (by repeat (first | (with_reducible exact Gr.refl _) | (with_reducible assumption) | (with_reducible refine Gr.alloc ?_ _) | (with_reducible refine Gr.drew ?_) | (with_reducible refine Gr.drewN ?_ _) | (with_reducible refine Gr.setCell ?_ (by simp <;> omega) _) | (with_reducible refine Gr.trans ?_ (by with_reducible assumption)) | exact Gr.refl _ | assumption | refine Gr.alloc ?_ _ | refine Gr.drew ?_ | refine Gr.drewN ?_ _ | refine Gr.setCell ?_ (by simp <;> omega) _ | refine Gr.trans ?_ (by assumption)))⟩
set_option maxHeartbeats 4000000 in
set_option maxRecDepth 100000 in
theorem floated_any (T : List UInt8) (L : Nat) (hL : T.length = L) (hL1 : L ≤ 300) (c8 : UInt8) (c : Int) (hc : c = c8.toNat) (w : World) :
    Calls Tryz.prog 68 #[.string (BL T), .int .u8 c] w fun e w' => e = .returned (.string (BL (flL T c8))) ∧ Gr w w' := by
  have hadd0 : ∀ w, (Op.stringOp .add ⟨#[32]⟩ (BL T)).run Tryz.prog w = .ok (.string (BL (32 :: T))) w := fun w => add_bl [32] T ⟨#[32]⟩ (BL T) rfl rfl (by simp; omega) w
  have hsz : (BL (32 :: T)).size = L + 1 := by rw [BL_size, List.length_cons, hL]
  have hat := hby_list (32 :: T)
  have hat2 : ∀ q (h : q + 1 < (BL (32 :: T)).size), (((BL (32 :: T))[q + 1]'h).toNat : Int) = ((dAt T q).toNat : Int) := fun q h => by rw [hat]; rfl
  have HA := Lib.hid hat2
  have hcu : ∀ (q : Nat), q ≤ L → ∀ w, (Instr.slice 9 (.string (BL (32 :: T))) (some (.int .i64 ((q : Int) + 1))) none none).run Tryz.prog w = .ok (.string (BL (T.drop q))) w := fun q h w => by
    rw [cut_i (BL (32 :: T)) ((q : Int) + 1) (q + 1) (by omega) (by omega) w, ext_all, BL_list]; rfl
  have HC := Lib.hid hcu
  have hcj : ∀ (q : Nat), q ≤ L → ∀ w, (Instr.slice 9 (.string (BL (32 :: T))) none (some (.int .i64 (q : Int))) none).run Tryz.prog w = .ok (.string (BL ((32 :: T).take q))) w := fun q h w => by
    rw [cut_j (BL (32 :: T)) (q : Int) q rfl (by omega) w, BL_cut]; rfl
  have HJ := Lib.hid hcj
  have HL := Lib.hid hL
  have hcv : ∀ (W : World) b, W.cell? ⟨b, 0, none⟩ = some (.int .u8 c) → (convert 80 9 (.slice (some ⟨b, 0, none⟩) 1 1)).run Tryz.prog W = .ok (.string (BL [c8])) W := fun W b h => by
    have h1 := str_one h
    have e : strOfNums [c] = BL [c8] := by rw [hc]; exact bI_str [c8]
    rwa [e] at h1
  have HV := Lib.hid hcv
  clear hat hat2 hcu hcj hL hcv hc
  obtain ⟨X, hX⟩ : ∃ X, BL (32 :: T) = X := ⟨_, rfl⟩
  rw [hX] at hsz HA HC HJ hadd0
  have HX := Lib.hid hX
  clear hX
  go_enter Tryz.func68, Tryz.ntmps68
  go_wp2
  go_loop [5] (fun i => ∃ q : Nat, q ≤ L ∧ i = .int .i64 ((q : Int) + 1) ∧ Hid (q ≤ lb T)) (fun i => L + 1 - (intOf i).toNat)
  case atStart => exact ⟨0, by omega, rfl, Lib.hid (by omega)⟩
  case round =>
    obtain ⟨q, hq, rfl, hr⟩ := hrel
    by_cases hlt : q < L
    · have hqx : q + 1 < X.size := by omega
      have hby := HA.out q hqx
      have hix : ((q : Int) + 1).toNat = q + 1 := by omega
      obtain ⟨z, hz⟩ : ∃ z, (dAt T q == 32) = z := ⟨_, rfl⟩
      have hbt := blank_test _ _ hz
      have HZ := Lib.hid hz
      clear hz
      generalize ((dAt T q).toNat : Int) = y at *
      cases z
      · have E : Hid (lb T = q) := Lib.hid (lb_stop hr.out (by have := HZ.out; simpa using this)).symm
        have E2 : Hid (BL ((32 :: T).take q ++ [c8] ++ T.drop q) = BL (flL T c8)) := Lib.hid (by
          rw [← flL_at (by rw [E.out, HL.out]; exact hlt) c8, E.out])
        have hsl := HC.out q hq
        have hsj := HJ.out q hq
        have hsub : IntKind.i64.wrap ((q : Int) + 1 - 1) = q := by rw [IntWalk.i64_in _ (by omega)]; omega
        have h1 : ((32 :: T).take q).length ≤ 301 := by rw [List.length_take, List.length_cons, HL.out]; omega
        have h2 : (T.drop q).length ≤ 300 := by rw [List.length_drop, HL.out]; omega
        have had1 := fun w => add_bl ((32 :: T).take q) [c8] (BL ((32 :: T).take q)) (BL [c8]) rfl rfl (by simp only [List.length_singleton]; omega) w
        have had2 := fun w => add_bl ((32 :: T).take q ++ [c8]) (T.drop q) (BL ((32 :: T).take q ++ [c8])) (BL (T.drop q)) rfl rfl (by rw [List.length_append, List.length_singleton]; omega) w
        rw [E2.out] at had2
        have hv1 : ∀ W : World, (convert 80 9 (.slice (some ⟨W.heap.size, 0, none⟩) 1 1)).run Tryz.prog (W.alloc (.cells #[.int .u8 c] 5)) = .ok (.string (BL [c8])) (W.alloc (.cells #[.int .u8 c] 5)) := fun W => HV.out _ _ (by simp [go_sem])
        have hv2 : ∀ W : World, (convert 80 9 (.slice (some ⟨W.heap.size, 0, none⟩) 1 1)).run Tryz.prog (W.alloc (.cells #[.int .u8 c] 5)).drew = .ok (.string (BL [c8])) (W.alloc (.cells #[.int .u8 c] 5)).drew := fun W => HV.out _ _ (by simp [go_sem])
        clear h1 h2
        generalize BL ((32 :: T).take q ++ [c8]) = Y at *
        generalize BL ((32 :: T).take q) = Z at *
        generalize BL [c8] = V at *
        generalize BL (T.drop q) = U at *
        go_wp2_with fail
        go_region
        all_goals
          go_wp2_with fail
          go_ret
          exact ⟨rfl, (by repeat (first | (with_reducible exact Gr.refl _) | (with_reducible assumption) | (with_reducible refine Gr.alloc ?_ _) | (with_reducible refine Gr.drew ?_) | (with_reducible refine Gr.drewN ?_ _) | (with_reducible refine Gr.setCell ?_ (by simp <;> omega) _) | (with_reducible refine Gr.trans ?_ (by with_reducible assumption)) | exact Gr.refl _ | assumption | refine Gr.alloc ?_ _ | refine Gr.drew ?_ | refine Gr.drewN ?_ _ | refine Gr.setCell ?_ (by simp <;> omega) _ | refine Gr.trans ?_ (by assumption)))⟩
      · have E : Hid (q + 1 ≤ lb T) := Lib.hid (lb_step hr.out (by have := HL.out; omega) (by have := HZ.out; simpa using this))
        go_wp2
        go_round
        case rel => exact ⟨q + 1, by omega, by go_num, E⟩
        case measure => simp [intOf]; omega
    · obtain rfl : q = L := by omega
      have E : Hid (X = BL (flL T c8)) := Lib.hid (by
        have h1 := hr.out
        have h2 := HL.out
        rw [← HX.out]
        unfold flL
        rw [if_neg (by omega)])
      go_wp2
      go_ret
      exact ⟨ret_str E.out, (by repeat (first | (with_reducible exact Gr.refl _) | (with_reducible assumption) | (with_reducible refine Gr.alloc ?_ _) | (with_reducible refine Gr.drew ?_) | (with_reducible refine Gr.drewN ?_ _) | (with_reducible refine Gr.setCell ?_ (by simp <;> omega) _) | (with_reducible refine Gr.trans ?_ (by with_reducible assumption)) | exact Gr.refl _ | assumption | refine Gr.alloc ?_ _ | refine Gr.drew ?_ | refine Gr.drewN ?_ _ | refine Gr.setCell ?_ (by simp <;> omega) _ | refine Gr.trans ?_ (by assumption)))⟩
set_option maxHeartbeats 4000000 in
set_option maxRecDepth 100000 in
theorem date_any (D : List UInt8) (L : Nat) (hL : D.length = L) (hL1 : L ≤ 64) (w : World) :
    Calls Tryz.prog 66 #[.string (BL D)] w fun e w' => e = .returned (.string (BL (dtO D L))) ∧ Gr w w' := by
  have hsz : (BL D).size = L := by rw [BL_size]; exact hL
  have HA := Lib.hid (hby_list D)
  have HC := Lib.hid fun (q : Nat) (h : q < L) => cut1 D q (by omega) ((q : Int) + 1) rfl
  have HL := Lib.hid hL
  clear hL
  generalize BL D = X at *
  go_enter Tryz.func66, Tryz.ntmps66
  go_wp2
  go_loop [3, 4] (fun o i => ∃ q : Nat, q ≤ L ∧ i = .int .i64 q ∧ o = .string (BL (dtO D q))) (fun _ i => L - (intOf i).toNat)
  case atStart => exact ⟨0, by omega, rfl, rfl⟩
  case round =>
    obtain ⟨q, hq, rfl, rfl⟩ := hrel
    by_cases hlt : q < L
    · have hst := dtO_step D q
      have hol := dtO_len D q
      rw [HL.out] at hst
      have hqx : q < X.size := by omega
      have h0x : 0 < X.size := by omega
      have hby := HA.out 0 h0x
      have hc1 := HC.out q hlt
      generalize dtO D q = O at *
      have a47 := fun w => add_bl O [47] (BL O) ⟨#[47]⟩ rfl rfl (by simp; omega) w
      have a32 := fun w => add_bl O [32] (BL O) ⟨#[32]⟩ rfl rfl (by simp; omega) w
      have ad := fun w => add_bl O [dAt D q] (BL O) (BL [dAt D q]) rfl rfl (by simp; omega) w
      have bd := fun w => add_bl (O ++ [47]) [dAt D q] (BL (O ++ [47])) (BL [dAt D q]) rfl rfl (by simp; omega) w
      obtain ⟨z, hz⟩ : ∃ z, (dAt D 0 == 48) = z := ⟨_, rfl⟩
      have h48 : (((dAt D 0).toNat : Int) == 48) = z := by rw [← hz]; exact u8_eq (dAt D 0) 48
      have hz2 : (dAt D 0 = 48) = (z = true) := by rw [← hz]; simp
      simp only [hz2] at hst
      have HS := Lib.hid hst
      clear hst hol hz hz2
      generalize ((dAt D 0).toNat : Int) = y at *
      generalize dAt D q = d at *
      by_cases q0 : q = 0
      · subst q0
        have hc2 : ∀ w, (Instr.slice 9 (.string X) (some (.int .i64 0)) (some (.int .i64 1)) none).run Tryz.prog w = .ok (.string (BL [d])) w := fun w => hc1 w
        cases z
        all_goals
          go_wp2
          go_round
          case rel => exact ⟨0 + 1, by omega, by go_num, by rw [HS.out]; simp⟩
          case measure => simp [intOf]; omega
      · have n0 : ((q : Int) == 0) = false := by simp [q0]
        by_cases q2 : q = 2
        · subst q2
          have hc2 : ∀ w, (Instr.slice 9 (.string X) (some (.int .i64 2)) (some (.int .i64 3)) none).run Tryz.prog w = .ok (.string (BL [d])) w := fun w => hc1 w
          go_wp2
          go_round
          case rel => exact ⟨2 + 1, by omega, by go_num, by rw [HS.out]; simp⟩
          case measure => simp [intOf]; omega
        · have n2 : ((q : Int) == 2) = false := by simp; omega
          by_cases q4 : q = 4
          · subst q4
            have hc2 : ∀ w, (Instr.slice 9 (.string X) (some (.int .i64 4)) (some (.int .i64 5)) none).run Tryz.prog w = .ok (.string (BL [d])) w := fun w => hc1 w
            have b4 : decide ((4 : Int) < (L : Int)) = true := by simp; omega
            go_wp2
            go_round
            case rel => exact ⟨4 + 1, by omega, by go_num, by rw [HS.out]; simp [hlt]⟩
            case measure => simp [intOf]; omega
          · have n4 : ((q : Int) == 4) = false := by simp; omega
            have HN := Lib.hid (And.intro q0 (And.intro q2 q4))
            clear q0 q2 q4
            go_wp2
            go_round
            case rel => exact ⟨q + 1, by omega, by go_num, by rw [HS.out]; simp [HN.out.1, HN.out.2.1, HN.out.2.2]⟩
            case measure => simp [intOf]; omega
    · obtain rfl : q = L := by omega
      go_wp2
      go_ret
      exact ⟨rfl, (by repeat (first | (with_reducible exact Gr.refl _) | (with_reducible assumption) | (with_reducible refine Gr.alloc ?_ _) | (with_reducible refine Gr.drew ?_) | (with_reducible refine Gr.drewN ?_ _) | (with_reducible refine Gr.setCell ?_ (by simp <;> omega) _) | (with_reducible refine Gr.trans ?_ (by with_reducible assumption)) | exact Gr.refl _ | assumption | refine Gr.alloc ?_ _ | refine Gr.drew ?_ | refine Gr.drewN ?_ _ | refine Gr.setCell ?_ (by simp <;> omega) _ | refine Gr.trans ?_ (by assumption)))⟩
end Go.Proofs.YtmdpejllbalnnaaGreatDoor
