import Derived.Test.Ytmejhccdiimmlaa0
namespace Go.Proofs.Ytmejhccdiimmlaa
set_option linter.unusedSimpArgs false
set_option linter.unusedVariables false
open Go.RowKit

def isNum (k : Int) : Bool := decide (k = 1) || decide (k = 2) || decide (k = 3)

theorem isNumeric_any (k l s : Int) (w : World) :
    Calls Try.prog 93 #[.agg #[.int .i64 k, .int .i64 l, .int .i64 s]] w fun e w' => e = .returned (.bool (isNum k)) ∧ Gr w w' := by
  go_enter Try.func93, Try.ntmps93
  go_wp2
  all_goals (go_ret; exact ⟨ret_bool (by grind [isNum]), (by repeat (first | exact Gr.refl _ | assumption | refine Gr.alloc ?_ _ | refine Gr.drew ?_ | refine Gr.drewN ?_ _ | refine Gr.setCell ?_ (by simp <;> omega) _ | refine Gr.trans ?_ (by assumption)))⟩)

def rightLen (k l : Int) : Bool :=
  if k = 0 then decide (1 ≤ l ∧ l ≤ 256) else if k = 3 then decide (l = 4 ∨ l = 9) else if k = 4 then decide (l = 0) else decide (1 ≤ l ∧ l ≤ 15)

theorem rightLength_any (k l s : Int) (w : World) :
    Calls Try.prog 47 #[.agg #[.int .i64 k, .int .i64 l, .int .i64 s]] w fun e w' => e = .returned (.bool (rightLen k l)) ∧ Gr w w' := by
  go_enter Try.func47, Try.ntmps47
  go_wp2
  all_goals (go_ret; exact ⟨ret_bool (by grind [rightLen]), (by repeat (first | exact Gr.refl _ | assumption | refine Gr.alloc ?_ _ | refine Gr.drew ?_ | refine Gr.drewN ?_ _ | refine Gr.setCell ?_ (by simp <;> omega) _ | refine Gr.trans ?_ (by assumption)))⟩)

def mostScale (k l : Int) : Int := if isNum k then l else 0
theorem greatestScale_any (k l s : Int) (w : World) :
    Calls Try.prog 48 #[.agg #[.int .i64 k, .int .i64 l, .int .i64 s]] w fun e w' => e = .returned (.int .i64 (mostScale k l)) ∧ Gr w w' := by
  go_enter Try.func48, Try.ntmps48
  go_wp2_with (go_at_call 93; refine (isNumeric_any _ _ _ _).mono ?_; rintro e w1 ⟨rfl, hb⟩; obtain ⟨hc, hf⟩ := hb.cells; have hz : w.heap.size < w1.heap.size := by have h := hb.size; (try simp at h); omega)
  all_goals (go_ret; exact ⟨ret_int (by grind [mostScale]), (by repeat (first | exact Gr.refl _ | assumption | refine Gr.alloc ?_ _ | refine Gr.drew ?_ | refine Gr.drewN ?_ _ | refine Gr.setCell ?_ (by simp <;> omega) _ | refine Gr.trans ?_ (by assumption)))⟩)

def typeErr (k l s : Int) : Int := if k < 0 ∨ 5 ≤ k then 4 else if rightLen k l = false then 18 else if s < 0 ∨ mostScale k l < s then 3 else 0

theorem CheckType_any (k l s : Int) (w : World) :
    Calls Try.prog 18 #[.agg #[.int .i64 k, .int .i64 l, .int .i64 s]] w fun e w' => e = .returned (.int .i64 (typeErr k l s)) ∧ Gr w w' := by
  by_cases hs : s < 0
  · go_enter Try.func18, Try.ntmps18
    go_wp2_with (go_at_call 47; refine (rightLength_any _ _ _ _).mono ?_; rintro e w1 ⟨rfl, hb⟩; obtain ⟨hc, hf⟩ := hb.cells; have hz : w.heap.size < w1.heap.size := by have h := hb.size; (try simp at h); omega)
    all_goals (try (go_ret; exact ⟨ret_int (by grind [typeErr]), (by repeat (first | exact Gr.refl _ | assumption | refine Gr.alloc ?_ _ | refine Gr.drew ?_ | refine Gr.drewN ?_ _ | refine Gr.setCell ?_ (by simp <;> omega) _ | refine Gr.trans ?_ (by assumption)))⟩))
    go_quiet (fail)
    go_wp2
    all_goals (go_ret; exact ⟨ret_int (by grind [typeErr]), (by repeat (first | exact Gr.refl _ | assumption | refine Gr.alloc ?_ _ | refine Gr.drew ?_ | refine Gr.drewN ?_ _ | refine Gr.setCell ?_ (by simp <;> omega) _ | refine Gr.trans ?_ (by assumption)))⟩)
  · have hs' : decide (s < 0) = false := by simpa using hs
    go_enter Try.func18, Try.ntmps18
    go_wp2_with (go_at_call 47; refine (rightLength_any _ _ _ _).mono ?_; rintro e w1 ⟨rfl, hb⟩; obtain ⟨hc, hf⟩ := hb.cells; have hz : w.heap.size < w1.heap.size := by have h := hb.size; (try simp at h); omega)
    all_goals (try (go_ret; exact ⟨ret_int (by grind [typeErr]), (by repeat (first | exact Gr.refl _ | assumption | refine Gr.alloc ?_ _ | refine Gr.drew ?_ | refine Gr.drewN ?_ _ | refine Gr.setCell ?_ (by simp <;> omega) _ | refine Gr.trans ?_ (by assumption)))⟩))
    go_region_held3 (fun w' => w'.cell? ⟨w.heap.size, 0, none⟩ = some (.int .i64 k) ∧ w'.cell? ⟨w.heap.size, 1, none⟩ = some (.int .i64 l) ∧ w'.cell? ⟨w.heap.size, 2, none⟩ = some (.int .i64 s)) (first | (go_keep; done) | ((try go_split_ands); (repeat' apply And.intro) <;> ((try simp only [World.cell?_drew]); first | assumption | (refine hb.keep ?_; (try simp only [World.cell?_drew]); first | assumption | (simp [*, go_sem]; done)) | (simp [*, go_sem]; done)))) ((go_at_call 48; refine (greatestScale_any _ _ _ _).mono ?_; rintro e w1 ⟨rfl, hb⟩; obtain ⟨hc, hf⟩ := hb.cells; have hz : w.heap.size < w1.heap.size := by have h := hb.size; (try simp at h); omega))
    go_wp2
    all_goals (go_ret; exact ⟨ret_int (by grind [typeErr]), (by repeat (first | exact Gr.refl _ | assumption | refine Gr.alloc ?_ _ | refine Gr.drew ?_ | refine Gr.drewN ?_ _ | refine Gr.setCell ?_ (by simp <;> omega) _ | refine Gr.trans ?_ (by assumption)))⟩)

def pick (b : Bool) (x : Int) : Int := if b then x else 0
theorem errorIf_any (b : Bool) (x : Int) (w : World) :
    Calls Try.prog 85 #[.bool b, .int .i64 x] w fun e w' => e = .returned (.int .i64 (pick b x)) ∧ w = w' := by
  go_enter Try.func85, Try.ntmps85
  go_wp2
  all_goals (go_ret; exact ⟨ret_int (by simp [pick, *]), rfl⟩)

/-- The first number that is not 0. -/
def first0 : List Int → Int
  | [] => 0
  | x :: l => if x = 0 then first0 l else x

theorem first0_drop (xs : List Int) (k : Nat) (h : k < xs.length) : first0 (xs.drop k) = if xs.getD k 0 = 0 then first0 (xs.drop (k + 1)) else xs.getD k 0 := by
  rw [List.drop_eq_getElem_cons h]; simp [first0, h]

theorem firstError_any (b n cap : Nat) (xs : List Int) (hn : xs.length = n) (hm : n ≤ 1000) (w : World)
    (hcell : ∀ i, i < n → w.cell? ⟨b, i, none⟩ = some (.int .i64 (xs.getD i 0))) :
    Calls Try.prog 62 #[.slice (some ⟨b, 0, none⟩) n cap] w fun e w' => e = .returned (.int .i64 (first0 xs)) ∧ w = w' := by
  have H := Lib.hid hn
  have HC := Lib.hid hcell
  clear hn hcell
  go_enter Try.func62, Try.ntmps62
  go_wp2
  go_loop [7] (fun i => ∃ k : Nat, k ≤ n ∧ i = .int .i64 k ∧ Hid (first0 (xs.drop k) = first0 xs)) (fun i => n - (intOf i).toNat)
  case atStart => exact ⟨0, Nat.zero_le _, rfl, rfl⟩
  case round =>
    obtain ⟨k, hk, rfl, hr⟩ := hrel
    by_cases hlt : k < n
    · have hc := HC.out k hlt
      have hd := Lib.hid (first0_drop xs k (by rw [H.out]; exact hlt))
      by_cases hz : xs.getD k 0 = 0
      · have hz' := Lib.hid hz
        rw [hz] at hc
        clear hz
        go_wp2
        go_round
        case rel => exact ⟨k + 1, by omega, by go_num, by have := hd.out; rw [if_pos hz'.out, hr.out] at this; exact this.symm⟩
        case measure => simp [intOf]; omega
      · obtain ⟨x, hx⟩ : ∃ x, xs.getD k 0 = x := ⟨_, rfl⟩
        rw [hx] at hc hz
        have hx' := Lib.hid hx
        clear hx
        go_wp2
        go_ret
        exact ⟨ret_int (by have := hd.out; rw [hx'.out, if_neg hz, hr.out] at this; exact this.symm), rfl⟩
    · have hkn := Lib.hid (show k = n by omega)
      go_wp2
      go_ret
      exact ⟨ret_int (by have := hr.out; rw [hkn.out, ← H.out, List.drop_length] at this; exact this), rfl⟩

theorem firstError2 (x0 x1 : Int) (b cap : Nat) (W : World) (h0 : W.cell? ⟨b, 0, none⟩ = some (.int .i64 x0)) (h1 : W.cell? ⟨b, 1, none⟩ = some (.int .i64 x1)) :
    Calls Try.prog 62 #[.slice (some ⟨b, 0, none⟩) 2 cap] W fun e w' => e = .returned (.int .i64 (first0 [x0, x1])) ∧ W = w' :=
  firstError_any b 2 cap [x0, x1] rfl (by decide) W (fun i hi => match i, hi with | 0, _ => h0 | 1, _ => h1 | i + 2, h => absurd h (by omega))

theorem firstError3 (x0 x1 x2 : Int) (b cap : Nat) (W : World) (h0 : W.cell? ⟨b, 0, none⟩ = some (.int .i64 x0)) (h1 : W.cell? ⟨b, 1, none⟩ = some (.int .i64 x1)) (h2 : W.cell? ⟨b, 2, none⟩ = some (.int .i64 x2)) :
    Calls Try.prog 62 #[.slice (some ⟨b, 0, none⟩) 3 cap] W fun e w' => e = .returned (.int .i64 (first0 [x0, x1, x2])) ∧ W = w' :=
  firstError_any b 3 cap [x0, x1, x2] rfl (by decide) W (fun i hi => match i, hi with | 0, _ => h0 | 1, _ => h1 | 2, _ => h2 | i + 3, h => absurd h (by omega))

theorem firstError4 (x0 x1 x2 x3 : Int) (b cap : Nat) (W : World) (h0 : W.cell? ⟨b, 0, none⟩ = some (.int .i64 x0)) (h1 : W.cell? ⟨b, 1, none⟩ = some (.int .i64 x1)) (h2 : W.cell? ⟨b, 2, none⟩ = some (.int .i64 x2)) (h3 : W.cell? ⟨b, 3, none⟩ = some (.int .i64 x3)) :
    Calls Try.prog 62 #[.slice (some ⟨b, 0, none⟩) 4 cap] W fun e w' => e = .returned (.int .i64 (first0 [x0, x1, x2, x3])) ∧ W = w' :=
  firstError_any b 4 cap [x0, x1, x2, x3] rfl (by decide) W (fun i hi => match i, hi with | 0, _ => h0 | 1, _ => h1 | 2, _ => h2 | 3, _ => h3 | i + 4, h => absurd h (by omega))

theorem firstError5 (x0 x1 x2 x3 x4 : Int) (b cap : Nat) (W : World) (h0 : W.cell? ⟨b, 0, none⟩ = some (.int .i64 x0)) (h1 : W.cell? ⟨b, 1, none⟩ = some (.int .i64 x1)) (h2 : W.cell? ⟨b, 2, none⟩ = some (.int .i64 x2)) (h3 : W.cell? ⟨b, 3, none⟩ = some (.int .i64 x3)) (h4 : W.cell? ⟨b, 4, none⟩ = some (.int .i64 x4)) :
    Calls Try.prog 62 #[.slice (some ⟨b, 0, none⟩) 5 cap] W fun e w' => e = .returned (.int .i64 (first0 [x0, x1, x2, x3, x4])) ∧ W = w' :=
  firstError_any b 5 cap [x0, x1, x2, x3, x4] rfl (by decide) W (fun i hi => match i, hi with | 0, _ => h0 | 1, _ => h1 | 2, _ => h2 | 3, _ => h3 | 4, _ => h4 | i + 5, h => absurd h (by omega))

theorem firstError6 (x0 x1 x2 x3 x4 x5 : Int) (b cap : Nat) (W : World) (h0 : W.cell? ⟨b, 0, none⟩ = some (.int .i64 x0)) (h1 : W.cell? ⟨b, 1, none⟩ = some (.int .i64 x1)) (h2 : W.cell? ⟨b, 2, none⟩ = some (.int .i64 x2)) (h3 : W.cell? ⟨b, 3, none⟩ = some (.int .i64 x3)) (h4 : W.cell? ⟨b, 4, none⟩ = some (.int .i64 x4)) (h5 : W.cell? ⟨b, 5, none⟩ = some (.int .i64 x5)) :
    Calls Try.prog 62 #[.slice (some ⟨b, 0, none⟩) 6 cap] W fun e w' => e = .returned (.int .i64 (first0 [x0, x1, x2, x3, x4, x5])) ∧ W = w' :=
  firstError_any b 6 cap [x0, x1, x2, x3, x4, x5] rfl (by decide) W (fun i hi => match i, hi with | 0, _ => h0 | 1, _ => h1 | 2, _ => h2 | 3, _ => h3 | 4, _ => h4 | 5, _ => h5 | i + 6, h => absurd h (by omega))

theorem checkValued_any (k l s : Int) (w : World) :
    Calls Try.prog 41 #[.agg #[.int .i64 k, .int .i64 l, .int .i64 s]] w fun e w' => e = .returned (.int .i64 (first0 [typeErr k l s, pick (k == 4) 17])) ∧ Gr w w' := by
  go_enter Try.func41, Try.ntmps41
  go_wp2
  go_region_held3 (fun w' => w'.cell? ⟨w.heap.size, 0, none⟩ = some (.int .i64 k) ∧ w'.cell? ⟨w.heap.size, 1, none⟩ = some (.int .i64 l) ∧ w'.cell? ⟨w.heap.size, 2, none⟩ = some (.int .i64 s)) (first | (go_keep; done) | ((try go_split_ands); (repeat' apply And.intro) <;> ((try simp only [World.cell?_drew]); first | assumption | (refine hb.keep ?_; (try simp only [World.cell?_drew]); first | assumption | (simp [*, go_sem]; done)) | (simp [*, go_sem]; done)))) (first | (go_at_call 18; refine (CheckType_any _ _ _ _).mono ?_; rintro e w1 ⟨rfl, hb⟩; obtain ⟨hc, hf⟩ := hb.cells; have hz : w.heap.size < w1.heap.size := by have h := hb.size; (try simp at h); omega) | (go_at_call 85; refine (errorIf_any _ _ _).mono ?_; rintro e w1 ⟨rfl, rfl⟩) | (go_at_call 62; refine (firstError2 (typeErr k l s) (pick (k == 4) 17) _ _ _ (by first | (simp; done) | (simp [go_sem]; done)) (by first | (simp; done) | (simp [go_sem]; done))).mono ?_; rintro e w1 ⟨rfl, rfl⟩))
  go_wp2
  go_ret
  exact ⟨rfl, (by repeat (first | exact Gr.refl _ | assumption | refine Gr.alloc ?_ _ | refine Gr.drew ?_ | refine Gr.drewN ?_ _ | refine Gr.setCell ?_ (by simp <;> omega) _ | refine Gr.trans ?_ (by assumption)))⟩

end Go.Proofs.Ytmejhccdiimmlaa
