/- Texts of the walks, merged. -/
import Derived.Test.YtmdpejllbalnnaaGreatDoorQ13
namespace Go.Proofs.YtmdpejllbalnnaaGreatDoor
set_option linter.unusedSimpArgs false
set_option linter.unusedVariables false
open Go.RowKit

/-- The status that a text begins with. -/
def sbL (T : List UInt8) : List UInt8 := if Lib.hasPrefix T [67, 82] then [67, 82] else if Lib.hasPrefix T [45] then [45] else []
set_option maxHeartbeats 1000000 in
theorem statusAt_core (X U : ByteArray) (a : Int) (b1 b2 : Bool)
    (hS : ∀ w, (Instr.slice 9 (.string X) (some (.int .i64 a)) none none).run Tryz.prog w = .ok (.string U) w)
    (h1 : ∀ w, Calls Tryz.prog 95 #[.string U, .string ⟨#[67, 82]⟩] w fun e w' => e = .returned (.bool b1) ∧ w = w')
    (h2 : ∀ w, Calls Tryz.prog 95 #[.string U, .string ⟨#[45]⟩] w fun e w' => e = .returned (.bool b2) ∧ w = w') (w : World) :
    Calls Tryz.prog 92 #[.string X, .int .i64 a] w fun e w' => e = .returned (.string (if b1 then ⟨#[67, 82]⟩ else if b2 then ⟨#[45]⟩ else ⟨#[]⟩)) ∧ Gr w w' := by
  go_enter Tryz.func92, Tryz.ntmps92
  go_wp2
  go_loop [9] (fun i => i = .int .i64 0 ∨ (i = .int .i64 1 ∧ b1 = false) ∨ (i = .int .i64 2 ∧ b1 = false ∧ b2 = false)) (fun i => 2 - (intOf i).toNat)
  case atStart => exact Or.inl rfl
  case round =>
    rcases hrel with rfl | ⟨rfl, rfl⟩ | ⟨rfl, rfl, rfl⟩
    · cases b1
      · go_wp2_with ((go_at_call 95; (with_reducible refine (h1 _).mono ?_); rintro e w1 ⟨rfl, rfl⟩))
        go_round
        case rel => exact Or.inr (Or.inl ⟨by go_num, by first | rfl | trivial⟩)
        case measure => simp [intOf]
      · go_wp2_with ((go_at_call 95; (with_reducible refine (h1 _).mono ?_); rintro e w1 ⟨rfl, rfl⟩))
        go_ret
        exact ⟨rfl, (by repeat (first | (with_reducible exact Gr.refl _) | (with_reducible assumption) | (with_reducible refine Gr.alloc ?_ _) | (with_reducible refine Gr.drew ?_) | (with_reducible refine Gr.drewN ?_ _) | (with_reducible refine Gr.setCell ?_ (by simp <;> omega) _) | (with_reducible refine Gr.trans ?_ (by with_reducible assumption)) | exact Gr.refl _ | assumption | refine Gr.alloc ?_ _ | refine Gr.drew ?_ | refine Gr.drewN ?_ _ | refine Gr.setCell ?_ (by simp <;> omega) _ | refine Gr.trans ?_ (by assumption)))⟩
    · cases b2
      · go_wp2_with ((go_at_call 95; (with_reducible refine (h2 _).mono ?_); rintro e w1 ⟨rfl, rfl⟩))
        go_round
        case rel => exact Or.inr (Or.inr ⟨by go_num, by first | rfl | trivial, by first | rfl | trivial⟩)
        case measure => simp [intOf]
      · go_wp2_with ((go_at_call 95; (with_reducible refine (h2 _).mono ?_); rintro e w1 ⟨rfl, rfl⟩))
        go_ret
        exact ⟨rfl, (by repeat (first | (with_reducible exact Gr.refl _) | (with_reducible assumption) | (with_reducible refine Gr.alloc ?_ _) | (with_reducible refine Gr.drew ?_) | (with_reducible refine Gr.drewN ?_ _) | (with_reducible refine Gr.setCell ?_ (by simp <;> omega) _) | (with_reducible refine Gr.trans ?_ (by with_reducible assumption)) | exact Gr.refl _ | assumption | refine Gr.alloc ?_ _ | refine Gr.drew ?_ | refine Gr.drewN ?_ _ | refine Gr.setCell ?_ (by simp <;> omega) _ | refine Gr.trans ?_ (by assumption)))⟩
    · go_wp2
      go_ret
      exact ⟨rfl, (by repeat (first | (with_reducible exact Gr.refl _) | (with_reducible assumption) | (with_reducible refine Gr.alloc ?_ _) | (with_reducible refine Gr.drew ?_) | (with_reducible refine Gr.drewN ?_ _) | (with_reducible refine Gr.setCell ?_ (by simp <;> omega) _) | (with_reducible refine Gr.trans ?_ (by with_reducible assumption)) | exact Gr.refl _ | assumption | refine Gr.alloc ?_ _ | refine Gr.drew ?_ | refine Gr.drewN ?_ _ | refine Gr.setCell ?_ (by simp <;> omega) _ | refine Gr.trans ?_ (by assumption)))⟩
theorem statusAt_any (T : List UInt8) (a : Int) (p : Nat) (ha : a = p) (hp : p ≤ T.length) (w : World) :
    Calls Tryz.prog 92 #[.string (BL T), .int .i64 a] w fun e w' => e = .returned (.string (BL (sbL (T.drop p)))) ∧ Gr w w' := by
  have hc := cut_i (BL T) a p ha (by rw [BL_size]; exact hp)
  rw [ext_all, BL_list] at hc
  have h1 : ∀ w, Calls Tryz.prog 95 #[.string (BL (T.drop p)), .string ⟨#[67, 82]⟩] w fun e w' => e = .returned (.bool (Lib.hasPrefix (T.drop p) [67, 82])) ∧ w = w' := fun w => by
    refine (Tryz.strings_HasPrefix (BL (T.drop p)) ⟨#[67, 82]⟩ w).mono fun e w' ⟨x, y⟩ => ⟨?_, y.symm⟩
    rw [x, BL_list]
  have h2 : ∀ w, Calls Tryz.prog 95 #[.string (BL (T.drop p)), .string ⟨#[45]⟩] w fun e w' => e = .returned (.bool (Lib.hasPrefix (T.drop p) [45])) ∧ w = w' := fun w => by
    refine (Tryz.strings_HasPrefix (BL (T.drop p)) ⟨#[45]⟩ w).mono fun e w' ⟨x, y⟩ => ⟨?_, y.symm⟩
    rw [x, BL_list]
  have h := statusAt_core (BL T) (BL (T.drop p)) a _ _ hc h1 h2 w
  have e : BL (sbL (T.drop p)) = if Lib.hasPrefix (T.drop p) [67, 82] = true then ⟨#[67, 82]⟩ else if Lib.hasPrefix (T.drop p) [45] = true then ⟨#[45]⟩ else ⟨#[]⟩ := by
    unfold sbL
    split
    · rfl
    · split <;> rfl
  rw [e]
  exact h
/-- A part's value in the memory. -/
def ptV (body st stop : Int) (ast : Bool) : Value := .agg #[.int .i64 body, .int .i64 st, .int .i64 stop, .bool ast]
set_option maxHeartbeats 1000000 in
theorem isPosition_any (T : List UInt8) (a : Int) (q : Nat) (ha : a = q) (hq : q < T.length) (body st stop : Int) (ast : Bool) (w : World) :
    Calls Tryz.prog 75 #[.string (BL T), .agg #[.int .i64 body, .int .i64 st, .int .i64 stop, .bool ast], .int .i64 a] w fun e w' => e = .returned (.bool (dAt T q == 32 || decide (a = stop))) ∧ Gr w w' := by
  subst ha
  have hqx : q < (BL T).size := by rw [BL_size]; exact hq
  have hby : (((BL T)[q]'hqx).toNat : Int) = ((dAt T q).toNat : Int) := by rw [BL_at]
  have h32 : (dAt T q == 32) = decide (((dAt T q).toNat : Int) = 32) := by
    by_cases h : dAt T q = 32
    · rw [h]; rfl
    · have : ¬((dAt T q).toNat : Int) = 32 := fun e => h (by rw [← UInt8.toNat_inj]; show (dAt T q).toNat = 32; omega)
      simp [h, this]
  rw [h32]
  clear h32 hq
  generalize ((dAt T q).toNat : Int) = y at *
  generalize BL T = X at *
  by_cases g : y = 32
  · subst g
    go_enter Tryz.func75, Tryz.ntmps75
    go_wp2
    go_ret
    exact ⟨by simp, (by repeat (first | (with_reducible exact Gr.refl _) | (with_reducible assumption) | (with_reducible refine Gr.alloc ?_ _) | (with_reducible refine Gr.drew ?_) | (with_reducible refine Gr.drewN ?_ _) | (with_reducible refine Gr.setCell ?_ (by simp <;> omega) _) | (with_reducible refine Gr.trans ?_ (by with_reducible assumption)) | exact Gr.refl _ | assumption | refine Gr.alloc ?_ _ | refine Gr.drew ?_ | refine Gr.drewN ?_ _ | refine Gr.setCell ?_ (by simp <;> omega) _ | refine Gr.trans ?_ (by assumption)))⟩
  · have b1 : (y == 32) = false := by simp [g]
    by_cases g2 : (q : Int) = stop
    · have b2 : ((q : Int) == stop) = true := by simp [g2]
      have E := Lib.hid (show (decide (y = 32) || decide ((q : Int) = stop)) = true by simp [g2])
      rw [E.out]
      clear g g2
      go_enter Tryz.func75, Tryz.ntmps75
      go_wp2
      go_ret
      exact ⟨by simp [go_sem], (by repeat (first | (with_reducible exact Gr.refl _) | (with_reducible assumption) | (with_reducible refine Gr.alloc ?_ _) | (with_reducible refine Gr.drew ?_) | (with_reducible refine Gr.drewN ?_ _) | (with_reducible refine Gr.setCell ?_ (by simp <;> omega) _) | (with_reducible refine Gr.trans ?_ (by with_reducible assumption)) | exact Gr.refl _ | assumption | refine Gr.alloc ?_ _ | refine Gr.drew ?_ | refine Gr.drewN ?_ _ | refine Gr.setCell ?_ (by simp <;> omega) _ | refine Gr.trans ?_ (by assumption)))⟩
    · have b2 : ((q : Int) == stop) = false := by simp [g2]
      have E := Lib.hid (show (decide (y = 32) || decide ((q : Int) = stop)) = false by simp [g, g2])
      rw [E.out]
      clear g g2
      go_enter Tryz.func75, Tryz.ntmps75
      go_wp2
      go_ret
      exact ⟨by simp [go_sem], (by repeat (first | (with_reducible exact Gr.refl _) | (with_reducible assumption) | (with_reducible refine Gr.alloc ?_ _) | (with_reducible refine Gr.drew ?_) | (with_reducible refine Gr.drewN ?_ _) | (with_reducible refine Gr.setCell ?_ (by simp <;> omega) _) | (with_reducible refine Gr.trans ?_ (by with_reducible assumption)) | exact Gr.refl _ | assumption | refine Gr.alloc ?_ _ | refine Gr.drew ?_ | refine Gr.drewN ?_ _ | refine Gr.setCell ?_ (by simp <;> omega) _ | refine Gr.trans ?_ (by assumption)))⟩
end Go.Proofs.YtmdpejllbalnnaaGreatDoor
