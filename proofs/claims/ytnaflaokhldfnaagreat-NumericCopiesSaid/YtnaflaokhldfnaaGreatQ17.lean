/- Texts of the walks, merged. -/
import Derived.Test.YtnaflaokhldfnaaGreatQ10
import Derived.Test.YtnaflaokhldfnaaGreatQ16
namespace Go.Proofs.YtnaflaokhldfnaaGreat
set_option linter.unusedSimpArgs false
set_option linter.unusedVariables false
open Go.RowKit

set_option maxHeartbeats 2000000 in
set_option maxRecDepth 100000 in
theorem checkNumeric_three (ka la sa kb lb sb k l s : Int) (bl cap : Nat) (w : World) (c0 : w.cell? ⟨bl, 0, none⟩ = some (.int .i64 ka)) (c1 : w.cell? ⟨bl, 1, none⟩ = some (.int .i64 la)) (c2 : w.cell? ⟨bl, 2, none⟩ = some (.int .i64 sa))
    (c3 : w.cell? ⟨bl, 3, none⟩ = some (.int .i64 kb)) (c4 : w.cell? ⟨bl, 4, none⟩ = some (.int .i64 lb)) (c5 : w.cell? ⟨bl, 5, none⟩ = some (.int .i64 sb)) (c6 : w.cell? ⟨bl, 6, none⟩ = some (.int .i64 k)) (c7 : w.cell? ⟨bl, 7, none⟩ = some (.int .i64 l)) (c8 : w.cell? ⟨bl, 8, none⟩ = some (.int .i64 s)) :
    Calls Tryz.prog 31 #[.slice (some ⟨bl, 0, none⟩) 3 cap] w fun e w' => e = .returned (.int .i64 (pick (!(isNum ka && (isNum kb && isNum k))) 17)) ∧ Gr w w' := by
  have hbl : bl < w.heap.size := World.block_lt_of_cell? w _ c0
  have C := Lib.hid (And.intro c0 (And.intro c1 (And.intro c2 (And.intro c3 (And.intro c4 (And.intro c5 (And.intro c6 (And.intro c7 c8))))))))
  have hA := isNumeric_any ka la sa
  have hB := isNumeric_any kb lb sb
  have hC := isNumeric_any k l s
  generalize isNum ka = A at *
  generalize isNum kb = B at *
  generalize isNum k = Z at *
  cases A
  · go_enter Tryz.func31, Tryz.ntmps31
    go_wp2
    refine wp_loop_rounds 4 ?_
    rw [rounds_succ]
    go_wp2_with (go_at_call 59; (with_reducible refine (hA _).mono ?_); rintro e wa ⟨rfl, hb⟩)
    go_ret
    exact ⟨rfl, (by repeat (first | (with_reducible exact Gr.refl _) | (with_reducible assumption) | (with_reducible refine Gr.alloc ?_ _) | (with_reducible refine Gr.drew ?_) | (with_reducible refine Gr.drewN ?_ _) | (with_reducible refine Gr.setCell ?_ (by simp <;> omega) _) | (with_reducible refine Gr.trans ?_ (by with_reducible assumption)) | exact Gr.refl _ | assumption | refine Gr.alloc ?_ _ | refine Gr.drew ?_ | refine Gr.drewN ?_ _ | refine Gr.setCell ?_ (by simp <;> omega) _ | refine Gr.trans ?_ (by assumption)))⟩
  · cases B
    · go_enter Tryz.func31, Tryz.ntmps31
      go_wp2
      refine wp_loop_rounds 4 ?_
      rw [rounds_succ]
      go_wp2_with (go_at_call 59; (with_reducible refine (hA _).mono ?_); rintro e wa ⟨rfl, hb⟩; have g := (show Gr w wa from Gr.trans (by repeat (first | (with_reducible exact Gr.refl _) | (with_reducible assumption) | (with_reducible refine Gr.alloc ?_ _) | (with_reducible refine Gr.drew ?_) | (with_reducible refine Gr.drewN ?_ _) | (with_reducible refine Gr.setCell ?_ (by simp <;> omega) _) | (with_reducible refine Gr.trans ?_ (by with_reducible assumption)) | exact Gr.refl _ | assumption | refine Gr.alloc ?_ _ | refine Gr.drew ?_ | refine Gr.drewN ?_ _ | refine Gr.setCell ?_ (by simp <;> omega) _ | refine Gr.trans ?_ (by assumption))) hb); have c3 := g.keep C.out.2.2.2.1; have c4 := g.keep C.out.2.2.2.2.1; have c5 := g.keep C.out.2.2.2.2.2.1; have hbl := World.block_lt_of_cell? _ _ c3; (try dsimp only at hbl))
      rw [rounds_succ]
      go_wp2_with (go_at_call 59; (with_reducible refine (hB _).mono ?_); rintro e wb ⟨rfl, hb⟩)
      go_ret
      exact ⟨rfl, (by repeat (first | (with_reducible exact Gr.refl _) | (with_reducible assumption) | (with_reducible refine Gr.alloc ?_ _) | (with_reducible refine Gr.drew ?_) | (with_reducible refine Gr.drewN ?_ _) | (with_reducible refine Gr.setCell ?_ (by simp <;> omega) _) | (with_reducible refine Gr.trans ?_ (by with_reducible assumption)) | exact Gr.refl _ | assumption | refine Gr.alloc ?_ _ | refine Gr.drew ?_ | refine Gr.drewN ?_ _ | refine Gr.setCell ?_ (by simp <;> omega) _ | refine Gr.trans ?_ (by assumption)))⟩
    · go_enter Tryz.func31, Tryz.ntmps31
      go_wp2
      refine wp_loop_rounds 4 ?_
      rw [rounds_succ]
      go_wp2_with (go_at_call 59; (with_reducible refine (hA _).mono ?_); rintro e wa ⟨rfl, hb⟩; have g := (show Gr w wa from Gr.trans (by repeat (first | (with_reducible exact Gr.refl _) | (with_reducible assumption) | (with_reducible refine Gr.alloc ?_ _) | (with_reducible refine Gr.drew ?_) | (with_reducible refine Gr.drewN ?_ _) | (with_reducible refine Gr.setCell ?_ (by simp <;> omega) _) | (with_reducible refine Gr.trans ?_ (by with_reducible assumption)) | exact Gr.refl _ | assumption | refine Gr.alloc ?_ _ | refine Gr.drew ?_ | refine Gr.drewN ?_ _ | refine Gr.setCell ?_ (by simp <;> omega) _ | refine Gr.trans ?_ (by assumption))) hb); have c3 := g.keep C.out.2.2.2.1; have c4 := g.keep C.out.2.2.2.2.1; have c5 := g.keep C.out.2.2.2.2.2.1; have hbl := World.block_lt_of_cell? _ _ c3; (try dsimp only at hbl))
      rw [rounds_succ]
      go_wp2_with (go_at_call 59; (with_reducible refine (hB _).mono ?_); rintro e wb ⟨rfl, hb⟩; have g := (show Gr w wb from Gr.trans (by repeat (first | (with_reducible exact Gr.refl _) | (with_reducible assumption) | (with_reducible refine Gr.alloc ?_ _) | (with_reducible refine Gr.drew ?_) | (with_reducible refine Gr.drewN ?_ _) | (with_reducible refine Gr.setCell ?_ (by simp <;> omega) _) | (with_reducible refine Gr.trans ?_ (by with_reducible assumption)) | exact Gr.refl _ | assumption | refine Gr.alloc ?_ _ | refine Gr.drew ?_ | refine Gr.drewN ?_ _ | refine Gr.setCell ?_ (by simp <;> omega) _ | refine Gr.trans ?_ (by assumption))) hb); have c6 := g.keep C.out.2.2.2.2.2.2.1; have c7 := g.keep C.out.2.2.2.2.2.2.2.1; have c8 := g.keep C.out.2.2.2.2.2.2.2.2; have hbl := World.block_lt_of_cell? _ _ c6; (try dsimp only at hbl))
      cases Z
      · rw [rounds_succ]
        go_wp2_with (go_at_call 59; (with_reducible refine (hC _).mono ?_); rintro e wd ⟨rfl, hb⟩)
        go_ret
        exact ⟨rfl, (by repeat (first | (with_reducible exact Gr.refl _) | (with_reducible assumption) | (with_reducible refine Gr.alloc ?_ _) | (with_reducible refine Gr.drew ?_) | (with_reducible refine Gr.drewN ?_ _) | (with_reducible refine Gr.setCell ?_ (by simp <;> omega) _) | (with_reducible refine Gr.trans ?_ (by with_reducible assumption)) | exact Gr.refl _ | assumption | refine Gr.alloc ?_ _ | refine Gr.drew ?_ | refine Gr.drewN ?_ _ | refine Gr.setCell ?_ (by simp <;> omega) _ | refine Gr.trans ?_ (by assumption)))⟩
      · rw [rounds_succ]
        go_wp2_with (go_at_call 59; (with_reducible refine (hC _).mono ?_); rintro e wd ⟨rfl, hb⟩; have g := (show Gr w wd from Gr.trans (by repeat (first | (with_reducible exact Gr.refl _) | (with_reducible assumption) | (with_reducible refine Gr.alloc ?_ _) | (with_reducible refine Gr.drew ?_) | (with_reducible refine Gr.drewN ?_ _) | (with_reducible refine Gr.setCell ?_ (by simp <;> omega) _) | (with_reducible refine Gr.trans ?_ (by with_reducible assumption)) | exact Gr.refl _ | assumption | refine Gr.alloc ?_ _ | refine Gr.drew ?_ | refine Gr.drewN ?_ _ | refine Gr.setCell ?_ (by simp <;> omega) _ | refine Gr.trans ?_ (by assumption))) hb))
        rw [rounds_succ]
        go_wp2
        go_ret
        exact ⟨rfl, (by repeat (first | (with_reducible exact Gr.refl _) | (with_reducible assumption) | (with_reducible refine Gr.alloc ?_ _) | (with_reducible refine Gr.drew ?_) | (with_reducible refine Gr.drewN ?_ _) | (with_reducible refine Gr.setCell ?_ (by simp <;> omega) _) | (with_reducible refine Gr.trans ?_ (by with_reducible assumption)) | exact Gr.refl _ | assumption | refine Gr.alloc ?_ _ | refine Gr.drew ?_ | refine Gr.drewN ?_ _ | refine Gr.setCell ?_ (by simp <;> omega) _ | refine Gr.trans ?_ (by assumption)))⟩

set_option maxHeartbeats 2000000 in
set_option maxRecDepth 100000 in
theorem written_bad (k l s N E : Int) (y : ByteArray) (h0 : (E != 0) = true) (w : World) :
    Calls Tryz.prog 15 #[.agg #[.int .i64 k, .int .i64 l, .int .i64 s], .agg #[.int .i64 N, .string y], .int .i64 E] w fun e w' => e = .returned (.tuple #[.string ⟨#[]⟩, .int .i64 0, .int .i64 E]) ∧ Gr w w' := by
  go_enter Tryz.func15, Tryz.ntmps15
  go_wp2
  go_ret3
  exact ⟨rfl, (by repeat (first | (with_reducible exact Gr.refl _) | (with_reducible assumption) | (with_reducible refine Gr.alloc ?_ _) | (with_reducible refine Gr.drew ?_) | (with_reducible refine Gr.drewN ?_ _) | (with_reducible refine Gr.setCell ?_ (by simp <;> omega) _) | (with_reducible refine Gr.trans ?_ (by with_reducible assumption)) | exact Gr.refl _ | assumption | refine Gr.alloc ?_ _ | refine Gr.drew ?_ | refine Gr.drewN ?_ _ | refine Gr.setCell ?_ (by simp <;> omega) _ | refine Gr.trans ?_ (by assumption)))⟩
set_option maxHeartbeats 2000000 in
set_option maxRecDepth 100000 in
theorem written_ok (k l s N : Int) (y z : ByteArray)
    (hB : ∀ w, Calls Tryz.prog 22 #[.agg #[.int .i64 k, .int .i64 l, .int .i64 s], .agg #[.int .i64 N, .string y]] w fun e w' => e = .returned (.string z) ∧ Gr w w') (w : World) :
    Calls Tryz.prog 15 #[.agg #[.int .i64 k, .int .i64 l, .int .i64 s], .agg #[.int .i64 N, .string y], .int .i64 0] w fun e w' => e = .returned (.tuple #[.string z, .int .i64 0, .int .i64 0]) ∧ Gr w w' := by
  go_enter Tryz.func15, Tryz.ntmps15
  go_wp2_with (go_at_call 22; (with_reducible refine (hB _).mono ?_); rintro e wa ⟨rfl, hb⟩)
  go_ret3
  exact ⟨rfl, (by repeat (first | (with_reducible exact Gr.refl _) | (with_reducible assumption) | (with_reducible refine Gr.alloc ?_ _) | (with_reducible refine Gr.drew ?_) | (with_reducible refine Gr.drewN ?_ _) | (with_reducible refine Gr.setCell ?_ (by simp <;> omega) _) | (with_reducible refine Gr.trans ?_ (by with_reducible assumption)) | exact Gr.refl _ | assumption | refine Gr.alloc ?_ _ | refine Gr.drew ?_ | refine Gr.drewN ?_ _ | refine Gr.setCell ?_ (by simp <;> omega) _ | refine Gr.trans ?_ (by assumption)))⟩
end Go.Proofs.YtnaflaokhldfnaaGreat
