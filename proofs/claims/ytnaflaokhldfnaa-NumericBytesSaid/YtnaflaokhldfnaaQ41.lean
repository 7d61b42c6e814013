/- Texts of the walks, merged. -/
import Derived.Test.YtnaflaokhldfnaaQ10
import Derived.Test.YtnaflaokhldfnaaQ40
namespace Go.Proofs.Ytnaflaokhldfnaa
set_option linter.unusedSimpArgs false
set_option linter.unusedVariables false
open Go.RowKit

set_option maxHeartbeats 2000000 in
set_option maxRecDepth 100000 in
theorem checkNumeric_three (ka la sa kb lb sb k l s : Int) (bl cap : Nat) (w : World) (c0 : w.cell? ⟨bl, 0, none⟩ = some (.int .i64 ka)) (c1 : w.cell? ⟨bl, 1, none⟩ = some (.int .i64 la)) (c2 : w.cell? ⟨bl, 2, none⟩ = some (.int .i64 sa))
    (c3 : w.cell? ⟨bl, 3, none⟩ = some (.int .i64 kb)) (c4 : w.cell? ⟨bl, 4, none⟩ = some (.int .i64 lb)) (c5 : w.cell? ⟨bl, 5, none⟩ = some (.int .i64 sb)) (c6 : w.cell? ⟨bl, 6, none⟩ = some (.int .i64 k)) (c7 : w.cell? ⟨bl, 7, none⟩ = some (.int .i64 l)) (c8 : w.cell? ⟨bl, 8, none⟩ = some (.int .i64 s)) :
    Calls Try.prog 23 #[.slice (some ⟨bl, 0, none⟩) 3 cap] w fun e w' => e = .returned (.int .i64 (pick (!(isNum ka && (isNum kb && isNum k))) 17)) ∧ Gr w w' := by
  have hbl : bl < w.heap.size := World.block_lt_of_cell? w _ c0
  have C := Lib.hid (And.intro c0 (And.intro c1 (And.intro c2 (And.intro c3 (And.intro c4 (And.intro c5 (And.intro c6 (And.intro c7 c8))))))))
  have hA := isNumeric_any ka la sa
  have hB := isNumeric_any kb lb sb
  have hC := isNumeric_any k l s
  generalize isNum ka = A at *
  generalize isNum kb = B at *
  generalize isNum k = Z at *
  cases A
  · go_enter Try.func23, Try.ntmps23
    go_wp2
    refine wp_loop_rounds 4 ?_
    rw [rounds_succ]
    go_wp2_with (go_at_call 53; (with_reducible refine (hA _).mono ?_); rintro e wa ⟨rfl, hb⟩)
    go_ret
    exact ⟨rfl, (by repeat (first | (with_reducible exact Gr.refl _) | (with_reducible assumption) | (with_reducible refine Gr.alloc ?_ _) | (with_reducible refine Gr.drew ?_) | (with_reducible refine Gr.drewN ?_ _) | (with_reducible refine Gr.setCell ?_ (by simp <;> omega) _) | (with_reducible refine Gr.trans ?_ (by with_reducible assumption)) | exact Gr.refl _ | assumption | refine Gr.alloc ?_ _ | refine Gr.drew ?_ | refine Gr.drewN ?_ _ | refine Gr.setCell ?_ (by simp <;> omega) _ | refine Gr.trans ?_ (by assumption)))⟩
  · cases B
    · go_enter Try.func23, Try.ntmps23
      go_wp2
      refine wp_loop_rounds 4 ?_
      rw [rounds_succ]
      go_wp2_with (go_at_call 53; (with_reducible refine (hA _).mono ?_); rintro e wa ⟨rfl, hb⟩; have g := (show Gr w wa from Gr.trans (by repeat (first | (with_reducible exact Gr.refl _) | (with_reducible assumption) | (with_reducible refine Gr.alloc ?_ _) | (with_reducible refine Gr.drew ?_) | (with_reducible refine Gr.drewN ?_ _) | (with_reducible refine Gr.setCell ?_ (by simp <;> omega) _) | (with_reducible refine Gr.trans ?_ (by with_reducible assumption)) | exact Gr.refl _ | assumption | refine Gr.alloc ?_ _ | refine Gr.drew ?_ | refine Gr.drewN ?_ _ | refine Gr.setCell ?_ (by simp <;> omega) _ | refine Gr.trans ?_ (by assumption))) hb); have c3 := g.keep C.out.2.2.2.1; have c4 := g.keep C.out.2.2.2.2.1; have c5 := g.keep C.out.2.2.2.2.2.1; have hbl := World.block_lt_of_cell? _ _ c3; (try dsimp only at hbl))
      rw [rounds_succ]
      go_wp2_with (go_at_call 53; (with_reducible refine (hB _).mono ?_); rintro e wb ⟨rfl, hb⟩)
      go_ret
      exact ⟨rfl, (by repeat (first | (with_reducible exact Gr.refl _) | (with_reducible assumption) | (with_reducible refine Gr.alloc ?_ _) | (with_reducible refine Gr.drew ?_) | (with_reducible refine Gr.drewN ?_ _) | (with_reducible refine Gr.setCell ?_ (by simp <;> omega) _) | (with_reducible refine Gr.trans ?_ (by with_reducible assumption)) | exact Gr.refl _ | assumption | refine Gr.alloc ?_ _ | refine Gr.drew ?_ | refine Gr.drewN ?_ _ | refine Gr.setCell ?_ (by simp <;> omega) _ | refine Gr.trans ?_ (by assumption)))⟩
    · go_enter Try.func23, Try.ntmps23
      go_wp2
      refine wp_loop_rounds 4 ?_
      rw [rounds_succ]
      go_wp2_with (go_at_call 53; (with_reducible refine (hA _).mono ?_); rintro e wa ⟨rfl, hb⟩; have g := (show Gr w wa from Gr.trans (by repeat (first | (with_reducible exact Gr.refl _) | (with_reducible assumption) | (with_reducible refine Gr.alloc ?_ _) | (with_reducible refine Gr.drew ?_) | (with_reducible refine Gr.drewN ?_ _) | (with_reducible refine Gr.setCell ?_ (by simp <;> omega) _) | (with_reducible refine Gr.trans ?_ (by with_reducible assumption)) | exact Gr.refl _ | assumption | refine Gr.alloc ?_ _ | refine Gr.drew ?_ | refine Gr.drewN ?_ _ | refine Gr.setCell ?_ (by simp <;> omega) _ | refine Gr.trans ?_ (by assumption))) hb); have c3 := g.keep C.out.2.2.2.1; have c4 := g.keep C.out.2.2.2.2.1; have c5 := g.keep C.out.2.2.2.2.2.1; have hbl := World.block_lt_of_cell? _ _ c3; (try dsimp only at hbl))
      rw [rounds_succ]
      go_wp2_with (go_at_call 53; (with_reducible refine (hB _).mono ?_); rintro e wb ⟨rfl, hb⟩; have g := (show Gr w wb from Gr.trans (by repeat (first | (with_reducible exact Gr.refl _) | (with_reducible assumption) | (with_reducible refine Gr.alloc ?_ _) | (with_reducible refine Gr.drew ?_) | (with_reducible refine Gr.drewN ?_ _) | (with_reducible refine Gr.setCell ?_ (by simp <;> omega) _) | (with_reducible refine Gr.trans ?_ (by with_reducible assumption)) | exact Gr.refl _ | assumption | refine Gr.alloc ?_ _ | refine Gr.drew ?_ | refine Gr.drewN ?_ _ | refine Gr.setCell ?_ (by simp <;> omega) _ | refine Gr.trans ?_ (by assumption))) hb); have c6 := g.keep C.out.2.2.2.2.2.2.1; have c7 := g.keep C.out.2.2.2.2.2.2.2.1; have c8 := g.keep C.out.2.2.2.2.2.2.2.2; have hbl := World.block_lt_of_cell? _ _ c6; (try dsimp only at hbl))
      cases Z
      · rw [rounds_succ]
        go_wp2_with (go_at_call 53; (with_reducible refine (hC _).mono ?_); rintro e wd ⟨rfl, hb⟩)
        go_ret
        exact ⟨rfl, (by repeat (first | (with_reducible exact Gr.refl _) | (with_reducible assumption) | (with_reducible refine Gr.alloc ?_ _) | (with_reducible refine Gr.drew ?_) | (with_reducible refine Gr.drewN ?_ _) | (with_reducible refine Gr.setCell ?_ (by simp <;> omega) _) | (with_reducible refine Gr.trans ?_ (by with_reducible assumption)) | exact Gr.refl _ | assumption | refine Gr.alloc ?_ _ | refine Gr.drew ?_ | refine Gr.drewN ?_ _ | refine Gr.setCell ?_ (by simp <;> omega) _ | refine Gr.trans ?_ (by assumption)))⟩
      · rw [rounds_succ]
        go_wp2_with (go_at_call 53; (with_reducible refine (hC _).mono ?_); rintro e wd ⟨rfl, hb⟩; have g := (show Gr w wd from Gr.trans (by repeat (first | (with_reducible exact Gr.refl _) | (with_reducible assumption) | (with_reducible refine Gr.alloc ?_ _) | (with_reducible refine Gr.drew ?_) | (with_reducible refine Gr.drewN ?_ _) | (with_reducible refine Gr.setCell ?_ (by simp <;> omega) _) | (with_reducible refine Gr.trans ?_ (by with_reducible assumption)) | exact Gr.refl _ | assumption | refine Gr.alloc ?_ _ | refine Gr.drew ?_ | refine Gr.drewN ?_ _ | refine Gr.setCell ?_ (by simp <;> omega) _ | refine Gr.trans ?_ (by assumption))) hb))
        rw [rounds_succ]
        go_wp2
        go_ret
        exact ⟨rfl, (by repeat (first | (with_reducible exact Gr.refl _) | (with_reducible assumption) | (with_reducible refine Gr.alloc ?_ _) | (with_reducible refine Gr.drew ?_) | (with_reducible refine Gr.drewN ?_ _) | (with_reducible refine Gr.setCell ?_ (by simp <;> omega) _) | (with_reducible refine Gr.trans ?_ (by with_reducible assumption)) | exact Gr.refl _ | assumption | refine Gr.alloc ?_ _ | refine Gr.drew ?_ | refine Gr.drewN ?_ _ | refine Gr.setCell ?_ (by simp <;> omega) _ | refine Gr.trans ?_ (by assumption)))⟩

/-- An operand's number. -/
def OpNr (k l s : Int) (x : ByteArray) (N S At E : Int) : Prop := ∀ w, Calls Try.prog 31 #[.agg #[.int .i64 k, .int .i64 l, .int .i64 s, .string x]] w fun e w' => e = .returned (.tuple #[.agg #[.int .i64 N, .int .i64 S], .int .i64 At, .int .i64 E]) ∧ Gr w w'
set_option maxHeartbeats 2000000 in
set_option maxRecDepth 100000 in
theorem operand_bad (k l s : Int) (x y : ByteArray) (N At E : Int) (h0 : (E != 0) = true)
    (hD : ∀ w, Calls Try.prog 18 #[.agg #[.int .i64 k, .int .i64 l, .int .i64 s], .string x] w fun e w' => e = .returned (.tuple #[.agg #[.int .i64 N, .string y], .int .i64 At, .int .i64 E]) ∧ Gr w w') : OpNr k l s x 0 0 At E := by
  intro w
  go_enter Try.func31, Try.ntmps31
  go_wp2_with (go_at_call 18; (with_reducible refine (hD _).mono ?_); rintro e wa ⟨rfl, hb⟩; obtain ⟨hc, hf⟩ := hb.cells; have hz := hb.size; (try simp at hz); have hz1 : w.heap.size + 1 < wa.heap.size := (by omega))
  exact bodyPost_ret (v := .tuple #[.agg #[.int .i64 0, .int .i64 0], .int .i64 At, .int .i64 E]) (by simp [results, Try.results31, go_sem, *]) rfl ⟨rfl, (by repeat (first | (with_reducible exact Gr.refl _) | (with_reducible assumption) | (with_reducible refine Gr.alloc ?_ _) | (with_reducible refine Gr.drew ?_) | (with_reducible refine Gr.drewN ?_ _) | (with_reducible refine Gr.setCell ?_ (by simp <;> omega) _) | (with_reducible refine Gr.trans ?_ (by with_reducible assumption)) | exact Gr.refl _ | assumption | refine Gr.alloc ?_ _ | refine Gr.drew ?_ | refine Gr.drewN ?_ _ | refine Gr.setCell ?_ (by simp <;> omega) _ | refine Gr.trans ?_ (by assumption)))⟩
set_option maxHeartbeats 2000000 in
set_option maxRecDepth 100000 in
theorem operand_ok (k l s : Int) (x y : ByteArray) (N At : Int)
    (hD : ∀ w, Calls Try.prog 18 #[.agg #[.int .i64 k, .int .i64 l, .int .i64 s], .string x] w fun e w' => e = .returned (.tuple #[.agg #[.int .i64 N, .string y], .int .i64 At, .int .i64 0]) ∧ Gr w w') : OpNr k l s x N s 0 0 := by
  intro w
  go_enter Try.func31, Try.ntmps31
  go_wp2_with (go_at_call 18; (with_reducible refine (hD _).mono ?_); rintro e wa ⟨rfl, hb⟩; obtain ⟨hc, hf⟩ := hb.cells; have hz := hb.size; (try simp at hz); have hz1 : w.heap.size + 1 < wa.heap.size := (by omega); have hz0 : w.heap.size < wa.heap.size := (by omega))
  exact bodyPost_ret (v := .tuple #[.agg #[.int .i64 N, .int .i64 s], .int .i64 0, .int .i64 0]) (by simp [results, Try.results31, go_sem, *]) rfl ⟨rfl, (by repeat (first | (with_reducible exact Gr.refl _) | (with_reducible assumption) | (with_reducible refine Gr.alloc ?_ _) | (with_reducible refine Gr.drew ?_) | (with_reducible refine Gr.drewN ?_ _) | (with_reducible refine Gr.setCell ?_ (by simp <;> omega) _) | (with_reducible refine Gr.trans ?_ (by with_reducible assumption)) | exact Gr.refl _ | assumption | refine Gr.alloc ?_ _ | refine Gr.drew ?_ | refine Gr.drewN ?_ _ | refine Gr.setCell ?_ (by simp <;> omega) _ | refine Gr.trans ?_ (by assumption)))⟩
set_option maxHeartbeats 2000000 in
set_option maxRecDepth 100000 in
theorem written_bad (k l s N E : Int) (y : ByteArray) (h0 : (E != 0) = true) (w : World) :
    Calls Try.prog 32 #[.agg #[.int .i64 k, .int .i64 l, .int .i64 s], .agg #[.int .i64 N, .string y], .int .i64 E] w fun e w' => e = .returned (.tuple #[.string ⟨#[]⟩, .int .i64 0, .int .i64 E]) ∧ Gr w w' := by
  go_enter Try.func32, Try.ntmps32
  go_wp2
  go_ret3
  exact ⟨rfl, (by repeat (first | (with_reducible exact Gr.refl _) | (with_reducible assumption) | (with_reducible refine Gr.alloc ?_ _) | (with_reducible refine Gr.drew ?_) | (with_reducible refine Gr.drewN ?_ _) | (with_reducible refine Gr.setCell ?_ (by simp <;> omega) _) | (with_reducible refine Gr.trans ?_ (by with_reducible assumption)) | exact Gr.refl _ | assumption | refine Gr.alloc ?_ _ | refine Gr.drew ?_ | refine Gr.drewN ?_ _ | refine Gr.setCell ?_ (by simp <;> omega) _ | refine Gr.trans ?_ (by assumption)))⟩
set_option maxHeartbeats 2000000 in
set_option maxRecDepth 100000 in
theorem written_ok (k l s N : Int) (y z : ByteArray)
    (hB : ∀ w, Calls Try.prog 43 #[.agg #[.int .i64 k, .int .i64 l, .int .i64 s], .agg #[.int .i64 N, .string y]] w fun e w' => e = .returned (.string z) ∧ Gr w w') (w : World) :
    Calls Try.prog 32 #[.agg #[.int .i64 k, .int .i64 l, .int .i64 s], .agg #[.int .i64 N, .string y], .int .i64 0] w fun e w' => e = .returned (.tuple #[.string z, .int .i64 0, .int .i64 0]) ∧ Gr w w' := by
  go_enter Try.func32, Try.ntmps32
  go_wp2_with (go_at_call 43; (with_reducible refine (hB _).mono ?_); rintro e wa ⟨rfl, hb⟩)
  go_ret3
  exact ⟨rfl, (by repeat (first | (with_reducible exact Gr.refl _) | (with_reducible assumption) | (with_reducible refine Gr.alloc ?_ _) | (with_reducible refine Gr.drew ?_) | (with_reducible refine Gr.drewN ?_ _) | (with_reducible refine Gr.setCell ?_ (by simp <;> omega) _) | (with_reducible refine Gr.trans ?_ (by with_reducible assumption)) | exact Gr.refl _ | assumption | refine Gr.alloc ?_ _ | refine Gr.drew ?_ | refine Gr.drewN ?_ _ | refine Gr.setCell ?_ (by simp <;> omega) _ | refine Gr.trans ?_ (by assumption)))⟩
end Go.Proofs.Ytnaflaokhldfnaa
