/- Texts of the walks, merged. -/
import Derived.Test.YtnaflaokhldfnaaQ10
import Derived.Test.YtnaflaokhldfnaaQ14
namespace Go.Proofs.Ytnaflaokhldfnaa
set_option linter.unusedSimpArgs false
set_option linter.unusedVariables false
open Go.RowKit

set_option maxHeartbeats 8000000 in
set_option maxRecDepth 100000 in
theorem refCB_0 (op k l sc ka la sa kb lb sb  : Int) (half : Bool) (xa xb : ByteArray)
    (hW : ∀ w, Calls Try.prog 27 #[.int .i64 op, .int .i64 0, .int .i64 4] w fun e w' => e = .returned (.bool false) ∧ w = w')
    (w : World) :
    Calls Try.prog 11 #[.agg #[.int .i64 op, .int .i64 k, .int .i64 l, .int .i64 sc, .bool half], .agg #[.int .i64 ka, .int .i64 la, .int .i64 sa, .string xa], .agg #[.int .i64 kb, .int .i64 lb, .int .i64 sb, .string xb]] w fun e w' => e = .returned (.agg #[.string ⟨#[]⟩, .int .i64 0, .int .i64 4]) ∧ Gr w w' := by
  go_enter Try.func11, Try.ntmps11
  go_wp2_with ((go_at_call 27; (with_reducible refine (hW _).mono ?_); rintro e w1 ⟨rfl, rfl⟩))
  exact bodyPost_ret (v := .agg #[.string ⟨#[]⟩, .int .i64 0, .int .i64 4]) (by simp [results, Try.results11, go_sem, *]) rfl ⟨rfl, (by repeat (first | (with_reducible exact Gr.refl _) | (with_reducible assumption) | (with_reducible refine Gr.alloc ?_ _) | (with_reducible refine Gr.drew ?_) | (with_reducible refine Gr.drewN ?_ _) | (with_reducible refine Gr.setCell ?_ (by simp <;> omega) _) | (with_reducible refine Gr.trans ?_ (by with_reducible assumption)) | exact Gr.refl _ | assumption | refine Gr.alloc ?_ _ | refine Gr.drew ?_ | refine Gr.drewN ?_ _ | refine Gr.setCell ?_ (by simp <;> omega) _ | refine Gr.trans ?_ (by assumption)))⟩
set_option maxHeartbeats 8000000 in
set_option maxRecDepth 100000 in
theorem refCB_1 (op k l sc ka la sa kb lb sb E : Int) (half : Bool) (xa xb : ByteArray)
    (hW : ∀ w, Calls Try.prog 27 #[.int .i64 op, .int .i64 0, .int .i64 4] w fun e w' => e = .returned (.bool true) ∧ w = w')
    (h1 : ∀ w, Calls Try.prog 33 #[.agg #[.int .i64 ka, .int .i64 la, .int .i64 sa]] w fun e w' => e = .returned (.int .i64 E) ∧ Gr w w')
    (h0 : (E != 0) = true)
    (w : World) :
    Calls Try.prog 11 #[.agg #[.int .i64 op, .int .i64 k, .int .i64 l, .int .i64 sc, .bool half], .agg #[.int .i64 ka, .int .i64 la, .int .i64 sa, .string xa], .agg #[.int .i64 kb, .int .i64 lb, .int .i64 sb, .string xb]] w fun e w' => e = .returned (.agg #[.string ⟨#[]⟩, .int .i64 0, .int .i64 E]) ∧ Gr w w' := by
  go_enter Try.func11, Try.ntmps11
  go_upto_region 4 with ((go_at_call 27; (with_reducible refine (hW _).mono ?_); rintro e w1 ⟨rfl, rfl⟩))
  have q : ∀ W, W = ((((w.alloc (.cells #[.int .i64 op, .int .i64 k, .int .i64 l, .int .i64 sc, .bool half] 25)).alloc (.cells #[.int .i64 ka, .int .i64 la, .int .i64 sa, .string xa] 40)).alloc (.cells #[.int .i64 kb, .int .i64 lb, .int .i64 sb, .string xb] 40)).alloc (.cells #[.string ⟨#[]⟩, .int .i64 0, .int .i64 0] 44)).alloc (.cells #[.int .i64 ka, .int .i64 la, .int .i64 sa, .int .i64 kb, .int .i64 lb, .int .i64 sb, .int .i64 k, .int .i64 l, .int .i64 sc] 23) → (W.cell? ⟨w.heap.size, 0, none⟩ = some (.int .i64 op) ∧ W.cell? ⟨w.heap.size, 1, none⟩ = some (.int .i64 k) ∧ W.cell? ⟨w.heap.size, 2, none⟩ = some (.int .i64 l) ∧ W.cell? ⟨w.heap.size, 3, none⟩ = some (.int .i64 sc) ∧ W.cell? ⟨w.heap.size, 4, none⟩ = some (.bool half) ∧ W.cell? ⟨w.heap.size + 1, 0, none⟩ = some (.int .i64 ka) ∧ W.cell? ⟨w.heap.size + 1, 1, none⟩ = some (.int .i64 la) ∧ W.cell? ⟨w.heap.size + 1, 2, none⟩ = some (.int .i64 sa) ∧ W.cell? ⟨w.heap.size + 1, 3, none⟩ = some (.string xa) ∧ W.cell? ⟨w.heap.size + 1 + 1, 0, none⟩ = some (.int .i64 kb) ∧ W.cell? ⟨w.heap.size + 1 + 1, 1, none⟩ = some (.int .i64 lb) ∧ W.cell? ⟨w.heap.size + 1 + 1, 2, none⟩ = some (.int .i64 sb) ∧ W.cell? ⟨w.heap.size + 1 + 1, 3, none⟩ = some (.string xb) ∧ W.cell? ⟨w.heap.size + 1 + 1 + 1, 0, none⟩ = some (.string ⟨#[]⟩) ∧ W.cell? ⟨w.heap.size + 1 + 1 + 1, 1, none⟩ = some (.int .i64 0) ∧ W.cell? ⟨w.heap.size + 1 + 1 + 1, 2, none⟩ = some (.int .i64 0) ∧ W.cell? ⟨w.heap.size + 1 + 1 + 1 + 1, 0, none⟩ = some (.int .i64 ka) ∧ W.cell? ⟨w.heap.size + 1 + 1 + 1 + 1, 1, none⟩ = some (.int .i64 la) ∧ W.cell? ⟨w.heap.size + 1 + 1 + 1 + 1, 2, none⟩ = some (.int .i64 sa) ∧ W.cell? ⟨w.heap.size + 1 + 1 + 1 + 1, 3, none⟩ = some (.int .i64 kb) ∧ W.cell? ⟨w.heap.size + 1 + 1 + 1 + 1, 4, none⟩ = some (.int .i64 lb) ∧ W.cell? ⟨w.heap.size + 1 + 1 + 1 + 1, 5, none⟩ = some (.int .i64 sb) ∧ W.cell? ⟨w.heap.size + 1 + 1 + 1 + 1, 6, none⟩ = some (.int .i64 k) ∧ W.cell? ⟨w.heap.size + 1 + 1 + 1 + 1, 7, none⟩ = some (.int .i64 l) ∧ W.cell? ⟨w.heap.size + 1 + 1 + 1 + 1, 8, none⟩ = some (.int .i64 sc) ∧ W.frozen? ⟨w.heap.size + 1 + 1 + 1, 0, none⟩ = false ∧ W.frozen? ⟨w.heap.size + 1 + 1 + 1, 1, none⟩ = false ∧ W.frozen? ⟨w.heap.size + 1 + 1 + 1, 2, none⟩ = false ∧ Gr w W ∧ w.heap.size + 1 + 1 + 1 < W.heap.size) := by
    rintro W rfl
    refine ⟨?_, ?_, ?_, ?_, ?_, ?_, ?_, ?_, ?_, ?_, ?_, ?_, ?_, ?_, ?_, ?_, ?_, ?_, ?_, ?_, ?_, ?_, ?_, ?_, ?_, ?_, ?_, ?_, (by repeat (first | (with_reducible exact Gr.refl _) | (with_reducible assumption) | (with_reducible refine Gr.alloc ?_ _) | (with_reducible refine Gr.drew ?_) | (with_reducible refine Gr.drewN ?_ _) | (with_reducible refine Gr.setCell ?_ (by simp <;> omega) _) | (with_reducible refine Gr.trans ?_ (by with_reducible assumption)) | exact Gr.refl _ | assumption | refine Gr.alloc ?_ _ | refine Gr.drew ?_ | refine Gr.drewN ?_ _ | refine Gr.setCell ?_ (by simp <;> omega) _ | refine Gr.trans ?_ (by assumption))), ?_⟩ <;> first | (simp [go_sem]; done) | (simp; done) | (simp; omega)
  obtain ⟨r0, r1, r2, r3, r4, a0, a1, a2, a3, b0, b1, b2, b3, z0, z1, z2, s0, s1, s2, s3, s4, s5, s6, s7, s8, f0, f1, f2, hG, hz⟩ := q _ rfl
  have HG := Lib.hid hG
  have ZL := Lib.hid hz
  have Hr0 := Lib.hid r0
  have Hr1 := Lib.hid r1
  have Hr2 := Lib.hid r2
  have Hr3 := Lib.hid r3
  have Hr4 := Lib.hid r4
  have Ha0 := Lib.hid a0
  have Ha1 := Lib.hid a1
  have Ha2 := Lib.hid a2
  have Ha3 := Lib.hid a3
  have Hb0 := Lib.hid b0
  have Hb1 := Lib.hid b1
  have Hb2 := Lib.hid b2
  have Hb3 := Lib.hid b3
  have Hz0 := Lib.hid z0
  have Hz1 := Lib.hid z1
  have Hz2 := Lib.hid z2
  have Hs0 := Lib.hid s0
  have Hs1 := Lib.hid s1
  have Hs2 := Lib.hid s2
  have Hs3 := Lib.hid s3
  have Hs4 := Lib.hid s4
  have Hs5 := Lib.hid s5
  have Hs6 := Lib.hid s6
  have Hs7 := Lib.hid s7
  have Hs8 := Lib.hid s8
  have HF0 := Lib.hid f0
  have HF1 := Lib.hid f1
  have HF2 := Lib.hid f2
  have HWS := Lib.hid (fun (W : World) (h : Gr w W) (x y z : Value) => ((h.setCell (p := ⟨w.heap.size + 1 + 1 + 1, 0, none⟩) (by simp; omega) x).setCell (p := ⟨w.heap.size + 1 + 1 + 1, 1, none⟩) (by simp; omega) y).setCell (p := ⟨w.heap.size + 1 + 1 + 1, 2, none⟩) (by simp; omega) z)
  clear q hG
  generalize ((((w.alloc (.cells #[.int .i64 op, .int .i64 k, .int .i64 l, .int .i64 sc, .bool half] 25)).alloc (.cells #[.int .i64 ka, .int .i64 la, .int .i64 sa, .string xa] 40)).alloc (.cells #[.int .i64 kb, .int .i64 lb, .int .i64 sb, .string xb] 40)).alloc (.cells #[.string ⟨#[]⟩, .int .i64 0, .int .i64 0] 44)).alloc (.cells #[.int .i64 ka, .int .i64 la, .int .i64 sa, .int .i64 kb, .int .i64 lb, .int .i64 sb, .int .i64 k, .int .i64 l, .int .i64 sc] 23) = W0 at *
  generalize w.heap.size = G at *
  have lr := World.block_lt_of_cell? _ _ r0
  have la := World.block_lt_of_cell? _ _ a0
  have lb := World.block_lt_of_cell? _ _ b0
  have lz := World.block_lt_of_cell? _ _ z0
  have ls := World.block_lt_of_cell? _ _ s0
  (try dsimp only at lr la lb lz ls)
  go_wp2
  refine wp_loop_rounds 4 ?_
  rw [rounds_succ]
  go_wp2_with (go_at_call 33; (with_reducible refine (h1 _).mono ?_); rintro e wt0 ⟨rfl, hb⟩; have g := (show Gr W0 wt0 from Gr.trans (by repeat (first | (with_reducible exact Gr.refl _) | (with_reducible assumption) | (with_reducible refine Gr.alloc ?_ _) | (with_reducible refine Gr.drew ?_) | (with_reducible refine Gr.drewN ?_ _) | (with_reducible refine Gr.setCell ?_ (by simp <;> omega) _) | (with_reducible refine Gr.trans ?_ (by with_reducible assumption)) | exact Gr.refl _ | assumption | refine Gr.alloc ?_ _ | refine Gr.drew ?_ | refine Gr.drewN ?_ _ | refine Gr.setCell ?_ (by simp <;> omega) _ | refine Gr.trans ?_ (by assumption))) hb); have r0 := g.keep Hr0.out; have r1 := g.keep Hr1.out; have r2 := g.keep Hr2.out; have r3 := g.keep Hr3.out; have r4 := g.keep Hr4.out; have a0 := g.keep Ha0.out; have a1 := g.keep Ha1.out; have a2 := g.keep Ha2.out; have a3 := g.keep Ha3.out; have b0 := g.keep Hb0.out; have b1 := g.keep Hb1.out; have b2 := g.keep Hb2.out; have b3 := g.keep Hb3.out; have z0 := g.keep Hz0.out; have z1 := g.keep Hz1.out; have z2 := g.keep Hz2.out; have s0 := g.keep Hs0.out; have s1 := g.keep Hs1.out; have s2 := g.keep Hs2.out; have s3 := g.keep Hs3.out; have s4 := g.keep Hs4.out; have s5 := g.keep Hs5.out; have s6 := g.keep Hs6.out; have s7 := g.keep Hs7.out; have s8 := g.keep Hs8.out; have f0 := (g.cells.2 _ _ ZL.out).trans HF0.out; have f1 := (g.cells.2 _ _ ZL.out).trans HF1.out; have f2 := (g.cells.2 _ _ ZL.out).trans HF2.out; have lr := World.block_lt_of_cell? _ _ r0; have la := World.block_lt_of_cell? _ _ a0; have lb := World.block_lt_of_cell? _ _ b0; have lz := World.block_lt_of_cell? _ _ z0; have ls := World.block_lt_of_cell? _ _ s0; (try dsimp only at lr la lb lz ls))
  exact bodyPost_ret (v := .agg #[.string ⟨#[]⟩, .int .i64 0, .int .i64 E]) (by simp [results, Try.results11, go_sem, *]) rfl ⟨rfl, HWS.out _ (HG.out.trans (by repeat (first | (with_reducible exact Gr.refl _) | (with_reducible assumption) | (with_reducible refine Gr.alloc ?_ _) | (with_reducible refine Gr.drew ?_) | (with_reducible refine Gr.drewN ?_ _) | (with_reducible refine Gr.setCell ?_ (by simp <;> omega) _) | (with_reducible refine Gr.trans ?_ (by with_reducible assumption)) | exact Gr.refl _ | assumption | refine Gr.alloc ?_ _ | refine Gr.drew ?_ | refine Gr.drewN ?_ _ | refine Gr.setCell ?_ (by simp <;> omega) _ | refine Gr.trans ?_ (by assumption)))) _ _ _⟩
set_option maxHeartbeats 8000000 in
set_option maxRecDepth 100000 in
theorem refCB_2 (op k l sc ka la sa kb lb sb E : Int) (half : Bool) (xa xb : ByteArray)
    (hW : ∀ w, Calls Try.prog 27 #[.int .i64 op, .int .i64 0, .int .i64 4] w fun e w' => e = .returned (.bool true) ∧ w = w')
    (h1 : ∀ w, Calls Try.prog 33 #[.agg #[.int .i64 ka, .int .i64 la, .int .i64 sa]] w fun e w' => e = .returned (.int .i64 0) ∧ Gr w w')
    (h2 : ∀ w, Calls Try.prog 33 #[.agg #[.int .i64 kb, .int .i64 lb, .int .i64 sb]] w fun e w' => e = .returned (.int .i64 E) ∧ Gr w w')
    (h0 : (E != 0) = true)
    (w : World) :
    Calls Try.prog 11 #[.agg #[.int .i64 op, .int .i64 k, .int .i64 l, .int .i64 sc, .bool half], .agg #[.int .i64 ka, .int .i64 la, .int .i64 sa, .string xa], .agg #[.int .i64 kb, .int .i64 lb, .int .i64 sb, .string xb]] w fun e w' => e = .returned (.agg #[.string ⟨#[]⟩, .int .i64 0, .int .i64 E]) ∧ Gr w w' := by
  go_enter Try.func11, Try.ntmps11
  go_upto_region 4 with ((go_at_call 27; (with_reducible refine (hW _).mono ?_); rintro e w1 ⟨rfl, rfl⟩))
  have q : ∀ W, W = ((((w.alloc (.cells #[.int .i64 op, .int .i64 k, .int .i64 l, .int .i64 sc, .bool half] 25)).alloc (.cells #[.int .i64 ka, .int .i64 la, .int .i64 sa, .string xa] 40)).alloc (.cells #[.int .i64 kb, .int .i64 lb, .int .i64 sb, .string xb] 40)).alloc (.cells #[.string ⟨#[]⟩, .int .i64 0, .int .i64 0] 44)).alloc (.cells #[.int .i64 ka, .int .i64 la, .int .i64 sa, .int .i64 kb, .int .i64 lb, .int .i64 sb, .int .i64 k, .int .i64 l, .int .i64 sc] 23) → (W.cell? ⟨w.heap.size, 0, none⟩ = some (.int .i64 op) ∧ W.cell? ⟨w.heap.size, 1, none⟩ = some (.int .i64 k) ∧ W.cell? ⟨w.heap.size, 2, none⟩ = some (.int .i64 l) ∧ W.cell? ⟨w.heap.size, 3, none⟩ = some (.int .i64 sc) ∧ W.cell? ⟨w.heap.size, 4, none⟩ = some (.bool half) ∧ W.cell? ⟨w.heap.size + 1, 0, none⟩ = some (.int .i64 ka) ∧ W.cell? ⟨w.heap.size + 1, 1, none⟩ = some (.int .i64 la) ∧ W.cell? ⟨w.heap.size + 1, 2, none⟩ = some (.int .i64 sa) ∧ W.cell? ⟨w.heap.size + 1, 3, none⟩ = some (.string xa) ∧ W.cell? ⟨w.heap.size + 1 + 1, 0, none⟩ = some (.int .i64 kb) ∧ W.cell? ⟨w.heap.size + 1 + 1, 1, none⟩ = some (.int .i64 lb) ∧ W.cell? ⟨w.heap.size + 1 + 1, 2, none⟩ = some (.int .i64 sb) ∧ W.cell? ⟨w.heap.size + 1 + 1, 3, none⟩ = some (.string xb) ∧ W.cell? ⟨w.heap.size + 1 + 1 + 1, 0, none⟩ = some (.string ⟨#[]⟩) ∧ W.cell? ⟨w.heap.size + 1 + 1 + 1, 1, none⟩ = some (.int .i64 0) ∧ W.cell? ⟨w.heap.size + 1 + 1 + 1, 2, none⟩ = some (.int .i64 0) ∧ W.cell? ⟨w.heap.size + 1 + 1 + 1 + 1, 0, none⟩ = some (.int .i64 ka) ∧ W.cell? ⟨w.heap.size + 1 + 1 + 1 + 1, 1, none⟩ = some (.int .i64 la) ∧ W.cell? ⟨w.heap.size + 1 + 1 + 1 + 1, 2, none⟩ = some (.int .i64 sa) ∧ W.cell? ⟨w.heap.size + 1 + 1 + 1 + 1, 3, none⟩ = some (.int .i64 kb) ∧ W.cell? ⟨w.heap.size + 1 + 1 + 1 + 1, 4, none⟩ = some (.int .i64 lb) ∧ W.cell? ⟨w.heap.size + 1 + 1 + 1 + 1, 5, none⟩ = some (.int .i64 sb) ∧ W.cell? ⟨w.heap.size + 1 + 1 + 1 + 1, 6, none⟩ = some (.int .i64 k) ∧ W.cell? ⟨w.heap.size + 1 + 1 + 1 + 1, 7, none⟩ = some (.int .i64 l) ∧ W.cell? ⟨w.heap.size + 1 + 1 + 1 + 1, 8, none⟩ = some (.int .i64 sc) ∧ W.frozen? ⟨w.heap.size + 1 + 1 + 1, 0, none⟩ = false ∧ W.frozen? ⟨w.heap.size + 1 + 1 + 1, 1, none⟩ = false ∧ W.frozen? ⟨w.heap.size + 1 + 1 + 1, 2, none⟩ = false ∧ Gr w W ∧ w.heap.size + 1 + 1 + 1 < W.heap.size) := by
    rintro W rfl
    refine ⟨?_, ?_, ?_, ?_, ?_, ?_, ?_, ?_, ?_, ?_, ?_, ?_, ?_, ?_, ?_, ?_, ?_, ?_, ?_, ?_, ?_, ?_, ?_, ?_, ?_, ?_, ?_, ?_, (by repeat (first | (with_reducible exact Gr.refl _) | (with_reducible assumption) | (with_reducible refine Gr.alloc ?_ _) | (with_reducible refine Gr.drew ?_) | (with_reducible refine Gr.drewN ?_ _) | (with_reducible refine Gr.setCell ?_ (by simp <;> omega) _) | (with_reducible refine Gr.trans ?_ (by with_reducible assumption)) | exact Gr.refl _ | assumption | refine Gr.alloc ?_ _ | refine Gr.drew ?_ | refine Gr.drewN ?_ _ | refine Gr.setCell ?_ (by simp <;> omega) _ | refine Gr.trans ?_ (by assumption))), ?_⟩ <;> first | (simp [go_sem]; done) | (simp; done) | (simp; omega)
  obtain ⟨r0, r1, r2, r3, r4, a0, a1, a2, a3, b0, b1, b2, b3, z0, z1, z2, s0, s1, s2, s3, s4, s5, s6, s7, s8, f0, f1, f2, hG, hz⟩ := q _ rfl
  have HG := Lib.hid hG
  have ZL := Lib.hid hz
  have Hr0 := Lib.hid r0
  have Hr1 := Lib.hid r1
  have Hr2 := Lib.hid r2
  have Hr3 := Lib.hid r3
  have Hr4 := Lib.hid r4
  have Ha0 := Lib.hid a0
  have Ha1 := Lib.hid a1
  have Ha2 := Lib.hid a2
  have Ha3 := Lib.hid a3
  have Hb0 := Lib.hid b0
  have Hb1 := Lib.hid b1
  have Hb2 := Lib.hid b2
  have Hb3 := Lib.hid b3
  have Hz0 := Lib.hid z0
  have Hz1 := Lib.hid z1
  have Hz2 := Lib.hid z2
  have Hs0 := Lib.hid s0
  have Hs1 := Lib.hid s1
  have Hs2 := Lib.hid s2
  have Hs3 := Lib.hid s3
  have Hs4 := Lib.hid s4
  have Hs5 := Lib.hid s5
  have Hs6 := Lib.hid s6
  have Hs7 := Lib.hid s7
  have Hs8 := Lib.hid s8
  have HF0 := Lib.hid f0
  have HF1 := Lib.hid f1
  have HF2 := Lib.hid f2
  have HWS := Lib.hid (fun (W : World) (h : Gr w W) (x y z : Value) => ((h.setCell (p := ⟨w.heap.size + 1 + 1 + 1, 0, none⟩) (by simp; omega) x).setCell (p := ⟨w.heap.size + 1 + 1 + 1, 1, none⟩) (by simp; omega) y).setCell (p := ⟨w.heap.size + 1 + 1 + 1, 2, none⟩) (by simp; omega) z)
  clear q hG
  generalize ((((w.alloc (.cells #[.int .i64 op, .int .i64 k, .int .i64 l, .int .i64 sc, .bool half] 25)).alloc (.cells #[.int .i64 ka, .int .i64 la, .int .i64 sa, .string xa] 40)).alloc (.cells #[.int .i64 kb, .int .i64 lb, .int .i64 sb, .string xb] 40)).alloc (.cells #[.string ⟨#[]⟩, .int .i64 0, .int .i64 0] 44)).alloc (.cells #[.int .i64 ka, .int .i64 la, .int .i64 sa, .int .i64 kb, .int .i64 lb, .int .i64 sb, .int .i64 k, .int .i64 l, .int .i64 sc] 23) = W0 at *
  generalize w.heap.size = G at *
  have lr := World.block_lt_of_cell? _ _ r0
  have la := World.block_lt_of_cell? _ _ a0
  have lb := World.block_lt_of_cell? _ _ b0
  have lz := World.block_lt_of_cell? _ _ z0
  have ls := World.block_lt_of_cell? _ _ s0
  (try dsimp only at lr la lb lz ls)
  go_wp2
  refine wp_loop_rounds 4 ?_
  rw [rounds_succ]
  go_wp2_with (go_at_call 33; (with_reducible refine (h1 _).mono ?_); rintro e wt0 ⟨rfl, hb⟩; have g := (show Gr W0 wt0 from Gr.trans (by repeat (first | (with_reducible exact Gr.refl _) | (with_reducible assumption) | (with_reducible refine Gr.alloc ?_ _) | (with_reducible refine Gr.drew ?_) | (with_reducible refine Gr.drewN ?_ _) | (with_reducible refine Gr.setCell ?_ (by simp <;> omega) _) | (with_reducible refine Gr.trans ?_ (by with_reducible assumption)) | exact Gr.refl _ | assumption | refine Gr.alloc ?_ _ | refine Gr.drew ?_ | refine Gr.drewN ?_ _ | refine Gr.setCell ?_ (by simp <;> omega) _ | refine Gr.trans ?_ (by assumption))) hb); have r0 := g.keep Hr0.out; have r1 := g.keep Hr1.out; have r2 := g.keep Hr2.out; have r3 := g.keep Hr3.out; have r4 := g.keep Hr4.out; have a0 := g.keep Ha0.out; have a1 := g.keep Ha1.out; have a2 := g.keep Ha2.out; have a3 := g.keep Ha3.out; have b0 := g.keep Hb0.out; have b1 := g.keep Hb1.out; have b2 := g.keep Hb2.out; have b3 := g.keep Hb3.out; have z0 := g.keep Hz0.out; have z1 := g.keep Hz1.out; have z2 := g.keep Hz2.out; have s0 := g.keep Hs0.out; have s1 := g.keep Hs1.out; have s2 := g.keep Hs2.out; have s3 := g.keep Hs3.out; have s4 := g.keep Hs4.out; have s5 := g.keep Hs5.out; have s6 := g.keep Hs6.out; have s7 := g.keep Hs7.out; have s8 := g.keep Hs8.out; have f0 := (g.cells.2 _ _ ZL.out).trans HF0.out; have f1 := (g.cells.2 _ _ ZL.out).trans HF1.out; have f2 := (g.cells.2 _ _ ZL.out).trans HF2.out; have lr := World.block_lt_of_cell? _ _ r0; have la := World.block_lt_of_cell? _ _ a0; have lb := World.block_lt_of_cell? _ _ b0; have lz := World.block_lt_of_cell? _ _ z0; have ls := World.block_lt_of_cell? _ _ s0; (try dsimp only at lr la lb lz ls))
  rw [rounds_succ]
  go_wp2_with (go_at_call 33; (with_reducible refine (h2 _).mono ?_); rintro e wt1 ⟨rfl, hb⟩; have g := (show Gr W0 wt1 from Gr.trans (by repeat (first | (with_reducible exact Gr.refl _) | (with_reducible assumption) | (with_reducible refine Gr.alloc ?_ _) | (with_reducible refine Gr.drew ?_) | (with_reducible refine Gr.drewN ?_ _) | (with_reducible refine Gr.setCell ?_ (by simp <;> omega) _) | (with_reducible refine Gr.trans ?_ (by with_reducible assumption)) | exact Gr.refl _ | assumption | refine Gr.alloc ?_ _ | refine Gr.drew ?_ | refine Gr.drewN ?_ _ | refine Gr.setCell ?_ (by simp <;> omega) _ | refine Gr.trans ?_ (by assumption))) hb); have r0 := g.keep Hr0.out; have r1 := g.keep Hr1.out; have r2 := g.keep Hr2.out; have r3 := g.keep Hr3.out; have r4 := g.keep Hr4.out; have a0 := g.keep Ha0.out; have a1 := g.keep Ha1.out; have a2 := g.keep Ha2.out; have a3 := g.keep Ha3.out; have b0 := g.keep Hb0.out; have b1 := g.keep Hb1.out; have b2 := g.keep Hb2.out; have b3 := g.keep Hb3.out; have z0 := g.keep Hz0.out; have z1 := g.keep Hz1.out; have z2 := g.keep Hz2.out; have s0 := g.keep Hs0.out; have s1 := g.keep Hs1.out; have s2 := g.keep Hs2.out; have s3 := g.keep Hs3.out; have s4 := g.keep Hs4.out; have s5 := g.keep Hs5.out; have s6 := g.keep Hs6.out; have s7 := g.keep Hs7.out; have s8 := g.keep Hs8.out; have f0 := (g.cells.2 _ _ ZL.out).trans HF0.out; have f1 := (g.cells.2 _ _ ZL.out).trans HF1.out; have f2 := (g.cells.2 _ _ ZL.out).trans HF2.out; have lr := World.block_lt_of_cell? _ _ r0; have la := World.block_lt_of_cell? _ _ a0; have lb := World.block_lt_of_cell? _ _ b0; have lz := World.block_lt_of_cell? _ _ z0; have ls := World.block_lt_of_cell? _ _ s0; (try dsimp only at lr la lb lz ls))
  exact bodyPost_ret (v := .agg #[.string ⟨#[]⟩, .int .i64 0, .int .i64 E]) (by simp [results, Try.results11, go_sem, *]) rfl ⟨rfl, HWS.out _ (HG.out.trans (by repeat (first | (with_reducible exact Gr.refl _) | (with_reducible assumption) | (with_reducible refine Gr.alloc ?_ _) | (with_reducible refine Gr.drew ?_) | (with_reducible refine Gr.drewN ?_ _) | (with_reducible refine Gr.setCell ?_ (by simp <;> omega) _) | (with_reducible refine Gr.trans ?_ (by with_reducible assumption)) | exact Gr.refl _ | assumption | refine Gr.alloc ?_ _ | refine Gr.drew ?_ | refine Gr.drewN ?_ _ | refine Gr.setCell ?_ (by simp <;> omega) _ | refine Gr.trans ?_ (by assumption)))) _ _ _⟩
set_option maxHeartbeats 8000000 in
set_option maxRecDepth 100000 in
theorem refCB_3 (op k l sc ka la sa kb lb sb E : Int) (half : Bool) (xa xb : ByteArray)
    (hW : ∀ w, Calls Try.prog 27 #[.int .i64 op, .int .i64 0, .int .i64 4] w fun e w' => e = .returned (.bool true) ∧ w = w')
    (h1 : ∀ w, Calls Try.prog 33 #[.agg #[.int .i64 ka, .int .i64 la, .int .i64 sa]] w fun e w' => e = .returned (.int .i64 0) ∧ Gr w w')
    (h2 : ∀ w, Calls Try.prog 33 #[.agg #[.int .i64 kb, .int .i64 lb, .int .i64 sb]] w fun e w' => e = .returned (.int .i64 0) ∧ Gr w w')
    (h3 : ∀ w, Calls Try.prog 33 #[.agg #[.int .i64 k, .int .i64 l, .int .i64 sc]] w fun e w' => e = .returned (.int .i64 E) ∧ Gr w w')
    (h0 : (E != 0) = true)
    (w : World) :
    Calls Try.prog 11 #[.agg #[.int .i64 op, .int .i64 k, .int .i64 l, .int .i64 sc, .bool half], .agg #[.int .i64 ka, .int .i64 la, .int .i64 sa, .string xa], .agg #[.int .i64 kb, .int .i64 lb, .int .i64 sb, .string xb]] w fun e w' => e = .returned (.agg #[.string ⟨#[]⟩, .int .i64 0, .int .i64 E]) ∧ Gr w w' := by
  go_enter Try.func11, Try.ntmps11
  go_upto_region 4 with ((go_at_call 27; (with_reducible refine (hW _).mono ?_); rintro e w1 ⟨rfl, rfl⟩))
  have q : ∀ W, W = ((((w.alloc (.cells #[.int .i64 op, .int .i64 k, .int .i64 l, .int .i64 sc, .bool half] 25)).alloc (.cells #[.int .i64 ka, .int .i64 la, .int .i64 sa, .string xa] 40)).alloc (.cells #[.int .i64 kb, .int .i64 lb, .int .i64 sb, .string xb] 40)).alloc (.cells #[.string ⟨#[]⟩, .int .i64 0, .int .i64 0] 44)).alloc (.cells #[.int .i64 ka, .int .i64 la, .int .i64 sa, .int .i64 kb, .int .i64 lb, .int .i64 sb, .int .i64 k, .int .i64 l, .int .i64 sc] 23) → (W.cell? ⟨w.heap.size, 0, none⟩ = some (.int .i64 op) ∧ W.cell? ⟨w.heap.size, 1, none⟩ = some (.int .i64 k) ∧ W.cell? ⟨w.heap.size, 2, none⟩ = some (.int .i64 l) ∧ W.cell? ⟨w.heap.size, 3, none⟩ = some (.int .i64 sc) ∧ W.cell? ⟨w.heap.size, 4, none⟩ = some (.bool half) ∧ W.cell? ⟨w.heap.size + 1, 0, none⟩ = some (.int .i64 ka) ∧ W.cell? ⟨w.heap.size + 1, 1, none⟩ = some (.int .i64 la) ∧ W.cell? ⟨w.heap.size + 1, 2, none⟩ = some (.int .i64 sa) ∧ W.cell? ⟨w.heap.size + 1, 3, none⟩ = some (.string xa) ∧ W.cell? ⟨w.heap.size + 1 + 1, 0, none⟩ = some (.int .i64 kb) ∧ W.cell? ⟨w.heap.size + 1 + 1, 1, none⟩ = some (.int .i64 lb) ∧ W.cell? ⟨w.heap.size + 1 + 1, 2, none⟩ = some (.int .i64 sb) ∧ W.cell? ⟨w.heap.size + 1 + 1, 3, none⟩ = some (.string xb) ∧ W.cell? ⟨w.heap.size + 1 + 1 + 1, 0, none⟩ = some (.string ⟨#[]⟩) ∧ W.cell? ⟨w.heap.size + 1 + 1 + 1, 1, none⟩ = some (.int .i64 0) ∧ W.cell? ⟨w.heap.size + 1 + 1 + 1, 2, none⟩ = some (.int .i64 0) ∧ W.cell? ⟨w.heap.size + 1 + 1 + 1 + 1, 0, none⟩ = some (.int .i64 ka) ∧ W.cell? ⟨w.heap.size + 1 + 1 + 1 + 1, 1, none⟩ = some (.int .i64 la) ∧ W.cell? ⟨w.heap.size + 1 + 1 + 1 + 1, 2, none⟩ = some (.int .i64 sa) ∧ W.cell? ⟨w.heap.size + 1 + 1 + 1 + 1, 3, none⟩ = some (.int .i64 kb) ∧ W.cell? ⟨w.heap.size + 1 + 1 + 1 + 1, 4, none⟩ = some (.int .i64 lb) ∧ W.cell? ⟨w.heap.size + 1 + 1 + 1 + 1, 5, none⟩ = some (.int .i64 sb) ∧ W.cell? ⟨w.heap.size + 1 + 1 + 1 + 1, 6, none⟩ = some (.int .i64 k) ∧ W.cell? ⟨w.heap.size + 1 + 1 + 1 + 1, 7, none⟩ = some (.int .i64 l) ∧ W.cell? ⟨w.heap.size + 1 + 1 + 1 + 1, 8, none⟩ = some (.int .i64 sc) ∧ W.frozen? ⟨w.heap.size + 1 + 1 + 1, 0, none⟩ = false ∧ W.frozen? ⟨w.heap.size + 1 + 1 + 1, 1, none⟩ = false ∧ W.frozen? ⟨w.heap.size + 1 + 1 + 1, 2, none⟩ = false ∧ Gr w W ∧ w.heap.size + 1 + 1 + 1 < W.heap.size) := by
    rintro W rfl
    refine ⟨?_, ?_, ?_, ?_, ?_, ?_, ?_, ?_, ?_, ?_, ?_, ?_, ?_, ?_, ?_, ?_, ?_, ?_, ?_, ?_, ?_, ?_, ?_, ?_, ?_, ?_, ?_, ?_, (by repeat (first | (with_reducible exact Gr.refl _) | (with_reducible assumption) | (with_reducible refine Gr.alloc ?_ _) | (with_reducible refine Gr.drew ?_) | (with_reducible refine Gr.drewN ?_ _) | (with_reducible refine Gr.setCell ?_ (by simp <;> omega) _) | (with_reducible refine Gr.trans ?_ (by with_reducible assumption)) | exact Gr.refl _ | assumption | refine Gr.alloc ?_ _ | refine Gr.drew ?_ | refine Gr.drewN ?_ _ | refine Gr.setCell ?_ (by simp <;> omega) _ | refine Gr.trans ?_ (by assumption))), ?_⟩ <;> first | (simp [go_sem]; done) | (simp; done) | (simp; omega)
  obtain ⟨r0, r1, r2, r3, r4, a0, a1, a2, a3, b0, b1, b2, b3, z0, z1, z2, s0, s1, s2, s3, s4, s5, s6, s7, s8, f0, f1, f2, hG, hz⟩ := q _ rfl
  have HG := Lib.hid hG
  have ZL := Lib.hid hz
  have Hr0 := Lib.hid r0
  have Hr1 := Lib.hid r1
  have Hr2 := Lib.hid r2
  have Hr3 := Lib.hid r3
  have Hr4 := Lib.hid r4
  have Ha0 := Lib.hid a0
  have Ha1 := Lib.hid a1
  have Ha2 := Lib.hid a2
  have Ha3 := Lib.hid a3
  have Hb0 := Lib.hid b0
  have Hb1 := Lib.hid b1
  have Hb2 := Lib.hid b2
  have Hb3 := Lib.hid b3
  have Hz0 := Lib.hid z0
  have Hz1 := Lib.hid z1
  have Hz2 := Lib.hid z2
  have Hs0 := Lib.hid s0
  have Hs1 := Lib.hid s1
  have Hs2 := Lib.hid s2
  have Hs3 := Lib.hid s3
  have Hs4 := Lib.hid s4
  have Hs5 := Lib.hid s5
  have Hs6 := Lib.hid s6
  have Hs7 := Lib.hid s7
  have Hs8 := Lib.hid s8
  have HF0 := Lib.hid f0
  have HF1 := Lib.hid f1
  have HF2 := Lib.hid f2
  have HWS := Lib.hid (fun (W : World) (h : Gr w W) (x y z : Value) => ((h.setCell (p := ⟨w.heap.size + 1 + 1 + 1, 0, none⟩) (by simp; omega) x).setCell (p := ⟨w.heap.size + 1 + 1 + 1, 1, none⟩) (by simp; omega) y).setCell (p := ⟨w.heap.size + 1 + 1 + 1, 2, none⟩) (by simp; omega) z)
  clear q hG
  generalize ((((w.alloc (.cells #[.int .i64 op, .int .i64 k, .int .i64 l, .int .i64 sc, .bool half] 25)).alloc (.cells #[.int .i64 ka, .int .i64 la, .int .i64 sa, .string xa] 40)).alloc (.cells #[.int .i64 kb, .int .i64 lb, .int .i64 sb, .string xb] 40)).alloc (.cells #[.string ⟨#[]⟩, .int .i64 0, .int .i64 0] 44)).alloc (.cells #[.int .i64 ka, .int .i64 la, .int .i64 sa, .int .i64 kb, .int .i64 lb, .int .i64 sb, .int .i64 k, .int .i64 l, .int .i64 sc] 23) = W0 at *
  generalize w.heap.size = G at *
  have lr := World.block_lt_of_cell? _ _ r0
  have la := World.block_lt_of_cell? _ _ a0
  have lb := World.block_lt_of_cell? _ _ b0
  have lz := World.block_lt_of_cell? _ _ z0
  have ls := World.block_lt_of_cell? _ _ s0
  (try dsimp only at lr la lb lz ls)
  go_wp2
  refine wp_loop_rounds 4 ?_
  rw [rounds_succ]
  go_wp2_with (go_at_call 33; (with_reducible refine (h1 _).mono ?_); rintro e wt0 ⟨rfl, hb⟩; have g := (show Gr W0 wt0 from Gr.trans (by repeat (first | (with_reducible exact Gr.refl _) | (with_reducible assumption) | (with_reducible refine Gr.alloc ?_ _) | (with_reducible refine Gr.drew ?_) | (with_reducible refine Gr.drewN ?_ _) | (with_reducible refine Gr.setCell ?_ (by simp <;> omega) _) | (with_reducible refine Gr.trans ?_ (by with_reducible assumption)) | exact Gr.refl _ | assumption | refine Gr.alloc ?_ _ | refine Gr.drew ?_ | refine Gr.drewN ?_ _ | refine Gr.setCell ?_ (by simp <;> omega) _ | refine Gr.trans ?_ (by assumption))) hb); have r0 := g.keep Hr0.out; have r1 := g.keep Hr1.out; have r2 := g.keep Hr2.out; have r3 := g.keep Hr3.out; have r4 := g.keep Hr4.out; have a0 := g.keep Ha0.out; have a1 := g.keep Ha1.out; have a2 := g.keep Ha2.out; have a3 := g.keep Ha3.out; have b0 := g.keep Hb0.out; have b1 := g.keep Hb1.out; have b2 := g.keep Hb2.out; have b3 := g.keep Hb3.out; have z0 := g.keep Hz0.out; have z1 := g.keep Hz1.out; have z2 := g.keep Hz2.out; have s0 := g.keep Hs0.out; have s1 := g.keep Hs1.out; have s2 := g.keep Hs2.out; have s3 := g.keep Hs3.out; have s4 := g.keep Hs4.out; have s5 := g.keep Hs5.out; have s6 := g.keep Hs6.out; have s7 := g.keep Hs7.out; have s8 := g.keep Hs8.out; have f0 := (g.cells.2 _ _ ZL.out).trans HF0.out; have f1 := (g.cells.2 _ _ ZL.out).trans HF1.out; have f2 := (g.cells.2 _ _ ZL.out).trans HF2.out; have lr := World.block_lt_of_cell? _ _ r0; have la := World.block_lt_of_cell? _ _ a0; have lb := World.block_lt_of_cell? _ _ b0; have lz := World.block_lt_of_cell? _ _ z0; have ls := World.block_lt_of_cell? _ _ s0; (try dsimp only at lr la lb lz ls))
  rw [rounds_succ]
  go_wp2_with (go_at_call 33; (with_reducible refine (h2 _).mono ?_); rintro e wt1 ⟨rfl, hb⟩; have g := (show Gr W0 wt1 from Gr.trans (by repeat (first | (with_reducible exact Gr.refl _) | (with_reducible assumption) | (with_reducible refine Gr.alloc ?_ _) | (with_reducible refine Gr.drew ?_) | (with_reducible refine Gr.drewN ?_ _) | (with_reducible refine Gr.setCell ?_ (by simp <;> omega) _) | (with_reducible refine Gr.trans ?_ (by with_reducible assumption)) | exact Gr.refl _ | assumption | refine Gr.alloc ?_ _ | refine Gr.drew ?_ | refine Gr.drewN ?_ _ | refine Gr.setCell ?_ (by simp <;> omega) _ | refine Gr.trans ?_ (by assumption))) hb); have r0 := g.keep Hr0.out; have r1 := g.keep Hr1.out; have r2 := g.keep Hr2.out; have r3 := g.keep Hr3.out; have r4 := g.keep Hr4.out; have a0 := g.keep Ha0.out; have a1 := g.keep Ha1.out; have a2 := g.keep Ha2.out; have a3 := g.keep Ha3.out; have b0 := g.keep Hb0.out; have b1 := g.keep Hb1.out; have b2 := g.keep Hb2.out; have b3 := g.keep Hb3.out; have z0 := g.keep Hz0.out; have z1 := g.keep Hz1.out; have z2 := g.keep Hz2.out; have s0 := g.keep Hs0.out; have s1 := g.keep Hs1.out; have s2 := g.keep Hs2.out; have s3 := g.keep Hs3.out; have s4 := g.keep Hs4.out; have s5 := g.keep Hs5.out; have s6 := g.keep Hs6.out; have s7 := g.keep Hs7.out; have s8 := g.keep Hs8.out; have f0 := (g.cells.2 _ _ ZL.out).trans HF0.out; have f1 := (g.cells.2 _ _ ZL.out).trans HF1.out; have f2 := (g.cells.2 _ _ ZL.out).trans HF2.out; have lr := World.block_lt_of_cell? _ _ r0; have la := World.block_lt_of_cell? _ _ a0; have lb := World.block_lt_of_cell? _ _ b0; have lz := World.block_lt_of_cell? _ _ z0; have ls := World.block_lt_of_cell? _ _ s0; (try dsimp only at lr la lb lz ls))
  rw [rounds_succ]
  go_wp2_with (go_at_call 33; (with_reducible refine (h3 _).mono ?_); rintro e wt2 ⟨rfl, hb⟩; have g := (show Gr W0 wt2 from Gr.trans (by repeat (first | (with_reducible exact Gr.refl _) | (with_reducible assumption) | (with_reducible refine Gr.alloc ?_ _) | (with_reducible refine Gr.drew ?_) | (with_reducible refine Gr.drewN ?_ _) | (with_reducible refine Gr.setCell ?_ (by simp <;> omega) _) | (with_reducible refine Gr.trans ?_ (by with_reducible assumption)) | exact Gr.refl _ | assumption | refine Gr.alloc ?_ _ | refine Gr.drew ?_ | refine Gr.drewN ?_ _ | refine Gr.setCell ?_ (by simp <;> omega) _ | refine Gr.trans ?_ (by assumption))) hb); have r0 := g.keep Hr0.out; have r1 := g.keep Hr1.out; have r2 := g.keep Hr2.out; have r3 := g.keep Hr3.out; have r4 := g.keep Hr4.out; have a0 := g.keep Ha0.out; have a1 := g.keep Ha1.out; have a2 := g.keep Ha2.out; have a3 := g.keep Ha3.out; have b0 := g.keep Hb0.out; have b1 := g.keep Hb1.out; have b2 := g.keep Hb2.out; have b3 := g.keep Hb3.out; have z0 := g.keep Hz0.out; have z1 := g.keep Hz1.out; have z2 := g.keep Hz2.out; have s0 := g.keep Hs0.out; have s1 := g.keep Hs1.out; have s2 := g.keep Hs2.out; have s3 := g.keep Hs3.out; have s4 := g.keep Hs4.out; have s5 := g.keep Hs5.out; have s6 := g.keep Hs6.out; have s7 := g.keep Hs7.out; have s8 := g.keep Hs8.out; have f0 := (g.cells.2 _ _ ZL.out).trans HF0.out; have f1 := (g.cells.2 _ _ ZL.out).trans HF1.out; have f2 := (g.cells.2 _ _ ZL.out).trans HF2.out; have lr := World.block_lt_of_cell? _ _ r0; have la := World.block_lt_of_cell? _ _ a0; have lb := World.block_lt_of_cell? _ _ b0; have lz := World.block_lt_of_cell? _ _ z0; have ls := World.block_lt_of_cell? _ _ s0; (try dsimp only at lr la lb lz ls))
  exact bodyPost_ret (v := .agg #[.string ⟨#[]⟩, .int .i64 0, .int .i64 E]) (by simp [results, Try.results11, go_sem, *]) rfl ⟨rfl, HWS.out _ (HG.out.trans (by repeat (first | (with_reducible exact Gr.refl _) | (with_reducible assumption) | (with_reducible refine Gr.alloc ?_ _) | (with_reducible refine Gr.drew ?_) | (with_reducible refine Gr.drewN ?_ _) | (with_reducible refine Gr.setCell ?_ (by simp <;> omega) _) | (with_reducible refine Gr.trans ?_ (by with_reducible assumption)) | exact Gr.refl _ | assumption | refine Gr.alloc ?_ _ | refine Gr.drew ?_ | refine Gr.drewN ?_ _ | refine Gr.setCell ?_ (by simp <;> omega) _ | refine Gr.trans ?_ (by assumption)))) _ _ _⟩
set_option maxHeartbeats 8000000 in
set_option maxRecDepth 100000 in
theorem refCB_4 (op k l sc ka la sa kb lb sb  : Int) (half : Bool) (xa xb : ByteArray)
    (hW : ∀ w, Calls Try.prog 27 #[.int .i64 op, .int .i64 0, .int .i64 4] w fun e w' => e = .returned (.bool true) ∧ w = w')
    (h1 : ∀ w, Calls Try.prog 33 #[.agg #[.int .i64 ka, .int .i64 la, .int .i64 sa]] w fun e w' => e = .returned (.int .i64 0) ∧ Gr w w')
    (h2 : ∀ w, Calls Try.prog 33 #[.agg #[.int .i64 kb, .int .i64 lb, .int .i64 sb]] w fun e w' => e = .returned (.int .i64 0) ∧ Gr w w')
    (h3 : ∀ w, Calls Try.prog 33 #[.agg #[.int .i64 k, .int .i64 l, .int .i64 sc]] w fun e w' => e = .returned (.int .i64 0) ∧ Gr w w')
    (n1 : ∀ w, Calls Try.prog 34 #[.int .i64 ka] w fun e w' => e = .returned (.bool false) ∧ w = w')
    (w : World) :
    Calls Try.prog 11 #[.agg #[.int .i64 op, .int .i64 k, .int .i64 l, .int .i64 sc, .bool half], .agg #[.int .i64 ka, .int .i64 la, .int .i64 sa, .string xa], .agg #[.int .i64 kb, .int .i64 lb, .int .i64 sb, .string xb]] w fun e w' => e = .returned (.agg #[.string ⟨#[]⟩, .int .i64 0, .int .i64 17]) ∧ Gr w w' := by
  go_enter Try.func11, Try.ntmps11
  go_upto_region 4 with ((go_at_call 27; (with_reducible refine (hW _).mono ?_); rintro e w1 ⟨rfl, rfl⟩))
  have q : ∀ W, W = ((((w.alloc (.cells #[.int .i64 op, .int .i64 k, .int .i64 l, .int .i64 sc, .bool half] 25)).alloc (.cells #[.int .i64 ka, .int .i64 la, .int .i64 sa, .string xa] 40)).alloc (.cells #[.int .i64 kb, .int .i64 lb, .int .i64 sb, .string xb] 40)).alloc (.cells #[.string ⟨#[]⟩, .int .i64 0, .int .i64 0] 44)).alloc (.cells #[.int .i64 ka, .int .i64 la, .int .i64 sa, .int .i64 kb, .int .i64 lb, .int .i64 sb, .int .i64 k, .int .i64 l, .int .i64 sc] 23) → (W.cell? ⟨w.heap.size, 0, none⟩ = some (.int .i64 op) ∧ W.cell? ⟨w.heap.size, 1, none⟩ = some (.int .i64 k) ∧ W.cell? ⟨w.heap.size, 2, none⟩ = some (.int .i64 l) ∧ W.cell? ⟨w.heap.size, 3, none⟩ = some (.int .i64 sc) ∧ W.cell? ⟨w.heap.size, 4, none⟩ = some (.bool half) ∧ W.cell? ⟨w.heap.size + 1, 0, none⟩ = some (.int .i64 ka) ∧ W.cell? ⟨w.heap.size + 1, 1, none⟩ = some (.int .i64 la) ∧ W.cell? ⟨w.heap.size + 1, 2, none⟩ = some (.int .i64 sa) ∧ W.cell? ⟨w.heap.size + 1, 3, none⟩ = some (.string xa) ∧ W.cell? ⟨w.heap.size + 1 + 1, 0, none⟩ = some (.int .i64 kb) ∧ W.cell? ⟨w.heap.size + 1 + 1, 1, none⟩ = some (.int .i64 lb) ∧ W.cell? ⟨w.heap.size + 1 + 1, 2, none⟩ = some (.int .i64 sb) ∧ W.cell? ⟨w.heap.size + 1 + 1, 3, none⟩ = some (.string xb) ∧ W.cell? ⟨w.heap.size + 1 + 1 + 1, 0, none⟩ = some (.string ⟨#[]⟩) ∧ W.cell? ⟨w.heap.size + 1 + 1 + 1, 1, none⟩ = some (.int .i64 0) ∧ W.cell? ⟨w.heap.size + 1 + 1 + 1, 2, none⟩ = some (.int .i64 0) ∧ W.cell? ⟨w.heap.size + 1 + 1 + 1 + 1, 0, none⟩ = some (.int .i64 ka) ∧ W.cell? ⟨w.heap.size + 1 + 1 + 1 + 1, 1, none⟩ = some (.int .i64 la) ∧ W.cell? ⟨w.heap.size + 1 + 1 + 1 + 1, 2, none⟩ = some (.int .i64 sa) ∧ W.cell? ⟨w.heap.size + 1 + 1 + 1 + 1, 3, none⟩ = some (.int .i64 kb) ∧ W.cell? ⟨w.heap.size + 1 + 1 + 1 + 1, 4, none⟩ = some (.int .i64 lb) ∧ W.cell? ⟨w.heap.size + 1 + 1 + 1 + 1, 5, none⟩ = some (.int .i64 sb) ∧ W.cell? ⟨w.heap.size + 1 + 1 + 1 + 1, 6, none⟩ = some (.int .i64 k) ∧ W.cell? ⟨w.heap.size + 1 + 1 + 1 + 1, 7, none⟩ = some (.int .i64 l) ∧ W.cell? ⟨w.heap.size + 1 + 1 + 1 + 1, 8, none⟩ = some (.int .i64 sc) ∧ W.frozen? ⟨w.heap.size + 1 + 1 + 1, 0, none⟩ = false ∧ W.frozen? ⟨w.heap.size + 1 + 1 + 1, 1, none⟩ = false ∧ W.frozen? ⟨w.heap.size + 1 + 1 + 1, 2, none⟩ = false ∧ Gr w W ∧ w.heap.size + 1 + 1 + 1 < W.heap.size) := by
    rintro W rfl
    refine ⟨?_, ?_, ?_, ?_, ?_, ?_, ?_, ?_, ?_, ?_, ?_, ?_, ?_, ?_, ?_, ?_, ?_, ?_, ?_, ?_, ?_, ?_, ?_, ?_, ?_, ?_, ?_, ?_, (by repeat (first | (with_reducible exact Gr.refl _) | (with_reducible assumption) | (with_reducible refine Gr.alloc ?_ _) | (with_reducible refine Gr.drew ?_) | (with_reducible refine Gr.drewN ?_ _) | (with_reducible refine Gr.setCell ?_ (by simp <;> omega) _) | (with_reducible refine Gr.trans ?_ (by with_reducible assumption)) | exact Gr.refl _ | assumption | refine Gr.alloc ?_ _ | refine Gr.drew ?_ | refine Gr.drewN ?_ _ | refine Gr.setCell ?_ (by simp <;> omega) _ | refine Gr.trans ?_ (by assumption))), ?_⟩ <;> first | (simp [go_sem]; done) | (simp; done) | (simp; omega)
  obtain ⟨r0, r1, r2, r3, r4, a0, a1, a2, a3, b0, b1, b2, b3, z0, z1, z2, s0, s1, s2, s3, s4, s5, s6, s7, s8, f0, f1, f2, hG, hz⟩ := q _ rfl
  have HG := Lib.hid hG
  have ZL := Lib.hid hz
  have Hr0 := Lib.hid r0
  have Hr1 := Lib.hid r1
  have Hr2 := Lib.hid r2
  have Hr3 := Lib.hid r3
  have Hr4 := Lib.hid r4
  have Ha0 := Lib.hid a0
  have Ha1 := Lib.hid a1
  have Ha2 := Lib.hid a2
  have Ha3 := Lib.hid a3
  have Hb0 := Lib.hid b0
  have Hb1 := Lib.hid b1
  have Hb2 := Lib.hid b2
  have Hb3 := Lib.hid b3
  have Hz0 := Lib.hid z0
  have Hz1 := Lib.hid z1
  have Hz2 := Lib.hid z2
  have Hs0 := Lib.hid s0
  have Hs1 := Lib.hid s1
  have Hs2 := Lib.hid s2
  have Hs3 := Lib.hid s3
  have Hs4 := Lib.hid s4
  have Hs5 := Lib.hid s5
  have Hs6 := Lib.hid s6
  have Hs7 := Lib.hid s7
  have Hs8 := Lib.hid s8
  have HF0 := Lib.hid f0
  have HF1 := Lib.hid f1
  have HF2 := Lib.hid f2
  have HWS := Lib.hid (fun (W : World) (h : Gr w W) (x y z : Value) => ((h.setCell (p := ⟨w.heap.size + 1 + 1 + 1, 0, none⟩) (by simp; omega) x).setCell (p := ⟨w.heap.size + 1 + 1 + 1, 1, none⟩) (by simp; omega) y).setCell (p := ⟨w.heap.size + 1 + 1 + 1, 2, none⟩) (by simp; omega) z)
  clear q hG
  generalize ((((w.alloc (.cells #[.int .i64 op, .int .i64 k, .int .i64 l, .int .i64 sc, .bool half] 25)).alloc (.cells #[.int .i64 ka, .int .i64 la, .int .i64 sa, .string xa] 40)).alloc (.cells #[.int .i64 kb, .int .i64 lb, .int .i64 sb, .string xb] 40)).alloc (.cells #[.string ⟨#[]⟩, .int .i64 0, .int .i64 0] 44)).alloc (.cells #[.int .i64 ka, .int .i64 la, .int .i64 sa, .int .i64 kb, .int .i64 lb, .int .i64 sb, .int .i64 k, .int .i64 l, .int .i64 sc] 23) = W0 at *
  generalize w.heap.size = G at *
  have lr := World.block_lt_of_cell? _ _ r0
  have la := World.block_lt_of_cell? _ _ a0
  have lb := World.block_lt_of_cell? _ _ b0
  have lz := World.block_lt_of_cell? _ _ z0
  have ls := World.block_lt_of_cell? _ _ s0
  (try dsimp only at lr la lb lz ls)
  go_wp2
  refine wp_loop_rounds 4 ?_
  rw [rounds_succ]
  go_wp2_with (go_at_call 33; (with_reducible refine (h1 _).mono ?_); rintro e wt0 ⟨rfl, hb⟩; have g := (show Gr W0 wt0 from Gr.trans (by repeat (first | (with_reducible exact Gr.refl _) | (with_reducible assumption) | (with_reducible refine Gr.alloc ?_ _) | (with_reducible refine Gr.drew ?_) | (with_reducible refine Gr.drewN ?_ _) | (with_reducible refine Gr.setCell ?_ (by simp <;> omega) _) | (with_reducible refine Gr.trans ?_ (by with_reducible assumption)) | exact Gr.refl _ | assumption | refine Gr.alloc ?_ _ | refine Gr.drew ?_ | refine Gr.drewN ?_ _ | refine Gr.setCell ?_ (by simp <;> omega) _ | refine Gr.trans ?_ (by assumption))) hb); have r0 := g.keep Hr0.out; have r1 := g.keep Hr1.out; have r2 := g.keep Hr2.out; have r3 := g.keep Hr3.out; have r4 := g.keep Hr4.out; have a0 := g.keep Ha0.out; have a1 := g.keep Ha1.out; have a2 := g.keep Ha2.out; have a3 := g.keep Ha3.out; have b0 := g.keep Hb0.out; have b1 := g.keep Hb1.out; have b2 := g.keep Hb2.out; have b3 := g.keep Hb3.out; have z0 := g.keep Hz0.out; have z1 := g.keep Hz1.out; have z2 := g.keep Hz2.out; have s0 := g.keep Hs0.out; have s1 := g.keep Hs1.out; have s2 := g.keep Hs2.out; have s3 := g.keep Hs3.out; have s4 := g.keep Hs4.out; have s5 := g.keep Hs5.out; have s6 := g.keep Hs6.out; have s7 := g.keep Hs7.out; have s8 := g.keep Hs8.out; have f0 := (g.cells.2 _ _ ZL.out).trans HF0.out; have f1 := (g.cells.2 _ _ ZL.out).trans HF1.out; have f2 := (g.cells.2 _ _ ZL.out).trans HF2.out; have lr := World.block_lt_of_cell? _ _ r0; have la := World.block_lt_of_cell? _ _ a0; have lb := World.block_lt_of_cell? _ _ b0; have lz := World.block_lt_of_cell? _ _ z0; have ls := World.block_lt_of_cell? _ _ s0; (try dsimp only at lr la lb lz ls))
  rw [rounds_succ]
  go_wp2_with (go_at_call 33; (with_reducible refine (h2 _).mono ?_); rintro e wt1 ⟨rfl, hb⟩; have g := (show Gr W0 wt1 from Gr.trans (by repeat (first | (with_reducible exact Gr.refl _) | (with_reducible assumption) | (with_reducible refine Gr.alloc ?_ _) | (with_reducible refine Gr.drew ?_) | (with_reducible refine Gr.drewN ?_ _) | (with_reducible refine Gr.setCell ?_ (by simp <;> omega) _) | (with_reducible refine Gr.trans ?_ (by with_reducible assumption)) | exact Gr.refl _ | assumption | refine Gr.alloc ?_ _ | refine Gr.drew ?_ | refine Gr.drewN ?_ _ | refine Gr.setCell ?_ (by simp <;> omega) _ | refine Gr.trans ?_ (by assumption))) hb); have r0 := g.keep Hr0.out; have r1 := g.keep Hr1.out; have r2 := g.keep Hr2.out; have r3 := g.keep Hr3.out; have r4 := g.keep Hr4.out; have a0 := g.keep Ha0.out; have a1 := g.keep Ha1.out; have a2 := g.keep Ha2.out; have a3 := g.keep Ha3.out; have b0 := g.keep Hb0.out; have b1 := g.keep Hb1.out; have b2 := g.keep Hb2.out; have b3 := g.keep Hb3.out; have z0 := g.keep Hz0.out; have z1 := g.keep Hz1.out; have z2 := g.keep Hz2.out; have s0 := g.keep Hs0.out; have s1 := g.keep Hs1.out; have s2 := g.keep Hs2.out; have s3 := g.keep Hs3.out; have s4 := g.keep Hs4.out; have s5 := g.keep Hs5.out; have s6 := g.keep Hs6.out; have s7 := g.keep Hs7.out; have s8 := g.keep Hs8.out; have f0 := (g.cells.2 _ _ ZL.out).trans HF0.out; have f1 := (g.cells.2 _ _ ZL.out).trans HF1.out; have f2 := (g.cells.2 _ _ ZL.out).trans HF2.out; have lr := World.block_lt_of_cell? _ _ r0; have la := World.block_lt_of_cell? _ _ a0; have lb := World.block_lt_of_cell? _ _ b0; have lz := World.block_lt_of_cell? _ _ z0; have ls := World.block_lt_of_cell? _ _ s0; (try dsimp only at lr la lb lz ls))
  rw [rounds_succ]
  go_wp2_with (go_at_call 33; (with_reducible refine (h3 _).mono ?_); rintro e wt2 ⟨rfl, hb⟩; have g := (show Gr W0 wt2 from Gr.trans (by repeat (first | (with_reducible exact Gr.refl _) | (with_reducible assumption) | (with_reducible refine Gr.alloc ?_ _) | (with_reducible refine Gr.drew ?_) | (with_reducible refine Gr.drewN ?_ _) | (with_reducible refine Gr.setCell ?_ (by simp <;> omega) _) | (with_reducible refine Gr.trans ?_ (by with_reducible assumption)) | exact Gr.refl _ | assumption | refine Gr.alloc ?_ _ | refine Gr.drew ?_ | refine Gr.drewN ?_ _ | refine Gr.setCell ?_ (by simp <;> omega) _ | refine Gr.trans ?_ (by assumption))) hb); have r0 := g.keep Hr0.out; have r1 := g.keep Hr1.out; have r2 := g.keep Hr2.out; have r3 := g.keep Hr3.out; have r4 := g.keep Hr4.out; have a0 := g.keep Ha0.out; have a1 := g.keep Ha1.out; have a2 := g.keep Ha2.out; have a3 := g.keep Ha3.out; have b0 := g.keep Hb0.out; have b1 := g.keep Hb1.out; have b2 := g.keep Hb2.out; have b3 := g.keep Hb3.out; have z0 := g.keep Hz0.out; have z1 := g.keep Hz1.out; have z2 := g.keep Hz2.out; have s0 := g.keep Hs0.out; have s1 := g.keep Hs1.out; have s2 := g.keep Hs2.out; have s3 := g.keep Hs3.out; have s4 := g.keep Hs4.out; have s5 := g.keep Hs5.out; have s6 := g.keep Hs6.out; have s7 := g.keep Hs7.out; have s8 := g.keep Hs8.out; have f0 := (g.cells.2 _ _ ZL.out).trans HF0.out; have f1 := (g.cells.2 _ _ ZL.out).trans HF1.out; have f2 := (g.cells.2 _ _ ZL.out).trans HF2.out; have lr := World.block_lt_of_cell? _ _ r0; have la := World.block_lt_of_cell? _ _ a0; have lb := World.block_lt_of_cell? _ _ b0; have lz := World.block_lt_of_cell? _ _ z0; have ls := World.block_lt_of_cell? _ _ s0; (try dsimp only at lr la lb lz ls))
  rw [rounds_succ]
  go_wp2
  refine wp_loop_rounds 4 ?_
  rw [rounds_succ]
  go_wp2_with (go_at_call 34; (with_reducible refine (n1 _).mono ?_); rintro e w1 ⟨rfl, rfl⟩)
  exact bodyPost_ret (v := .agg #[.string ⟨#[]⟩, .int .i64 0, .int .i64 17]) (by simp [results, Try.results11, go_sem, *]) rfl ⟨rfl, HWS.out _ (HG.out.trans (by repeat (first | (with_reducible exact Gr.refl _) | (with_reducible assumption) | (with_reducible refine Gr.alloc ?_ _) | (with_reducible refine Gr.drew ?_) | (with_reducible refine Gr.drewN ?_ _) | (with_reducible refine Gr.setCell ?_ (by simp <;> omega) _) | (with_reducible refine Gr.trans ?_ (by with_reducible assumption)) | exact Gr.refl _ | assumption | refine Gr.alloc ?_ _ | refine Gr.drew ?_ | refine Gr.drewN ?_ _ | refine Gr.setCell ?_ (by simp <;> omega) _ | refine Gr.trans ?_ (by assumption)))) _ _ _⟩
set_option maxHeartbeats 8000000 in
set_option maxRecDepth 100000 in
theorem refCB_5 (op k l sc ka la sa kb lb sb  : Int) (half : Bool) (xa xb : ByteArray)
    (hW : ∀ w, Calls Try.prog 27 #[.int .i64 op, .int .i64 0, .int .i64 4] w fun e w' => e = .returned (.bool true) ∧ w = w')
    (h1 : ∀ w, Calls Try.prog 33 #[.agg #[.int .i64 ka, .int .i64 la, .int .i64 sa]] w fun e w' => e = .returned (.int .i64 0) ∧ Gr w w')
    (h2 : ∀ w, Calls Try.prog 33 #[.agg #[.int .i64 kb, .int .i64 lb, .int .i64 sb]] w fun e w' => e = .returned (.int .i64 0) ∧ Gr w w')
    (h3 : ∀ w, Calls Try.prog 33 #[.agg #[.int .i64 k, .int .i64 l, .int .i64 sc]] w fun e w' => e = .returned (.int .i64 0) ∧ Gr w w')
    (n1 : ∀ w, Calls Try.prog 34 #[.int .i64 ka] w fun e w' => e = .returned (.bool true) ∧ w = w')
    (n2 : ∀ w, Calls Try.prog 34 #[.int .i64 kb] w fun e w' => e = .returned (.bool false) ∧ w = w')
    (w : World) :
    Calls Try.prog 11 #[.agg #[.int .i64 op, .int .i64 k, .int .i64 l, .int .i64 sc, .bool half], .agg #[.int .i64 ka, .int .i64 la, .int .i64 sa, .string xa], .agg #[.int .i64 kb, .int .i64 lb, .int .i64 sb, .string xb]] w fun e w' => e = .returned (.agg #[.string ⟨#[]⟩, .int .i64 0, .int .i64 17]) ∧ Gr w w' := by
  go_enter Try.func11, Try.ntmps11
  go_upto_region 4 with ((go_at_call 27; (with_reducible refine (hW _).mono ?_); rintro e w1 ⟨rfl, rfl⟩))
  have q : ∀ W, W = ((((w.alloc (.cells #[.int .i64 op, .int .i64 k, .int .i64 l, .int .i64 sc, .bool half] 25)).alloc (.cells #[.int .i64 ka, .int .i64 la, .int .i64 sa, .string xa] 40)).alloc (.cells #[.int .i64 kb, .int .i64 lb, .int .i64 sb, .string xb] 40)).alloc (.cells #[.string ⟨#[]⟩, .int .i64 0, .int .i64 0] 44)).alloc (.cells #[.int .i64 ka, .int .i64 la, .int .i64 sa, .int .i64 kb, .int .i64 lb, .int .i64 sb, .int .i64 k, .int .i64 l, .int .i64 sc] 23) → (W.cell? ⟨w.heap.size, 0, none⟩ = some (.int .i64 op) ∧ W.cell? ⟨w.heap.size, 1, none⟩ = some (.int .i64 k) ∧ W.cell? ⟨w.heap.size, 2, none⟩ = some (.int .i64 l) ∧ W.cell? ⟨w.heap.size, 3, none⟩ = some (.int .i64 sc) ∧ W.cell? ⟨w.heap.size, 4, none⟩ = some (.bool half) ∧ W.cell? ⟨w.heap.size + 1, 0, none⟩ = some (.int .i64 ka) ∧ W.cell? ⟨w.heap.size + 1, 1, none⟩ = some (.int .i64 la) ∧ W.cell? ⟨w.heap.size + 1, 2, none⟩ = some (.int .i64 sa) ∧ W.cell? ⟨w.heap.size + 1, 3, none⟩ = some (.string xa) ∧ W.cell? ⟨w.heap.size + 1 + 1, 0, none⟩ = some (.int .i64 kb) ∧ W.cell? ⟨w.heap.size + 1 + 1, 1, none⟩ = some (.int .i64 lb) ∧ W.cell? ⟨w.heap.size + 1 + 1, 2, none⟩ = some (.int .i64 sb) ∧ W.cell? ⟨w.heap.size + 1 + 1, 3, none⟩ = some (.string xb) ∧ W.cell? ⟨w.heap.size + 1 + 1 + 1, 0, none⟩ = some (.string ⟨#[]⟩) ∧ W.cell? ⟨w.heap.size + 1 + 1 + 1, 1, none⟩ = some (.int .i64 0) ∧ W.cell? ⟨w.heap.size + 1 + 1 + 1, 2, none⟩ = some (.int .i64 0) ∧ W.cell? ⟨w.heap.size + 1 + 1 + 1 + 1, 0, none⟩ = some (.int .i64 ka) ∧ W.cell? ⟨w.heap.size + 1 + 1 + 1 + 1, 1, none⟩ = some (.int .i64 la) ∧ W.cell? ⟨w.heap.size + 1 + 1 + 1 + 1, 2, none⟩ = some (.int .i64 sa) ∧ W.cell? ⟨w.heap.size + 1 + 1 + 1 + 1, 3, none⟩ = some (.int .i64 kb) ∧ W.cell? ⟨w.heap.size + 1 + 1 + 1 + 1, 4, none⟩ = some (.int .i64 lb) ∧ W.cell? ⟨w.heap.size + 1 + 1 + 1 + 1, 5, none⟩ = some (.int .i64 sb) ∧ W.cell? ⟨w.heap.size + 1 + 1 + 1 + 1, 6, none⟩ = some (.int .i64 k) ∧ W.cell? ⟨w.heap.size + 1 + 1 + 1 + 1, 7, none⟩ = some (.int .i64 l) ∧ W.cell? ⟨w.heap.size + 1 + 1 + 1 + 1, 8, none⟩ = some (.int .i64 sc) ∧ W.frozen? ⟨w.heap.size + 1 + 1 + 1, 0, none⟩ = false ∧ W.frozen? ⟨w.heap.size + 1 + 1 + 1, 1, none⟩ = false ∧ W.frozen? ⟨w.heap.size + 1 + 1 + 1, 2, none⟩ = false ∧ Gr w W ∧ w.heap.size + 1 + 1 + 1 < W.heap.size) := by
    rintro W rfl
    refine ⟨?_, ?_, ?_, ?_, ?_, ?_, ?_, ?_, ?_, ?_, ?_, ?_, ?_, ?_, ?_, ?_, ?_, ?_, ?_, ?_, ?_, ?_, ?_, ?_, ?_, ?_, ?_, ?_, (by repeat (first | (with_reducible exact Gr.refl _) | (with_reducible assumption) | (with_reducible refine Gr.alloc ?_ _) | (with_reducible refine Gr.drew ?_) | (with_reducible refine Gr.drewN ?_ _) | (with_reducible refine Gr.setCell ?_ (by simp <;> omega) _) | (with_reducible refine Gr.trans ?_ (by with_reducible assumption)) | exact Gr.refl _ | assumption | refine Gr.alloc ?_ _ | refine Gr.drew ?_ | refine Gr.drewN ?_ _ | refine Gr.setCell ?_ (by simp <;> omega) _ | refine Gr.trans ?_ (by assumption))), ?_⟩ <;> first | (simp [go_sem]; done) | (simp; done) | (simp; omega)
  obtain ⟨r0, r1, r2, r3, r4, a0, a1, a2, a3, b0, b1, b2, b3, z0, z1, z2, s0, s1, s2, s3, s4, s5, s6, s7, s8, f0, f1, f2, hG, hz⟩ := q _ rfl
  have HG := Lib.hid hG
  have ZL := Lib.hid hz
  have Hr0 := Lib.hid r0
  have Hr1 := Lib.hid r1
  have Hr2 := Lib.hid r2
  have Hr3 := Lib.hid r3
  have Hr4 := Lib.hid r4
  have Ha0 := Lib.hid a0
  have Ha1 := Lib.hid a1
  have Ha2 := Lib.hid a2
  have Ha3 := Lib.hid a3
  have Hb0 := Lib.hid b0
  have Hb1 := Lib.hid b1
  have Hb2 := Lib.hid b2
  have Hb3 := Lib.hid b3
  have Hz0 := Lib.hid z0
  have Hz1 := Lib.hid z1
  have Hz2 := Lib.hid z2
  have Hs0 := Lib.hid s0
  have Hs1 := Lib.hid s1
  have Hs2 := Lib.hid s2
  have Hs3 := Lib.hid s3
  have Hs4 := Lib.hid s4
  have Hs5 := Lib.hid s5
  have Hs6 := Lib.hid s6
  have Hs7 := Lib.hid s7
  have Hs8 := Lib.hid s8
  have HF0 := Lib.hid f0
  have HF1 := Lib.hid f1
  have HF2 := Lib.hid f2
  have HWS := Lib.hid (fun (W : World) (h : Gr w W) (x y z : Value) => ((h.setCell (p := ⟨w.heap.size + 1 + 1 + 1, 0, none⟩) (by simp; omega) x).setCell (p := ⟨w.heap.size + 1 + 1 + 1, 1, none⟩) (by simp; omega) y).setCell (p := ⟨w.heap.size + 1 + 1 + 1, 2, none⟩) (by simp; omega) z)
  clear q hG
  generalize ((((w.alloc (.cells #[.int .i64 op, .int .i64 k, .int .i64 l, .int .i64 sc, .bool half] 25)).alloc (.cells #[.int .i64 ka, .int .i64 la, .int .i64 sa, .string xa] 40)).alloc (.cells #[.int .i64 kb, .int .i64 lb, .int .i64 sb, .string xb] 40)).alloc (.cells #[.string ⟨#[]⟩, .int .i64 0, .int .i64 0] 44)).alloc (.cells #[.int .i64 ka, .int .i64 la, .int .i64 sa, .int .i64 kb, .int .i64 lb, .int .i64 sb, .int .i64 k, .int .i64 l, .int .i64 sc] 23) = W0 at *
  generalize w.heap.size = G at *
  have lr := World.block_lt_of_cell? _ _ r0
  have la := World.block_lt_of_cell? _ _ a0
  have lb := World.block_lt_of_cell? _ _ b0
  have lz := World.block_lt_of_cell? _ _ z0
  have ls := World.block_lt_of_cell? _ _ s0
  (try dsimp only at lr la lb lz ls)
  go_wp2
  refine wp_loop_rounds 4 ?_
  rw [rounds_succ]
  go_wp2_with (go_at_call 33; (with_reducible refine (h1 _).mono ?_); rintro e wt0 ⟨rfl, hb⟩; have g := (show Gr W0 wt0 from Gr.trans (by repeat (first | (with_reducible exact Gr.refl _) | (with_reducible assumption) | (with_reducible refine Gr.alloc ?_ _) | (with_reducible refine Gr.drew ?_) | (with_reducible refine Gr.drewN ?_ _) | (with_reducible refine Gr.setCell ?_ (by simp <;> omega) _) | (with_reducible refine Gr.trans ?_ (by with_reducible assumption)) | exact Gr.refl _ | assumption | refine Gr.alloc ?_ _ | refine Gr.drew ?_ | refine Gr.drewN ?_ _ | refine Gr.setCell ?_ (by simp <;> omega) _ | refine Gr.trans ?_ (by assumption))) hb); have r0 := g.keep Hr0.out; have r1 := g.keep Hr1.out; have r2 := g.keep Hr2.out; have r3 := g.keep Hr3.out; have r4 := g.keep Hr4.out; have a0 := g.keep Ha0.out; have a1 := g.keep Ha1.out; have a2 := g.keep Ha2.out; have a3 := g.keep Ha3.out; have b0 := g.keep Hb0.out; have b1 := g.keep Hb1.out; have b2 := g.keep Hb2.out; have b3 := g.keep Hb3.out; have z0 := g.keep Hz0.out; have z1 := g.keep Hz1.out; have z2 := g.keep Hz2.out; have s0 := g.keep Hs0.out; have s1 := g.keep Hs1.out; have s2 := g.keep Hs2.out; have s3 := g.keep Hs3.out; have s4 := g.keep Hs4.out; have s5 := g.keep Hs5.out; have s6 := g.keep Hs6.out; have s7 := g.keep Hs7.out; have s8 := g.keep Hs8.out; have f0 := (g.cells.2 _ _ ZL.out).trans HF0.out; have f1 := (g.cells.2 _ _ ZL.out).trans HF1.out; have f2 := (g.cells.2 _ _ ZL.out).trans HF2.out; have lr := World.block_lt_of_cell? _ _ r0; have la := World.block_lt_of_cell? _ _ a0; have lb := World.block_lt_of_cell? _ _ b0; have lz := World.block_lt_of_cell? _ _ z0; have ls := World.block_lt_of_cell? _ _ s0; (try dsimp only at lr la lb lz ls))
  rw [rounds_succ]
  go_wp2_with (go_at_call 33; (with_reducible refine (h2 _).mono ?_); rintro e wt1 ⟨rfl, hb⟩; have g := (show Gr W0 wt1 from Gr.trans (by repeat (first | (with_reducible exact Gr.refl _) | (with_reducible assumption) | (with_reducible refine Gr.alloc ?_ _) | (with_reducible refine Gr.drew ?_) | (with_reducible refine Gr.drewN ?_ _) | (with_reducible refine Gr.setCell ?_ (by simp <;> omega) _) | (with_reducible refine Gr.trans ?_ (by with_reducible assumption)) | exact Gr.refl _ | assumption | refine Gr.alloc ?_ _ | refine Gr.drew ?_ | refine Gr.drewN ?_ _ | refine Gr.setCell ?_ (by simp <;> omega) _ | refine Gr.trans ?_ (by assumption))) hb); have r0 := g.keep Hr0.out; have r1 := g.keep Hr1.out; have r2 := g.keep Hr2.out; have r3 := g.keep Hr3.out; have r4 := g.keep Hr4.out; have a0 := g.keep Ha0.out; have a1 := g.keep Ha1.out; have a2 := g.keep Ha2.out; have a3 := g.keep Ha3.out; have b0 := g.keep Hb0.out; have b1 := g.keep Hb1.out; have b2 := g.keep Hb2.out; have b3 := g.keep Hb3.out; have z0 := g.keep Hz0.out; have z1 := g.keep Hz1.out; have z2 := g.keep Hz2.out; have s0 := g.keep Hs0.out; have s1 := g.keep Hs1.out; have s2 := g.keep Hs2.out; have s3 := g.keep Hs3.out; have s4 := g.keep Hs4.out; have s5 := g.keep Hs5.out; have s6 := g.keep Hs6.out; have s7 := g.keep Hs7.out; have s8 := g.keep Hs8.out; have f0 := (g.cells.2 _ _ ZL.out).trans HF0.out; have f1 := (g.cells.2 _ _ ZL.out).trans HF1.out; have f2 := (g.cells.2 _ _ ZL.out).trans HF2.out; have lr := World.block_lt_of_cell? _ _ r0; have la := World.block_lt_of_cell? _ _ a0; have lb := World.block_lt_of_cell? _ _ b0; have lz := World.block_lt_of_cell? _ _ z0; have ls := World.block_lt_of_cell? _ _ s0; (try dsimp only at lr la lb lz ls))
  rw [rounds_succ]
  go_wp2_with (go_at_call 33; (with_reducible refine (h3 _).mono ?_); rintro e wt2 ⟨rfl, hb⟩; have g := (show Gr W0 wt2 from Gr.trans (by repeat (first | (with_reducible exact Gr.refl _) | (with_reducible assumption) | (with_reducible refine Gr.alloc ?_ _) | (with_reducible refine Gr.drew ?_) | (with_reducible refine Gr.drewN ?_ _) | (with_reducible refine Gr.setCell ?_ (by simp <;> omega) _) | (with_reducible refine Gr.trans ?_ (by with_reducible assumption)) | exact Gr.refl _ | assumption | refine Gr.alloc ?_ _ | refine Gr.drew ?_ | refine Gr.drewN ?_ _ | refine Gr.setCell ?_ (by simp <;> omega) _ | refine Gr.trans ?_ (by assumption))) hb); have r0 := g.keep Hr0.out; have r1 := g.keep Hr1.out; have r2 := g.keep Hr2.out; have r3 := g.keep Hr3.out; have r4 := g.keep Hr4.out; have a0 := g.keep Ha0.out; have a1 := g.keep Ha1.out; have a2 := g.keep Ha2.out; have a3 := g.keep Ha3.out; have b0 := g.keep Hb0.out; have b1 := g.keep Hb1.out; have b2 := g.keep Hb2.out; have b3 := g.keep Hb3.out; have z0 := g.keep Hz0.out; have z1 := g.keep Hz1.out; have z2 := g.keep Hz2.out; have s0 := g.keep Hs0.out; have s1 := g.keep Hs1.out; have s2 := g.keep Hs2.out; have s3 := g.keep Hs3.out; have s4 := g.keep Hs4.out; have s5 := g.keep Hs5.out; have s6 := g.keep Hs6.out; have s7 := g.keep Hs7.out; have s8 := g.keep Hs8.out; have f0 := (g.cells.2 _ _ ZL.out).trans HF0.out; have f1 := (g.cells.2 _ _ ZL.out).trans HF1.out; have f2 := (g.cells.2 _ _ ZL.out).trans HF2.out; have lr := World.block_lt_of_cell? _ _ r0; have la := World.block_lt_of_cell? _ _ a0; have lb := World.block_lt_of_cell? _ _ b0; have lz := World.block_lt_of_cell? _ _ z0; have ls := World.block_lt_of_cell? _ _ s0; (try dsimp only at lr la lb lz ls))
  rw [rounds_succ]
  go_wp2
  refine wp_loop_rounds 4 ?_
  rw [rounds_succ]
  go_wp2_with (go_at_call 34; (with_reducible refine (n1 _).mono ?_); rintro e w1 ⟨rfl, rfl⟩)
  rw [rounds_succ]
  go_wp2_with (go_at_call 34; (with_reducible refine (n2 _).mono ?_); rintro e w1 ⟨rfl, rfl⟩)
  exact bodyPost_ret (v := .agg #[.string ⟨#[]⟩, .int .i64 0, .int .i64 17]) (by simp [results, Try.results11, go_sem, *]) rfl ⟨rfl, HWS.out _ (HG.out.trans (by repeat (first | (with_reducible exact Gr.refl _) | (with_reducible assumption) | (with_reducible refine Gr.alloc ?_ _) | (with_reducible refine Gr.drew ?_) | (with_reducible refine Gr.drewN ?_ _) | (with_reducible refine Gr.setCell ?_ (by simp <;> omega) _) | (with_reducible refine Gr.trans ?_ (by with_reducible assumption)) | exact Gr.refl _ | assumption | refine Gr.alloc ?_ _ | refine Gr.drew ?_ | refine Gr.drewN ?_ _ | refine Gr.setCell ?_ (by simp <;> omega) _ | refine Gr.trans ?_ (by assumption)))) _ _ _⟩
set_option maxHeartbeats 8000000 in
set_option maxRecDepth 100000 in
theorem refCB_6 (op k l sc ka la sa kb lb sb  : Int) (half : Bool) (xa xb : ByteArray)
    (hW : ∀ w, Calls Try.prog 27 #[.int .i64 op, .int .i64 0, .int .i64 4] w fun e w' => e = .returned (.bool true) ∧ w = w')
    (h1 : ∀ w, Calls Try.prog 33 #[.agg #[.int .i64 ka, .int .i64 la, .int .i64 sa]] w fun e w' => e = .returned (.int .i64 0) ∧ Gr w w')
    (h2 : ∀ w, Calls Try.prog 33 #[.agg #[.int .i64 kb, .int .i64 lb, .int .i64 sb]] w fun e w' => e = .returned (.int .i64 0) ∧ Gr w w')
    (h3 : ∀ w, Calls Try.prog 33 #[.agg #[.int .i64 k, .int .i64 l, .int .i64 sc]] w fun e w' => e = .returned (.int .i64 0) ∧ Gr w w')
    (n1 : ∀ w, Calls Try.prog 34 #[.int .i64 ka] w fun e w' => e = .returned (.bool true) ∧ w = w')
    (n2 : ∀ w, Calls Try.prog 34 #[.int .i64 kb] w fun e w' => e = .returned (.bool true) ∧ w = w')
    (n3 : ∀ w, Calls Try.prog 34 #[.int .i64 k] w fun e w' => e = .returned (.bool false) ∧ w = w')
    (w : World) :
    Calls Try.prog 11 #[.agg #[.int .i64 op, .int .i64 k, .int .i64 l, .int .i64 sc, .bool half], .agg #[.int .i64 ka, .int .i64 la, .int .i64 sa, .string xa], .agg #[.int .i64 kb, .int .i64 lb, .int .i64 sb, .string xb]] w fun e w' => e = .returned (.agg #[.string ⟨#[]⟩, .int .i64 0, .int .i64 17]) ∧ Gr w w' := by
  go_enter Try.func11, Try.ntmps11
  go_upto_region 4 with ((go_at_call 27; (with_reducible refine (hW _).mono ?_); rintro e w1 ⟨rfl, rfl⟩))
  have q : ∀ W, W = ((((w.alloc (.cells #[.int .i64 op, .int .i64 k, .int .i64 l, .int .i64 sc, .bool half] 25)).alloc (.cells #[.int .i64 ka, .int .i64 la, .int .i64 sa, .string xa] 40)).alloc (.cells #[.int .i64 kb, .int .i64 lb, .int .i64 sb, .string xb] 40)).alloc (.cells #[.string ⟨#[]⟩, .int .i64 0, .int .i64 0] 44)).alloc (.cells #[.int .i64 ka, .int .i64 la, .int .i64 sa, .int .i64 kb, .int .i64 lb, .int .i64 sb, .int .i64 k, .int .i64 l, .int .i64 sc] 23) → (W.cell? ⟨w.heap.size, 0, none⟩ = some (.int .i64 op) ∧ W.cell? ⟨w.heap.size, 1, none⟩ = some (.int .i64 k) ∧ W.cell? ⟨w.heap.size, 2, none⟩ = some (.int .i64 l) ∧ W.cell? ⟨w.heap.size, 3, none⟩ = some (.int .i64 sc) ∧ W.cell? ⟨w.heap.size, 4, none⟩ = some (.bool half) ∧ W.cell? ⟨w.heap.size + 1, 0, none⟩ = some (.int .i64 ka) ∧ W.cell? ⟨w.heap.size + 1, 1, none⟩ = some (.int .i64 la) ∧ W.cell? ⟨w.heap.size + 1, 2, none⟩ = some (.int .i64 sa) ∧ W.cell? ⟨w.heap.size + 1, 3, none⟩ = some (.string xa) ∧ W.cell? ⟨w.heap.size + 1 + 1, 0, none⟩ = some (.int .i64 kb) ∧ W.cell? ⟨w.heap.size + 1 + 1, 1, none⟩ = some (.int .i64 lb) ∧ W.cell? ⟨w.heap.size + 1 + 1, 2, none⟩ = some (.int .i64 sb) ∧ W.cell? ⟨w.heap.size + 1 + 1, 3, none⟩ = some (.string xb) ∧ W.cell? ⟨w.heap.size + 1 + 1 + 1, 0, none⟩ = some (.string ⟨#[]⟩) ∧ W.cell? ⟨w.heap.size + 1 + 1 + 1, 1, none⟩ = some (.int .i64 0) ∧ W.cell? ⟨w.heap.size + 1 + 1 + 1, 2, none⟩ = some (.int .i64 0) ∧ W.cell? ⟨w.heap.size + 1 + 1 + 1 + 1, 0, none⟩ = some (.int .i64 ka) ∧ W.cell? ⟨w.heap.size + 1 + 1 + 1 + 1, 1, none⟩ = some (.int .i64 la) ∧ W.cell? ⟨w.heap.size + 1 + 1 + 1 + 1, 2, none⟩ = some (.int .i64 sa) ∧ W.cell? ⟨w.heap.size + 1 + 1 + 1 + 1, 3, none⟩ = some (.int .i64 kb) ∧ W.cell? ⟨w.heap.size + 1 + 1 + 1 + 1, 4, none⟩ = some (.int .i64 lb) ∧ W.cell? ⟨w.heap.size + 1 + 1 + 1 + 1, 5, none⟩ = some (.int .i64 sb) ∧ W.cell? ⟨w.heap.size + 1 + 1 + 1 + 1, 6, none⟩ = some (.int .i64 k) ∧ W.cell? ⟨w.heap.size + 1 + 1 + 1 + 1, 7, none⟩ = some (.int .i64 l) ∧ W.cell? ⟨w.heap.size + 1 + 1 + 1 + 1, 8, none⟩ = some (.int .i64 sc) ∧ W.frozen? ⟨w.heap.size + 1 + 1 + 1, 0, none⟩ = false ∧ W.frozen? ⟨w.heap.size + 1 + 1 + 1, 1, none⟩ = false ∧ W.frozen? ⟨w.heap.size + 1 + 1 + 1, 2, none⟩ = false ∧ Gr w W ∧ w.heap.size + 1 + 1 + 1 < W.heap.size) := by
    rintro W rfl
    refine ⟨?_, ?_, ?_, ?_, ?_, ?_, ?_, ?_, ?_, ?_, ?_, ?_, ?_, ?_, ?_, ?_, ?_, ?_, ?_, ?_, ?_, ?_, ?_, ?_, ?_, ?_, ?_, ?_, (by repeat (first | (with_reducible exact Gr.refl _) | (with_reducible assumption) | (with_reducible refine Gr.alloc ?_ _) | (with_reducible refine Gr.drew ?_) | (with_reducible refine Gr.drewN ?_ _) | (with_reducible refine Gr.setCell ?_ (by simp <;> omega) _) | (with_reducible refine Gr.trans ?_ (by with_reducible assumption)) | exact Gr.refl _ | assumption | refine Gr.alloc ?_ _ | refine Gr.drew ?_ | refine Gr.drewN ?_ _ | refine Gr.setCell ?_ (by simp <;> omega) _ | refine Gr.trans ?_ (by assumption))), ?_⟩ <;> first | (simp [go_sem]; done) | (simp; done) | (simp; omega)
  obtain ⟨r0, r1, r2, r3, r4, a0, a1, a2, a3, b0, b1, b2, b3, z0, z1, z2, s0, s1, s2, s3, s4, s5, s6, s7, s8, f0, f1, f2, hG, hz⟩ := q _ rfl
  have HG := Lib.hid hG
  have ZL := Lib.hid hz
  have Hr0 := Lib.hid r0
  have Hr1 := Lib.hid r1
  have Hr2 := Lib.hid r2
  have Hr3 := Lib.hid r3
  have Hr4 := Lib.hid r4
  have Ha0 := Lib.hid a0
  have Ha1 := Lib.hid a1
  have Ha2 := Lib.hid a2
  have Ha3 := Lib.hid a3
  have Hb0 := Lib.hid b0
  have Hb1 := Lib.hid b1
  have Hb2 := Lib.hid b2
  have Hb3 := Lib.hid b3
  have Hz0 := Lib.hid z0
  have Hz1 := Lib.hid z1
  have Hz2 := Lib.hid z2
  have Hs0 := Lib.hid s0
  have Hs1 := Lib.hid s1
  have Hs2 := Lib.hid s2
  have Hs3 := Lib.hid s3
  have Hs4 := Lib.hid s4
  have Hs5 := Lib.hid s5
  have Hs6 := Lib.hid s6
  have Hs7 := Lib.hid s7
  have Hs8 := Lib.hid s8
  have HF0 := Lib.hid f0
  have HF1 := Lib.hid f1
  have HF2 := Lib.hid f2
  have HWS := Lib.hid (fun (W : World) (h : Gr w W) (x y z : Value) => ((h.setCell (p := ⟨w.heap.size + 1 + 1 + 1, 0, none⟩) (by simp; omega) x).setCell (p := ⟨w.heap.size + 1 + 1 + 1, 1, none⟩) (by simp; omega) y).setCell (p := ⟨w.heap.size + 1 + 1 + 1, 2, none⟩) (by simp; omega) z)
  clear q hG
  generalize ((((w.alloc (.cells #[.int .i64 op, .int .i64 k, .int .i64 l, .int .i64 sc, .bool half] 25)).alloc (.cells #[.int .i64 ka, .int .i64 la, .int .i64 sa, .string xa] 40)).alloc (.cells #[.int .i64 kb, .int .i64 lb, .int .i64 sb, .string xb] 40)).alloc (.cells #[.string ⟨#[]⟩, .int .i64 0, .int .i64 0] 44)).alloc (.cells #[.int .i64 ka, .int .i64 la, .int .i64 sa, .int .i64 kb, .int .i64 lb, .int .i64 sb, .int .i64 k, .int .i64 l, .int .i64 sc] 23) = W0 at *
  generalize w.heap.size = G at *
  have lr := World.block_lt_of_cell? _ _ r0
  have la := World.block_lt_of_cell? _ _ a0
  have lb := World.block_lt_of_cell? _ _ b0
  have lz := World.block_lt_of_cell? _ _ z0
  have ls := World.block_lt_of_cell? _ _ s0
  (try dsimp only at lr la lb lz ls)
  go_wp2
  refine wp_loop_rounds 4 ?_
  rw [rounds_succ]
  go_wp2_with (go_at_call 33; (with_reducible refine (h1 _).mono ?_); rintro e wt0 ⟨rfl, hb⟩; have g := (show Gr W0 wt0 from Gr.trans (by repeat (first | (with_reducible exact Gr.refl _) | (with_reducible assumption) | (with_reducible refine Gr.alloc ?_ _) | (with_reducible refine Gr.drew ?_) | (with_reducible refine Gr.drewN ?_ _) | (with_reducible refine Gr.setCell ?_ (by simp <;> omega) _) | (with_reducible refine Gr.trans ?_ (by with_reducible assumption)) | exact Gr.refl _ | assumption | refine Gr.alloc ?_ _ | refine Gr.drew ?_ | refine Gr.drewN ?_ _ | refine Gr.setCell ?_ (by simp <;> omega) _ | refine Gr.trans ?_ (by assumption))) hb); have r0 := g.keep Hr0.out; have r1 := g.keep Hr1.out; have r2 := g.keep Hr2.out; have r3 := g.keep Hr3.out; have r4 := g.keep Hr4.out; have a0 := g.keep Ha0.out; have a1 := g.keep Ha1.out; have a2 := g.keep Ha2.out; have a3 := g.keep Ha3.out; have b0 := g.keep Hb0.out; have b1 := g.keep Hb1.out; have b2 := g.keep Hb2.out; have b3 := g.keep Hb3.out; have z0 := g.keep Hz0.out; have z1 := g.keep Hz1.out; have z2 := g.keep Hz2.out; have s0 := g.keep Hs0.out; have s1 := g.keep Hs1.out; have s2 := g.keep Hs2.out; have s3 := g.keep Hs3.out; have s4 := g.keep Hs4.out; have s5 := g.keep Hs5.out; have s6 := g.keep Hs6.out; have s7 := g.keep Hs7.out; have s8 := g.keep Hs8.out; have f0 := (g.cells.2 _ _ ZL.out).trans HF0.out; have f1 := (g.cells.2 _ _ ZL.out).trans HF1.out; have f2 := (g.cells.2 _ _ ZL.out).trans HF2.out; have lr := World.block_lt_of_cell? _ _ r0; have la := World.block_lt_of_cell? _ _ a0; have lb := World.block_lt_of_cell? _ _ b0; have lz := World.block_lt_of_cell? _ _ z0; have ls := World.block_lt_of_cell? _ _ s0; (try dsimp only at lr la lb lz ls))
  rw [rounds_succ]
  go_wp2_with (go_at_call 33; (with_reducible refine (h2 _).mono ?_); rintro e wt1 ⟨rfl, hb⟩; have g := (show Gr W0 wt1 from Gr.trans (by repeat (first | (with_reducible exact Gr.refl _) | (with_reducible assumption) | (with_reducible refine Gr.alloc ?_ _) | (with_reducible refine Gr.drew ?_) | (with_reducible refine Gr.drewN ?_ _) | (with_reducible refine Gr.setCell ?_ (by simp <;> omega) _) | (with_reducible refine Gr.trans ?_ (by with_reducible assumption)) | exact Gr.refl _ | assumption | refine Gr.alloc ?_ _ | refine Gr.drew ?_ | refine Gr.drewN ?_ _ | refine Gr.setCell ?_ (by simp <;> omega) _ | refine Gr.trans ?_ (by assumption))) hb); have r0 := g.keep Hr0.out; have r1 := g.keep Hr1.out; have r2 := g.keep Hr2.out; have r3 := g.keep Hr3.out; have r4 := g.keep Hr4.out; have a0 := g.keep Ha0.out; have a1 := g.keep Ha1.out; have a2 := g.keep Ha2.out; have a3 := g.keep Ha3.out; have b0 := g.keep Hb0.out; have b1 := g.keep Hb1.out; have b2 := g.keep Hb2.out; have b3 := g.keep Hb3.out; have z0 := g.keep Hz0.out; have z1 := g.keep Hz1.out; have z2 := g.keep Hz2.out; have s0 := g.keep Hs0.out; have s1 := g.keep Hs1.out; have s2 := g.keep Hs2.out; have s3 := g.keep Hs3.out; have s4 := g.keep Hs4.out; have s5 := g.keep Hs5.out; have s6 := g.keep Hs6.out; have s7 := g.keep Hs7.out; have s8 := g.keep Hs8.out; have f0 := (g.cells.2 _ _ ZL.out).trans HF0.out; have f1 := (g.cells.2 _ _ ZL.out).trans HF1.out; have f2 := (g.cells.2 _ _ ZL.out).trans HF2.out; have lr := World.block_lt_of_cell? _ _ r0; have la := World.block_lt_of_cell? _ _ a0; have lb := World.block_lt_of_cell? _ _ b0; have lz := World.block_lt_of_cell? _ _ z0; have ls := World.block_lt_of_cell? _ _ s0; (try dsimp only at lr la lb lz ls))
  rw [rounds_succ]
  go_wp2_with (go_at_call 33; (with_reducible refine (h3 _).mono ?_); rintro e wt2 ⟨rfl, hb⟩; have g := (show Gr W0 wt2 from Gr.trans (by repeat (first | (with_reducible exact Gr.refl _) | (with_reducible assumption) | (with_reducible refine Gr.alloc ?_ _) | (with_reducible refine Gr.drew ?_) | (with_reducible refine Gr.drewN ?_ _) | (with_reducible refine Gr.setCell ?_ (by simp <;> omega) _) | (with_reducible refine Gr.trans ?_ (by with_reducible assumption)) | exact Gr.refl _ | assumption | refine Gr.alloc ?_ _ | refine Gr.drew ?_ | refine Gr.drewN ?_ _ | refine Gr.setCell ?_ (by simp <;> omega) _ | refine Gr.trans ?_ (by assumption))) hb); have r0 := g.keep Hr0.out; have r1 := g.keep Hr1.out; have r2 := g.keep Hr2.out; have r3 := g.keep Hr3.out; have r4 := g.keep Hr4.out; have a0 := g.keep Ha0.out; have a1 := g.keep Ha1.out; have a2 := g.keep Ha2.out; have a3 := g.keep Ha3.out; have b0 := g.keep Hb0.out; have b1 := g.keep Hb1.out; have b2 := g.keep Hb2.out; have b3 := g.keep Hb3.out; have z0 := g.keep Hz0.out; have z1 := g.keep Hz1.out; have z2 := g.keep Hz2.out; have s0 := g.keep Hs0.out; have s1 := g.keep Hs1.out; have s2 := g.keep Hs2.out; have s3 := g.keep Hs3.out; have s4 := g.keep Hs4.out; have s5 := g.keep Hs5.out; have s6 := g.keep Hs6.out; have s7 := g.keep Hs7.out; have s8 := g.keep Hs8.out; have f0 := (g.cells.2 _ _ ZL.out).trans HF0.out; have f1 := (g.cells.2 _ _ ZL.out).trans HF1.out; have f2 := (g.cells.2 _ _ ZL.out).trans HF2.out; have lr := World.block_lt_of_cell? _ _ r0; have la := World.block_lt_of_cell? _ _ a0; have lb := World.block_lt_of_cell? _ _ b0; have lz := World.block_lt_of_cell? _ _ z0; have ls := World.block_lt_of_cell? _ _ s0; (try dsimp only at lr la lb lz ls))
  rw [rounds_succ]
  go_wp2
  refine wp_loop_rounds 4 ?_
  rw [rounds_succ]
  go_wp2_with (go_at_call 34; (with_reducible refine (n1 _).mono ?_); rintro e w1 ⟨rfl, rfl⟩)
  rw [rounds_succ]
  go_wp2_with (go_at_call 34; (with_reducible refine (n2 _).mono ?_); rintro e w1 ⟨rfl, rfl⟩)
  rw [rounds_succ]
  go_wp2_with (go_at_call 34; (with_reducible refine (n3 _).mono ?_); rintro e w1 ⟨rfl, rfl⟩)
  exact bodyPost_ret (v := .agg #[.string ⟨#[]⟩, .int .i64 0, .int .i64 17]) (by simp [results, Try.results11, go_sem, *]) rfl ⟨rfl, HWS.out _ (HG.out.trans (by repeat (first | (with_reducible exact Gr.refl _) | (with_reducible assumption) | (with_reducible refine Gr.alloc ?_ _) | (with_reducible refine Gr.drew ?_) | (with_reducible refine Gr.drewN ?_ _) | (with_reducible refine Gr.setCell ?_ (by simp <;> omega) _) | (with_reducible refine Gr.trans ?_ (by with_reducible assumption)) | exact Gr.refl _ | assumption | refine Gr.alloc ?_ _ | refine Gr.drew ?_ | refine Gr.drewN ?_ _ | refine Gr.setCell ?_ (by simp <;> omega) _ | refine Gr.trans ?_ (by assumption)))) _ _ _⟩
set_option maxHeartbeats 8000000 in
set_option maxRecDepth 100000 in
theorem refCB_7 (op k l sc ka la sa kb lb sb Na At E : Int) (half : Bool) (xa xb : ByteArray) (ya : ByteArray)
    (hW : ∀ w, Calls Try.prog 27 #[.int .i64 op, .int .i64 0, .int .i64 4] w fun e w' => e = .returned (.bool true) ∧ w = w')
    (h1 : ∀ w, Calls Try.prog 33 #[.agg #[.int .i64 ka, .int .i64 la, .int .i64 sa]] w fun e w' => e = .returned (.int .i64 0) ∧ Gr w w')
    (h2 : ∀ w, Calls Try.prog 33 #[.agg #[.int .i64 kb, .int .i64 lb, .int .i64 sb]] w fun e w' => e = .returned (.int .i64 0) ∧ Gr w w')
    (h3 : ∀ w, Calls Try.prog 33 #[.agg #[.int .i64 k, .int .i64 l, .int .i64 sc]] w fun e w' => e = .returned (.int .i64 0) ∧ Gr w w')
    (n1 : ∀ w, Calls Try.prog 34 #[.int .i64 ka] w fun e w' => e = .returned (.bool true) ∧ w = w')
    (n2 : ∀ w, Calls Try.prog 34 #[.int .i64 kb] w fun e w' => e = .returned (.bool true) ∧ w = w')
    (n3 : ∀ w, Calls Try.prog 34 #[.int .i64 k] w fun e w' => e = .returned (.bool true) ∧ w = w')
    (d1 : ∀ w, Calls Try.prog 35 #[.agg #[.int .i64 ka, .int .i64 la, .int .i64 sa], .string xa] w fun e w' => e = .returned (.tuple #[.agg #[.int .i64 Na, .string ya], .int .i64 At, .int .i64 E]) ∧ Gr w w')
    (h0 : (E != 0) = true)
    (w : World) :
    Calls Try.prog 11 #[.agg #[.int .i64 op, .int .i64 k, .int .i64 l, .int .i64 sc, .bool half], .agg #[.int .i64 ka, .int .i64 la, .int .i64 sa, .string xa], .agg #[.int .i64 kb, .int .i64 lb, .int .i64 sb, .string xb]] w fun e w' => e = .returned (.agg #[.string ⟨#[]⟩, .int .i64 At, .int .i64 E]) ∧ Gr w w' := by
  go_enter Try.func11, Try.ntmps11
  go_upto_region 4 with ((go_at_call 27; (with_reducible refine (hW _).mono ?_); rintro e w1 ⟨rfl, rfl⟩))
  have q : ∀ W, W = ((((w.alloc (.cells #[.int .i64 op, .int .i64 k, .int .i64 l, .int .i64 sc, .bool half] 25)).alloc (.cells #[.int .i64 ka, .int .i64 la, .int .i64 sa, .string xa] 40)).alloc (.cells #[.int .i64 kb, .int .i64 lb, .int .i64 sb, .string xb] 40)).alloc (.cells #[.string ⟨#[]⟩, .int .i64 0, .int .i64 0] 44)).alloc (.cells #[.int .i64 ka, .int .i64 la, .int .i64 sa, .int .i64 kb, .int .i64 lb, .int .i64 sb, .int .i64 k, .int .i64 l, .int .i64 sc] 23) → (W.cell? ⟨w.heap.size, 0, none⟩ = some (.int .i64 op) ∧ W.cell? ⟨w.heap.size, 1, none⟩ = some (.int .i64 k) ∧ W.cell? ⟨w.heap.size, 2, none⟩ = some (.int .i64 l) ∧ W.cell? ⟨w.heap.size, 3, none⟩ = some (.int .i64 sc) ∧ W.cell? ⟨w.heap.size, 4, none⟩ = some (.bool half) ∧ W.cell? ⟨w.heap.size + 1, 0, none⟩ = some (.int .i64 ka) ∧ W.cell? ⟨w.heap.size + 1, 1, none⟩ = some (.int .i64 la) ∧ W.cell? ⟨w.heap.size + 1, 2, none⟩ = some (.int .i64 sa) ∧ W.cell? ⟨w.heap.size + 1, 3, none⟩ = some (.string xa) ∧ W.cell? ⟨w.heap.size + 1 + 1, 0, none⟩ = some (.int .i64 kb) ∧ W.cell? ⟨w.heap.size + 1 + 1, 1, none⟩ = some (.int .i64 lb) ∧ W.cell? ⟨w.heap.size + 1 + 1, 2, none⟩ = some (.int .i64 sb) ∧ W.cell? ⟨w.heap.size + 1 + 1, 3, none⟩ = some (.string xb) ∧ W.cell? ⟨w.heap.size + 1 + 1 + 1, 0, none⟩ = some (.string ⟨#[]⟩) ∧ W.cell? ⟨w.heap.size + 1 + 1 + 1, 1, none⟩ = some (.int .i64 0) ∧ W.cell? ⟨w.heap.size + 1 + 1 + 1, 2, none⟩ = some (.int .i64 0) ∧ W.cell? ⟨w.heap.size + 1 + 1 + 1 + 1, 0, none⟩ = some (.int .i64 ka) ∧ W.cell? ⟨w.heap.size + 1 + 1 + 1 + 1, 1, none⟩ = some (.int .i64 la) ∧ W.cell? ⟨w.heap.size + 1 + 1 + 1 + 1, 2, none⟩ = some (.int .i64 sa) ∧ W.cell? ⟨w.heap.size + 1 + 1 + 1 + 1, 3, none⟩ = some (.int .i64 kb) ∧ W.cell? ⟨w.heap.size + 1 + 1 + 1 + 1, 4, none⟩ = some (.int .i64 lb) ∧ W.cell? ⟨w.heap.size + 1 + 1 + 1 + 1, 5, none⟩ = some (.int .i64 sb) ∧ W.cell? ⟨w.heap.size + 1 + 1 + 1 + 1, 6, none⟩ = some (.int .i64 k) ∧ W.cell? ⟨w.heap.size + 1 + 1 + 1 + 1, 7, none⟩ = some (.int .i64 l) ∧ W.cell? ⟨w.heap.size + 1 + 1 + 1 + 1, 8, none⟩ = some (.int .i64 sc) ∧ W.frozen? ⟨w.heap.size + 1 + 1 + 1, 0, none⟩ = false ∧ W.frozen? ⟨w.heap.size + 1 + 1 + 1, 1, none⟩ = false ∧ W.frozen? ⟨w.heap.size + 1 + 1 + 1, 2, none⟩ = false ∧ Gr w W ∧ w.heap.size + 1 + 1 + 1 < W.heap.size) := by
    rintro W rfl
    refine ⟨?_, ?_, ?_, ?_, ?_, ?_, ?_, ?_, ?_, ?_, ?_, ?_, ?_, ?_, ?_, ?_, ?_, ?_, ?_, ?_, ?_, ?_, ?_, ?_, ?_, ?_, ?_, ?_, (by repeat (first | (with_reducible exact Gr.refl _) | (with_reducible assumption) | (with_reducible refine Gr.alloc ?_ _) | (with_reducible refine Gr.drew ?_) | (with_reducible refine Gr.drewN ?_ _) | (with_reducible refine Gr.setCell ?_ (by simp <;> omega) _) | (with_reducible refine Gr.trans ?_ (by with_reducible assumption)) | exact Gr.refl _ | assumption | refine Gr.alloc ?_ _ | refine Gr.drew ?_ | refine Gr.drewN ?_ _ | refine Gr.setCell ?_ (by simp <;> omega) _ | refine Gr.trans ?_ (by assumption))), ?_⟩ <;> first | (simp [go_sem]; done) | (simp; done) | (simp; omega)
  obtain ⟨r0, r1, r2, r3, r4, a0, a1, a2, a3, b0, b1, b2, b3, z0, z1, z2, s0, s1, s2, s3, s4, s5, s6, s7, s8, f0, f1, f2, hG, hz⟩ := q _ rfl
  have HG := Lib.hid hG
  have ZL := Lib.hid hz
  have Hr0 := Lib.hid r0
  have Hr1 := Lib.hid r1
  have Hr2 := Lib.hid r2
  have Hr3 := Lib.hid r3
  have Hr4 := Lib.hid r4
  have Ha0 := Lib.hid a0
  have Ha1 := Lib.hid a1
  have Ha2 := Lib.hid a2
  have Ha3 := Lib.hid a3
  have Hb0 := Lib.hid b0
  have Hb1 := Lib.hid b1
  have Hb2 := Lib.hid b2
  have Hb3 := Lib.hid b3
  have Hz0 := Lib.hid z0
  have Hz1 := Lib.hid z1
  have Hz2 := Lib.hid z2
  have Hs0 := Lib.hid s0
  have Hs1 := Lib.hid s1
  have Hs2 := Lib.hid s2
  have Hs3 := Lib.hid s3
  have Hs4 := Lib.hid s4
  have Hs5 := Lib.hid s5
  have Hs6 := Lib.hid s6
  have Hs7 := Lib.hid s7
  have Hs8 := Lib.hid s8
  have HF0 := Lib.hid f0
  have HF1 := Lib.hid f1
  have HF2 := Lib.hid f2
  have HWS := Lib.hid (fun (W : World) (h : Gr w W) (x y z : Value) => ((h.setCell (p := ⟨w.heap.size + 1 + 1 + 1, 0, none⟩) (by simp; omega) x).setCell (p := ⟨w.heap.size + 1 + 1 + 1, 1, none⟩) (by simp; omega) y).setCell (p := ⟨w.heap.size + 1 + 1 + 1, 2, none⟩) (by simp; omega) z)
  clear q hG
  generalize ((((w.alloc (.cells #[.int .i64 op, .int .i64 k, .int .i64 l, .int .i64 sc, .bool half] 25)).alloc (.cells #[.int .i64 ka, .int .i64 la, .int .i64 sa, .string xa] 40)).alloc (.cells #[.int .i64 kb, .int .i64 lb, .int .i64 sb, .string xb] 40)).alloc (.cells #[.string ⟨#[]⟩, .int .i64 0, .int .i64 0] 44)).alloc (.cells #[.int .i64 ka, .int .i64 la, .int .i64 sa, .int .i64 kb, .int .i64 lb, .int .i64 sb, .int .i64 k, .int .i64 l, .int .i64 sc] 23) = W0 at *
  generalize w.heap.size = G at *
  have lr := World.block_lt_of_cell? _ _ r0
  have la := World.block_lt_of_cell? _ _ a0
  have lb := World.block_lt_of_cell? _ _ b0
  have lz := World.block_lt_of_cell? _ _ z0
  have ls := World.block_lt_of_cell? _ _ s0
  (try dsimp only at lr la lb lz ls)
  go_wp2
  refine wp_loop_rounds 4 ?_
  rw [rounds_succ]
  go_wp2_with (go_at_call 33; (with_reducible refine (h1 _).mono ?_); rintro e wt0 ⟨rfl, hb⟩; have g := (show Gr W0 wt0 from Gr.trans (by repeat (first | (with_reducible exact Gr.refl _) | (with_reducible assumption) | (with_reducible refine Gr.alloc ?_ _) | (with_reducible refine Gr.drew ?_) | (with_reducible refine Gr.drewN ?_ _) | (with_reducible refine Gr.setCell ?_ (by simp <;> omega) _) | (with_reducible refine Gr.trans ?_ (by with_reducible assumption)) | exact Gr.refl _ | assumption | refine Gr.alloc ?_ _ | refine Gr.drew ?_ | refine Gr.drewN ?_ _ | refine Gr.setCell ?_ (by simp <;> omega) _ | refine Gr.trans ?_ (by assumption))) hb); have r0 := g.keep Hr0.out; have r1 := g.keep Hr1.out; have r2 := g.keep Hr2.out; have r3 := g.keep Hr3.out; have r4 := g.keep Hr4.out; have a0 := g.keep Ha0.out; have a1 := g.keep Ha1.out; have a2 := g.keep Ha2.out; have a3 := g.keep Ha3.out; have b0 := g.keep Hb0.out; have b1 := g.keep Hb1.out; have b2 := g.keep Hb2.out; have b3 := g.keep Hb3.out; have z0 := g.keep Hz0.out; have z1 := g.keep Hz1.out; have z2 := g.keep Hz2.out; have s0 := g.keep Hs0.out; have s1 := g.keep Hs1.out; have s2 := g.keep Hs2.out; have s3 := g.keep Hs3.out; have s4 := g.keep Hs4.out; have s5 := g.keep Hs5.out; have s6 := g.keep Hs6.out; have s7 := g.keep Hs7.out; have s8 := g.keep Hs8.out; have f0 := (g.cells.2 _ _ ZL.out).trans HF0.out; have f1 := (g.cells.2 _ _ ZL.out).trans HF1.out; have f2 := (g.cells.2 _ _ ZL.out).trans HF2.out; have lr := World.block_lt_of_cell? _ _ r0; have la := World.block_lt_of_cell? _ _ a0; have lb := World.block_lt_of_cell? _ _ b0; have lz := World.block_lt_of_cell? _ _ z0; have ls := World.block_lt_of_cell? _ _ s0; (try dsimp only at lr la lb lz ls))
  rw [rounds_succ]
  go_wp2_with (go_at_call 33; (with_reducible refine (h2 _).mono ?_); rintro e wt1 ⟨rfl, hb⟩; have g := (show Gr W0 wt1 from Gr.trans (by repeat (first | (with_reducible exact Gr.refl _) | (with_reducible assumption) | (with_reducible refine Gr.alloc ?_ _) | (with_reducible refine Gr.drew ?_) | (with_reducible refine Gr.drewN ?_ _) | (with_reducible refine Gr.setCell ?_ (by simp <;> omega) _) | (with_reducible refine Gr.trans ?_ (by with_reducible assumption)) | exact Gr.refl _ | assumption | refine Gr.alloc ?_ _ | refine Gr.drew ?_ | refine Gr.drewN ?_ _ | refine Gr.setCell ?_ (by simp <;> omega) _ | refine Gr.trans ?_ (by assumption))) hb); have r0 := g.keep Hr0.out; have r1 := g.keep Hr1.out; have r2 := g.keep Hr2.out; have r3 := g.keep Hr3.out; have r4 := g.keep Hr4.out; have a0 := g.keep Ha0.out; have a1 := g.keep Ha1.out; have a2 := g.keep Ha2.out; have a3 := g.keep Ha3.out; have b0 := g.keep Hb0.out; have b1 := g.keep Hb1.out; have b2 := g.keep Hb2.out; have b3 := g.keep Hb3.out; have z0 := g.keep Hz0.out; have z1 := g.keep Hz1.out; have z2 := g.keep Hz2.out; have s0 := g.keep Hs0.out; have s1 := g.keep Hs1.out; have s2 := g.keep Hs2.out; have s3 := g.keep Hs3.out; have s4 := g.keep Hs4.out; have s5 := g.keep Hs5.out; have s6 := g.keep Hs6.out; have s7 := g.keep Hs7.out; have s8 := g.keep Hs8.out; have f0 := (g.cells.2 _ _ ZL.out).trans HF0.out; have f1 := (g.cells.2 _ _ ZL.out).trans HF1.out; have f2 := (g.cells.2 _ _ ZL.out).trans HF2.out; have lr := World.block_lt_of_cell? _ _ r0; have la := World.block_lt_of_cell? _ _ a0; have lb := World.block_lt_of_cell? _ _ b0; have lz := World.block_lt_of_cell? _ _ z0; have ls := World.block_lt_of_cell? _ _ s0; (try dsimp only at lr la lb lz ls))
  rw [rounds_succ]
  go_wp2_with (go_at_call 33; (with_reducible refine (h3 _).mono ?_); rintro e wt2 ⟨rfl, hb⟩; have g := (show Gr W0 wt2 from Gr.trans (by repeat (first | (with_reducible exact Gr.refl _) | (with_reducible assumption) | (with_reducible refine Gr.alloc ?_ _) | (with_reducible refine Gr.drew ?_) | (with_reducible refine Gr.drewN ?_ _) | (with_reducible refine Gr.setCell ?_ (by simp <;> omega) _) | (with_reducible refine Gr.trans ?_ (by with_reducible assumption)) | exact Gr.refl _ | assumption | refine Gr.alloc ?_ _ | refine Gr.drew ?_ | refine Gr.drewN ?_ _ | refine Gr.setCell ?_ (by simp <;> omega) _ | refine Gr.trans ?_ (by assumption))) hb); have r0 := g.keep Hr0.out; have r1 := g.keep Hr1.out; have r2 := g.keep Hr2.out; have r3 := g.keep Hr3.out; have r4 := g.keep Hr4.out; have a0 := g.keep Ha0.out; have a1 := g.keep Ha1.out; have a2 := g.keep Ha2.out; have a3 := g.keep Ha3.out; have b0 := g.keep Hb0.out; have b1 := g.keep Hb1.out; have b2 := g.keep Hb2.out; have b3 := g.keep Hb3.out; have z0 := g.keep Hz0.out; have z1 := g.keep Hz1.out; have z2 := g.keep Hz2.out; have s0 := g.keep Hs0.out; have s1 := g.keep Hs1.out; have s2 := g.keep Hs2.out; have s3 := g.keep Hs3.out; have s4 := g.keep Hs4.out; have s5 := g.keep Hs5.out; have s6 := g.keep Hs6.out; have s7 := g.keep Hs7.out; have s8 := g.keep Hs8.out; have f0 := (g.cells.2 _ _ ZL.out).trans HF0.out; have f1 := (g.cells.2 _ _ ZL.out).trans HF1.out; have f2 := (g.cells.2 _ _ ZL.out).trans HF2.out; have lr := World.block_lt_of_cell? _ _ r0; have la := World.block_lt_of_cell? _ _ a0; have lb := World.block_lt_of_cell? _ _ b0; have lz := World.block_lt_of_cell? _ _ z0; have ls := World.block_lt_of_cell? _ _ s0; (try dsimp only at lr la lb lz ls))
  rw [rounds_succ]
  go_wp2
  refine wp_loop_rounds 4 ?_
  rw [rounds_succ]
  go_wp2_with (go_at_call 34; (with_reducible refine (n1 _).mono ?_); rintro e w1 ⟨rfl, rfl⟩)
  rw [rounds_succ]
  go_wp2_with (go_at_call 34; (with_reducible refine (n2 _).mono ?_); rintro e w1 ⟨rfl, rfl⟩)
  rw [rounds_succ]
  go_wp2_with (go_at_call 34; (with_reducible refine (n3 _).mono ?_); rintro e w1 ⟨rfl, rfl⟩)
  rw [rounds_succ]
  go_wp2_with (first | (go_at_call 35; (with_reducible refine (d1 _).mono ?_); rintro e wd1 ⟨rfl, hb⟩; have g := (show Gr W0 wd1 from Gr.trans (by repeat (first | (with_reducible exact Gr.refl _) | (with_reducible assumption) | (with_reducible refine Gr.alloc ?_ _) | (with_reducible refine Gr.drew ?_) | (with_reducible refine Gr.drewN ?_ _) | (with_reducible refine Gr.setCell ?_ (by simp <;> omega) _) | (with_reducible refine Gr.trans ?_ (by with_reducible assumption)) | exact Gr.refl _ | assumption | refine Gr.alloc ?_ _ | refine Gr.drew ?_ | refine Gr.drewN ?_ _ | refine Gr.setCell ?_ (by simp <;> omega) _ | refine Gr.trans ?_ (by assumption))) hb); have r0 := g.keep Hr0.out; have r1 := g.keep Hr1.out; have r2 := g.keep Hr2.out; have r3 := g.keep Hr3.out; have r4 := g.keep Hr4.out; have a0 := g.keep Ha0.out; have a1 := g.keep Ha1.out; have a2 := g.keep Ha2.out; have a3 := g.keep Ha3.out; have b0 := g.keep Hb0.out; have b1 := g.keep Hb1.out; have b2 := g.keep Hb2.out; have b3 := g.keep Hb3.out; have z0 := g.keep Hz0.out; have z1 := g.keep Hz1.out; have z2 := g.keep Hz2.out; have s0 := g.keep Hs0.out; have s1 := g.keep Hs1.out; have s2 := g.keep Hs2.out; have s3 := g.keep Hs3.out; have s4 := g.keep Hs4.out; have s5 := g.keep Hs5.out; have s6 := g.keep Hs6.out; have s7 := g.keep Hs7.out; have s8 := g.keep Hs8.out; have f0 := (g.cells.2 _ _ ZL.out).trans HF0.out; have f1 := (g.cells.2 _ _ ZL.out).trans HF1.out; have f2 := (g.cells.2 _ _ ZL.out).trans HF2.out; have lr := World.block_lt_of_cell? _ _ r0; have la := World.block_lt_of_cell? _ _ a0; have lb := World.block_lt_of_cell? _ _ b0; have lz := World.block_lt_of_cell? _ _ z0; have ls := World.block_lt_of_cell? _ _ s0; (try dsimp only at lr la lb lz ls)))
  exact bodyPost_ret (v := .agg #[.string ⟨#[]⟩, .int .i64 At, .int .i64 E]) (by simp [results, Try.results11, go_sem, *]) rfl ⟨rfl, (HWS.out _ (HG.out.trans (by repeat (first | (with_reducible exact Gr.refl _) | (with_reducible assumption) | (with_reducible refine Gr.alloc ?_ _) | (with_reducible refine Gr.drew ?_) | (with_reducible refine Gr.drewN ?_ _) | (with_reducible refine Gr.setCell ?_ (by simp <;> omega) _) | (with_reducible refine Gr.trans ?_ (by with_reducible assumption)) | exact Gr.refl _ | assumption | refine Gr.alloc ?_ _ | refine Gr.drew ?_ | refine Gr.drewN ?_ _ | refine Gr.setCell ?_ (by simp <;> omega) _ | refine Gr.trans ?_ (by assumption)))) _ _ _).alloc _⟩
set_option maxHeartbeats 8000000 in
set_option maxRecDepth 100000 in
theorem refCB_8 (op k l sc ka la sa kb lb sb Na Aa Nb At E : Int) (half : Bool) (xa xb : ByteArray) (ya yb : ByteArray)
    (hW : ∀ w, Calls Try.prog 27 #[.int .i64 op, .int .i64 0, .int .i64 4] w fun e w' => e = .returned (.bool true) ∧ w = w')
    (h1 : ∀ w, Calls Try.prog 33 #[.agg #[.int .i64 ka, .int .i64 la, .int .i64 sa]] w fun e w' => e = .returned (.int .i64 0) ∧ Gr w w')
    (h2 : ∀ w, Calls Try.prog 33 #[.agg #[.int .i64 kb, .int .i64 lb, .int .i64 sb]] w fun e w' => e = .returned (.int .i64 0) ∧ Gr w w')
    (h3 : ∀ w, Calls Try.prog 33 #[.agg #[.int .i64 k, .int .i64 l, .int .i64 sc]] w fun e w' => e = .returned (.int .i64 0) ∧ Gr w w')
    (n1 : ∀ w, Calls Try.prog 34 #[.int .i64 ka] w fun e w' => e = .returned (.bool true) ∧ w = w')
    (n2 : ∀ w, Calls Try.prog 34 #[.int .i64 kb] w fun e w' => e = .returned (.bool true) ∧ w = w')
    (n3 : ∀ w, Calls Try.prog 34 #[.int .i64 k] w fun e w' => e = .returned (.bool true) ∧ w = w')
    (d1 : ∀ w, Calls Try.prog 35 #[.agg #[.int .i64 ka, .int .i64 la, .int .i64 sa], .string xa] w fun e w' => e = .returned (.tuple #[.agg #[.int .i64 Na, .string ya], .int .i64 Aa, .int .i64 0]) ∧ Gr w w')
    (d2 : ∀ w, Calls Try.prog 35 #[.agg #[.int .i64 kb, .int .i64 lb, .int .i64 sb], .string xb] w fun e w' => e = .returned (.tuple #[.agg #[.int .i64 Nb, .string yb], .int .i64 At, .int .i64 E]) ∧ Gr w w')
    (h0 : (E != 0) = true)
    (w : World) :
    Calls Try.prog 11 #[.agg #[.int .i64 op, .int .i64 k, .int .i64 l, .int .i64 sc, .bool half], .agg #[.int .i64 ka, .int .i64 la, .int .i64 sa, .string xa], .agg #[.int .i64 kb, .int .i64 lb, .int .i64 sb, .string xb]] w fun e w' => e = .returned (.agg #[.string ⟨#[]⟩, .int .i64 At, .int .i64 E]) ∧ Gr w w' := by
  go_enter Try.func11, Try.ntmps11
  go_upto_region 4 with ((go_at_call 27; (with_reducible refine (hW _).mono ?_); rintro e w1 ⟨rfl, rfl⟩))
  have q : ∀ W, W = ((((w.alloc (.cells #[.int .i64 op, .int .i64 k, .int .i64 l, .int .i64 sc, .bool half] 25)).alloc (.cells #[.int .i64 ka, .int .i64 la, .int .i64 sa, .string xa] 40)).alloc (.cells #[.int .i64 kb, .int .i64 lb, .int .i64 sb, .string xb] 40)).alloc (.cells #[.string ⟨#[]⟩, .int .i64 0, .int .i64 0] 44)).alloc (.cells #[.int .i64 ka, .int .i64 la, .int .i64 sa, .int .i64 kb, .int .i64 lb, .int .i64 sb, .int .i64 k, .int .i64 l, .int .i64 sc] 23) → (W.cell? ⟨w.heap.size, 0, none⟩ = some (.int .i64 op) ∧ W.cell? ⟨w.heap.size, 1, none⟩ = some (.int .i64 k) ∧ W.cell? ⟨w.heap.size, 2, none⟩ = some (.int .i64 l) ∧ W.cell? ⟨w.heap.size, 3, none⟩ = some (.int .i64 sc) ∧ W.cell? ⟨w.heap.size, 4, none⟩ = some (.bool half) ∧ W.cell? ⟨w.heap.size + 1, 0, none⟩ = some (.int .i64 ka) ∧ W.cell? ⟨w.heap.size + 1, 1, none⟩ = some (.int .i64 la) ∧ W.cell? ⟨w.heap.size + 1, 2, none⟩ = some (.int .i64 sa) ∧ W.cell? ⟨w.heap.size + 1, 3, none⟩ = some (.string xa) ∧ W.cell? ⟨w.heap.size + 1 + 1, 0, none⟩ = some (.int .i64 kb) ∧ W.cell? ⟨w.heap.size + 1 + 1, 1, none⟩ = some (.int .i64 lb) ∧ W.cell? ⟨w.heap.size + 1 + 1, 2, none⟩ = some (.int .i64 sb) ∧ W.cell? ⟨w.heap.size + 1 + 1, 3, none⟩ = some (.string xb) ∧ W.cell? ⟨w.heap.size + 1 + 1 + 1, 0, none⟩ = some (.string ⟨#[]⟩) ∧ W.cell? ⟨w.heap.size + 1 + 1 + 1, 1, none⟩ = some (.int .i64 0) ∧ W.cell? ⟨w.heap.size + 1 + 1 + 1, 2, none⟩ = some (.int .i64 0) ∧ W.cell? ⟨w.heap.size + 1 + 1 + 1 + 1, 0, none⟩ = some (.int .i64 ka) ∧ W.cell? ⟨w.heap.size + 1 + 1 + 1 + 1, 1, none⟩ = some (.int .i64 la) ∧ W.cell? ⟨w.heap.size + 1 + 1 + 1 + 1, 2, none⟩ = some (.int .i64 sa) ∧ W.cell? ⟨w.heap.size + 1 + 1 + 1 + 1, 3, none⟩ = some (.int .i64 kb) ∧ W.cell? ⟨w.heap.size + 1 + 1 + 1 + 1, 4, none⟩ = some (.int .i64 lb) ∧ W.cell? ⟨w.heap.size + 1 + 1 + 1 + 1, 5, none⟩ = some (.int .i64 sb) ∧ W.cell? ⟨w.heap.size + 1 + 1 + 1 + 1, 6, none⟩ = some (.int .i64 k) ∧ W.cell? ⟨w.heap.size + 1 + 1 + 1 + 1, 7, none⟩ = some (.int .i64 l) ∧ W.cell? ⟨w.heap.size + 1 + 1 + 1 + 1, 8, none⟩ = some (.int .i64 sc) ∧ W.frozen? ⟨w.heap.size + 1 + 1 + 1, 0, none⟩ = false ∧ W.frozen? ⟨w.heap.size + 1 + 1 + 1, 1, none⟩ = false ∧ W.frozen? ⟨w.heap.size + 1 + 1 + 1, 2, none⟩ = false ∧ Gr w W ∧ w.heap.size + 1 + 1 + 1 < W.heap.size) := by
    rintro W rfl
    refine ⟨?_, ?_, ?_, ?_, ?_, ?_, ?_, ?_, ?_, ?_, ?_, ?_, ?_, ?_, ?_, ?_, ?_, ?_, ?_, ?_, ?_, ?_, ?_, ?_, ?_, ?_, ?_, ?_, (by repeat (first | (with_reducible exact Gr.refl _) | (with_reducible assumption) | (with_reducible refine Gr.alloc ?_ _) | (with_reducible refine Gr.drew ?_) | (with_reducible refine Gr.drewN ?_ _) | (with_reducible refine Gr.setCell ?_ (by simp <;> omega) _) | (with_reducible refine Gr.trans ?_ (by with_reducible assumption)) | exact Gr.refl _ | assumption | refine Gr.alloc ?_ _ | refine Gr.drew ?_ | refine Gr.drewN ?_ _ | refine Gr.setCell ?_ (by simp <;> omega) _ | refine Gr.trans ?_ (by assumption))), ?_⟩ <;> first | (simp [go_sem]; done) | (simp; done) | (simp; omega)
  obtain ⟨r0, r1, r2, r3, r4, a0, a1, a2, a3, b0, b1, b2, b3, z0, z1, z2, s0, s1, s2, s3, s4, s5, s6, s7, s8, f0, f1, f2, hG, hz⟩ := q _ rfl
  have HG := Lib.hid hG
  have ZL := Lib.hid hz
  have Hr0 := Lib.hid r0
  have Hr1 := Lib.hid r1
  have Hr2 := Lib.hid r2
  have Hr3 := Lib.hid r3
  have Hr4 := Lib.hid r4
  have Ha0 := Lib.hid a0
  have Ha1 := Lib.hid a1
  have Ha2 := Lib.hid a2
  have Ha3 := Lib.hid a3
  have Hb0 := Lib.hid b0
  have Hb1 := Lib.hid b1
  have Hb2 := Lib.hid b2
  have Hb3 := Lib.hid b3
  have Hz0 := Lib.hid z0
  have Hz1 := Lib.hid z1
  have Hz2 := Lib.hid z2
  have Hs0 := Lib.hid s0
  have Hs1 := Lib.hid s1
  have Hs2 := Lib.hid s2
  have Hs3 := Lib.hid s3
  have Hs4 := Lib.hid s4
  have Hs5 := Lib.hid s5
  have Hs6 := Lib.hid s6
  have Hs7 := Lib.hid s7
  have Hs8 := Lib.hid s8
  have HF0 := Lib.hid f0
  have HF1 := Lib.hid f1
  have HF2 := Lib.hid f2
  have HWS := Lib.hid (fun (W : World) (h : Gr w W) (x y z : Value) => ((h.setCell (p := ⟨w.heap.size + 1 + 1 + 1, 0, none⟩) (by simp; omega) x).setCell (p := ⟨w.heap.size + 1 + 1 + 1, 1, none⟩) (by simp; omega) y).setCell (p := ⟨w.heap.size + 1 + 1 + 1, 2, none⟩) (by simp; omega) z)
  clear q hG
  generalize ((((w.alloc (.cells #[.int .i64 op, .int .i64 k, .int .i64 l, .int .i64 sc, .bool half] 25)).alloc (.cells #[.int .i64 ka, .int .i64 la, .int .i64 sa, .string xa] 40)).alloc (.cells #[.int .i64 kb, .int .i64 lb, .int .i64 sb, .string xb] 40)).alloc (.cells #[.string ⟨#[]⟩, .int .i64 0, .int .i64 0] 44)).alloc (.cells #[.int .i64 ka, .int .i64 la, .int .i64 sa, .int .i64 kb, .int .i64 lb, .int .i64 sb, .int .i64 k, .int .i64 l, .int .i64 sc] 23) = W0 at *
  generalize w.heap.size = G at *
  have lr := World.block_lt_of_cell? _ _ r0
  have la := World.block_lt_of_cell? _ _ a0
  have lb := World.block_lt_of_cell? _ _ b0
  have lz := World.block_lt_of_cell? _ _ z0
  have ls := World.block_lt_of_cell? _ _ s0
  (try dsimp only at lr la lb lz ls)
  go_wp2
  refine wp_loop_rounds 4 ?_
  rw [rounds_succ]
  go_wp2_with (go_at_call 33; (with_reducible refine (h1 _).mono ?_); rintro e wt0 ⟨rfl, hb⟩; have g := (show Gr W0 wt0 from Gr.trans (by repeat (first | (with_reducible exact Gr.refl _) | (with_reducible assumption) | (with_reducible refine Gr.alloc ?_ _) | (with_reducible refine Gr.drew ?_) | (with_reducible refine Gr.drewN ?_ _) | (with_reducible refine Gr.setCell ?_ (by simp <;> omega) _) | (with_reducible refine Gr.trans ?_ (by with_reducible assumption)) | exact Gr.refl _ | assumption | refine Gr.alloc ?_ _ | refine Gr.drew ?_ | refine Gr.drewN ?_ _ | refine Gr.setCell ?_ (by simp <;> omega) _ | refine Gr.trans ?_ (by assumption))) hb); have r0 := g.keep Hr0.out; have r1 := g.keep Hr1.out; have r2 := g.keep Hr2.out; have r3 := g.keep Hr3.out; have r4 := g.keep Hr4.out; have a0 := g.keep Ha0.out; have a1 := g.keep Ha1.out; have a2 := g.keep Ha2.out; have a3 := g.keep Ha3.out; have b0 := g.keep Hb0.out; have b1 := g.keep Hb1.out; have b2 := g.keep Hb2.out; have b3 := g.keep Hb3.out; have z0 := g.keep Hz0.out; have z1 := g.keep Hz1.out; have z2 := g.keep Hz2.out; have s0 := g.keep Hs0.out; have s1 := g.keep Hs1.out; have s2 := g.keep Hs2.out; have s3 := g.keep Hs3.out; have s4 := g.keep Hs4.out; have s5 := g.keep Hs5.out; have s6 := g.keep Hs6.out; have s7 := g.keep Hs7.out; have s8 := g.keep Hs8.out; have f0 := (g.cells.2 _ _ ZL.out).trans HF0.out; have f1 := (g.cells.2 _ _ ZL.out).trans HF1.out; have f2 := (g.cells.2 _ _ ZL.out).trans HF2.out; have lr := World.block_lt_of_cell? _ _ r0; have la := World.block_lt_of_cell? _ _ a0; have lb := World.block_lt_of_cell? _ _ b0; have lz := World.block_lt_of_cell? _ _ z0; have ls := World.block_lt_of_cell? _ _ s0; (try dsimp only at lr la lb lz ls))
  rw [rounds_succ]
  go_wp2_with (go_at_call 33; (with_reducible refine (h2 _).mono ?_); rintro e wt1 ⟨rfl, hb⟩; have g := (show Gr W0 wt1 from Gr.trans (by repeat (first | (with_reducible exact Gr.refl _) | (with_reducible assumption) | (with_reducible refine Gr.alloc ?_ _) | (with_reducible refine Gr.drew ?_) | (with_reducible refine Gr.drewN ?_ _) | (with_reducible refine Gr.setCell ?_ (by simp <;> omega) _) | (with_reducible refine Gr.trans ?_ (by with_reducible assumption)) | exact Gr.refl _ | assumption | refine Gr.alloc ?_ _ | refine Gr.drew ?_ | refine Gr.drewN ?_ _ | refine Gr.setCell ?_ (by simp <;> omega) _ | refine Gr.trans ?_ (by assumption))) hb); have r0 := g.keep Hr0.out; have r1 := g.keep Hr1.out; have r2 := g.keep Hr2.out; have r3 := g.keep Hr3.out; have r4 := g.keep Hr4.out; have a0 := g.keep Ha0.out; have a1 := g.keep Ha1.out; have a2 := g.keep Ha2.out; have a3 := g.keep Ha3.out; have b0 := g.keep Hb0.out; have b1 := g.keep Hb1.out; have b2 := g.keep Hb2.out; have b3 := g.keep Hb3.out; have z0 := g.keep Hz0.out; have z1 := g.keep Hz1.out; have z2 := g.keep Hz2.out; have s0 := g.keep Hs0.out; have s1 := g.keep Hs1.out; have s2 := g.keep Hs2.out; have s3 := g.keep Hs3.out; have s4 := g.keep Hs4.out; have s5 := g.keep Hs5.out; have s6 := g.keep Hs6.out; have s7 := g.keep Hs7.out; have s8 := g.keep Hs8.out; have f0 := (g.cells.2 _ _ ZL.out).trans HF0.out; have f1 := (g.cells.2 _ _ ZL.out).trans HF1.out; have f2 := (g.cells.2 _ _ ZL.out).trans HF2.out; have lr := World.block_lt_of_cell? _ _ r0; have la := World.block_lt_of_cell? _ _ a0; have lb := World.block_lt_of_cell? _ _ b0; have lz := World.block_lt_of_cell? _ _ z0; have ls := World.block_lt_of_cell? _ _ s0; (try dsimp only at lr la lb lz ls))
  rw [rounds_succ]
  go_wp2_with (go_at_call 33; (with_reducible refine (h3 _).mono ?_); rintro e wt2 ⟨rfl, hb⟩; have g := (show Gr W0 wt2 from Gr.trans (by repeat (first | (with_reducible exact Gr.refl _) | (with_reducible assumption) | (with_reducible refine Gr.alloc ?_ _) | (with_reducible refine Gr.drew ?_) | (with_reducible refine Gr.drewN ?_ _) | (with_reducible refine Gr.setCell ?_ (by simp <;> omega) _) | (with_reducible refine Gr.trans ?_ (by with_reducible assumption)) | exact Gr.refl _ | assumption | refine Gr.alloc ?_ _ | refine Gr.drew ?_ | refine Gr.drewN ?_ _ | refine Gr.setCell ?_ (by simp <;> omega) _ | refine Gr.trans ?_ (by assumption))) hb); have r0 := g.keep Hr0.out; have r1 := g.keep Hr1.out; have r2 := g.keep Hr2.out; have r3 := g.keep Hr3.out; have r4 := g.keep Hr4.out; have a0 := g.keep Ha0.out; have a1 := g.keep Ha1.out; have a2 := g.keep Ha2.out; have a3 := g.keep Ha3.out; have b0 := g.keep Hb0.out; have b1 := g.keep Hb1.out; have b2 := g.keep Hb2.out; have b3 := g.keep Hb3.out; have z0 := g.keep Hz0.out; have z1 := g.keep Hz1.out; have z2 := g.keep Hz2.out; have s0 := g.keep Hs0.out; have s1 := g.keep Hs1.out; have s2 := g.keep Hs2.out; have s3 := g.keep Hs3.out; have s4 := g.keep Hs4.out; have s5 := g.keep Hs5.out; have s6 := g.keep Hs6.out; have s7 := g.keep Hs7.out; have s8 := g.keep Hs8.out; have f0 := (g.cells.2 _ _ ZL.out).trans HF0.out; have f1 := (g.cells.2 _ _ ZL.out).trans HF1.out; have f2 := (g.cells.2 _ _ ZL.out).trans HF2.out; have lr := World.block_lt_of_cell? _ _ r0; have la := World.block_lt_of_cell? _ _ a0; have lb := World.block_lt_of_cell? _ _ b0; have lz := World.block_lt_of_cell? _ _ z0; have ls := World.block_lt_of_cell? _ _ s0; (try dsimp only at lr la lb lz ls))
  rw [rounds_succ]
  go_wp2
  refine wp_loop_rounds 4 ?_
  rw [rounds_succ]
  go_wp2_with (go_at_call 34; (with_reducible refine (n1 _).mono ?_); rintro e w1 ⟨rfl, rfl⟩)
  rw [rounds_succ]
  go_wp2_with (go_at_call 34; (with_reducible refine (n2 _).mono ?_); rintro e w1 ⟨rfl, rfl⟩)
  rw [rounds_succ]
  go_wp2_with (go_at_call 34; (with_reducible refine (n3 _).mono ?_); rintro e w1 ⟨rfl, rfl⟩)
  rw [rounds_succ]
  go_wp2_with (first | (go_at_call 35; (with_reducible refine (d1 _).mono ?_); rintro e wd1 ⟨rfl, hb⟩; have g := (show Gr W0 wd1 from Gr.trans (by repeat (first | (with_reducible exact Gr.refl _) | (with_reducible assumption) | (with_reducible refine Gr.alloc ?_ _) | (with_reducible refine Gr.drew ?_) | (with_reducible refine Gr.drewN ?_ _) | (with_reducible refine Gr.setCell ?_ (by simp <;> omega) _) | (with_reducible refine Gr.trans ?_ (by with_reducible assumption)) | exact Gr.refl _ | assumption | refine Gr.alloc ?_ _ | refine Gr.drew ?_ | refine Gr.drewN ?_ _ | refine Gr.setCell ?_ (by simp <;> omega) _ | refine Gr.trans ?_ (by assumption))) hb); have r0 := g.keep Hr0.out; have r1 := g.keep Hr1.out; have r2 := g.keep Hr2.out; have r3 := g.keep Hr3.out; have r4 := g.keep Hr4.out; have a0 := g.keep Ha0.out; have a1 := g.keep Ha1.out; have a2 := g.keep Ha2.out; have a3 := g.keep Ha3.out; have b0 := g.keep Hb0.out; have b1 := g.keep Hb1.out; have b2 := g.keep Hb2.out; have b3 := g.keep Hb3.out; have z0 := g.keep Hz0.out; have z1 := g.keep Hz1.out; have z2 := g.keep Hz2.out; have s0 := g.keep Hs0.out; have s1 := g.keep Hs1.out; have s2 := g.keep Hs2.out; have s3 := g.keep Hs3.out; have s4 := g.keep Hs4.out; have s5 := g.keep Hs5.out; have s6 := g.keep Hs6.out; have s7 := g.keep Hs7.out; have s8 := g.keep Hs8.out; have f0 := (g.cells.2 _ _ ZL.out).trans HF0.out; have f1 := (g.cells.2 _ _ ZL.out).trans HF1.out; have f2 := (g.cells.2 _ _ ZL.out).trans HF2.out; have lr := World.block_lt_of_cell? _ _ r0; have la := World.block_lt_of_cell? _ _ a0; have lb := World.block_lt_of_cell? _ _ b0; have lz := World.block_lt_of_cell? _ _ z0; have ls := World.block_lt_of_cell? _ _ s0; (try dsimp only at lr la lb lz ls)) | (go_at_call 35; (with_reducible refine (d2 _).mono ?_); rintro e wd2 ⟨rfl, hb⟩; have g := (show Gr W0 wd2 from Gr.trans (by repeat (first | (with_reducible exact Gr.refl _) | (with_reducible assumption) | (with_reducible refine Gr.alloc ?_ _) | (with_reducible refine Gr.drew ?_) | (with_reducible refine Gr.drewN ?_ _) | (with_reducible refine Gr.setCell ?_ (by simp <;> omega) _) | (with_reducible refine Gr.trans ?_ (by with_reducible assumption)) | exact Gr.refl _ | assumption | refine Gr.alloc ?_ _ | refine Gr.drew ?_ | refine Gr.drewN ?_ _ | refine Gr.setCell ?_ (by simp <;> omega) _ | refine Gr.trans ?_ (by assumption))) hb); have r0 := g.keep Hr0.out; have r1 := g.keep Hr1.out; have r2 := g.keep Hr2.out; have r3 := g.keep Hr3.out; have r4 := g.keep Hr4.out; have a0 := g.keep Ha0.out; have a1 := g.keep Ha1.out; have a2 := g.keep Ha2.out; have a3 := g.keep Ha3.out; have b0 := g.keep Hb0.out; have b1 := g.keep Hb1.out; have b2 := g.keep Hb2.out; have b3 := g.keep Hb3.out; have z0 := g.keep Hz0.out; have z1 := g.keep Hz1.out; have z2 := g.keep Hz2.out; have s0 := g.keep Hs0.out; have s1 := g.keep Hs1.out; have s2 := g.keep Hs2.out; have s3 := g.keep Hs3.out; have s4 := g.keep Hs4.out; have s5 := g.keep Hs5.out; have s6 := g.keep Hs6.out; have s7 := g.keep Hs7.out; have s8 := g.keep Hs8.out; have f0 := (g.cells.2 _ _ ZL.out).trans HF0.out; have f1 := (g.cells.2 _ _ ZL.out).trans HF1.out; have f2 := (g.cells.2 _ _ ZL.out).trans HF2.out; have lr := World.block_lt_of_cell? _ _ r0; have la := World.block_lt_of_cell? _ _ a0; have lb := World.block_lt_of_cell? _ _ b0; have lz := World.block_lt_of_cell? _ _ z0; have ls := World.block_lt_of_cell? _ _ s0; (try dsimp only at lr la lb lz ls); have u0 := hb.keep (p := ⟨wd1.heap.size, 0, none⟩) (v := .int .i64 Na) (by simp [go_sem]); have lu := World.block_lt_of_cell? _ _ u0; (try dsimp only at lu)))
  exact bodyPost_ret (v := .agg #[.string ⟨#[]⟩, .int .i64 At, .int .i64 E]) (by simp [results, Try.results11, go_sem, *]) rfl ⟨rfl, (HWS.out _ (HG.out.trans (by repeat (first | (with_reducible exact Gr.refl _) | (with_reducible assumption) | (with_reducible refine Gr.alloc ?_ _) | (with_reducible refine Gr.drew ?_) | (with_reducible refine Gr.drewN ?_ _) | (with_reducible refine Gr.setCell ?_ (by simp <;> omega) _) | (with_reducible refine Gr.trans ?_ (by with_reducible assumption)) | exact Gr.refl _ | assumption | refine Gr.alloc ?_ _ | refine Gr.drew ?_ | refine Gr.drewN ?_ _ | refine Gr.setCell ?_ (by simp <;> omega) _ | refine Gr.trans ?_ (by assumption)))) _ _ _).alloc _⟩
set_option maxHeartbeats 8000000 in
set_option maxRecDepth 100000 in
theorem refCB_9 (op k l sc ka la sa kb lb sb Na Aa Nb Ab N E : Int) (half : Bool) (xa xb : ByteArray) (ya yb : ByteArray)
    (hW : ∀ w, Calls Try.prog 27 #[.int .i64 op, .int .i64 0, .int .i64 4] w fun e w' => e = .returned (.bool true) ∧ w = w')
    (h1 : ∀ w, Calls Try.prog 33 #[.agg #[.int .i64 ka, .int .i64 la, .int .i64 sa]] w fun e w' => e = .returned (.int .i64 0) ∧ Gr w w')
    (h2 : ∀ w, Calls Try.prog 33 #[.agg #[.int .i64 kb, .int .i64 lb, .int .i64 sb]] w fun e w' => e = .returned (.int .i64 0) ∧ Gr w w')
    (h3 : ∀ w, Calls Try.prog 33 #[.agg #[.int .i64 k, .int .i64 l, .int .i64 sc]] w fun e w' => e = .returned (.int .i64 0) ∧ Gr w w')
    (n1 : ∀ w, Calls Try.prog 34 #[.int .i64 ka] w fun e w' => e = .returned (.bool true) ∧ w = w')
    (n2 : ∀ w, Calls Try.prog 34 #[.int .i64 kb] w fun e w' => e = .returned (.bool true) ∧ w = w')
    (n3 : ∀ w, Calls Try.prog 34 #[.int .i64 k] w fun e w' => e = .returned (.bool true) ∧ w = w')
    (d1 : ∀ w, Calls Try.prog 35 #[.agg #[.int .i64 ka, .int .i64 la, .int .i64 sa], .string xa] w fun e w' => e = .returned (.tuple #[.agg #[.int .i64 Na, .string ya], .int .i64 Aa, .int .i64 0]) ∧ Gr w w')
    (d2 : ∀ w, Calls Try.prog 35 #[.agg #[.int .i64 kb, .int .i64 lb, .int .i64 sb], .string xb] w fun e w' => e = .returned (.tuple #[.agg #[.int .i64 Nb, .string yb], .int .i64 Ab, .int .i64 0]) ∧ Gr w w')
    (hC : ∀ w, Calls Try.prog 9 #[.agg #[.int .i64 op, .int .i64 k, .int .i64 l, .int .i64 sc, .bool half], .agg #[.int .i64 Na, .int .i64 sa], .agg #[.int .i64 Nb, .int .i64 sb]] w fun e w' => e = .returned (.tuple #[.agg #[.int .i64 N, .string ⟨#[]⟩], .int .i64 E]) ∧ Gr w w')
    (h0 : (E != 0) = true)
    (w : World) :
    Calls Try.prog 11 #[.agg #[.int .i64 op, .int .i64 k, .int .i64 l, .int .i64 sc, .bool half], .agg #[.int .i64 ka, .int .i64 la, .int .i64 sa, .string xa], .agg #[.int .i64 kb, .int .i64 lb, .int .i64 sb, .string xb]] w fun e w' => e = .returned (.agg #[.string ⟨#[]⟩, .int .i64 0, .int .i64 E]) ∧ Gr w w' := by
  go_enter Try.func11, Try.ntmps11
  go_upto_region 4 with ((go_at_call 27; (with_reducible refine (hW _).mono ?_); rintro e w1 ⟨rfl, rfl⟩))
  have q : ∀ W, W = ((((w.alloc (.cells #[.int .i64 op, .int .i64 k, .int .i64 l, .int .i64 sc, .bool half] 25)).alloc (.cells #[.int .i64 ka, .int .i64 la, .int .i64 sa, .string xa] 40)).alloc (.cells #[.int .i64 kb, .int .i64 lb, .int .i64 sb, .string xb] 40)).alloc (.cells #[.string ⟨#[]⟩, .int .i64 0, .int .i64 0] 44)).alloc (.cells #[.int .i64 ka, .int .i64 la, .int .i64 sa, .int .i64 kb, .int .i64 lb, .int .i64 sb, .int .i64 k, .int .i64 l, .int .i64 sc] 23) → (W.cell? ⟨w.heap.size, 0, none⟩ = some (.int .i64 op) ∧ W.cell? ⟨w.heap.size, 1, none⟩ = some (.int .i64 k) ∧ W.cell? ⟨w.heap.size, 2, none⟩ = some (.int .i64 l) ∧ W.cell? ⟨w.heap.size, 3, none⟩ = some (.int .i64 sc) ∧ W.cell? ⟨w.heap.size, 4, none⟩ = some (.bool half) ∧ W.cell? ⟨w.heap.size + 1, 0, none⟩ = some (.int .i64 ka) ∧ W.cell? ⟨w.heap.size + 1, 1, none⟩ = some (.int .i64 la) ∧ W.cell? ⟨w.heap.size + 1, 2, none⟩ = some (.int .i64 sa) ∧ W.cell? ⟨w.heap.size + 1, 3, none⟩ = some (.string xa) ∧ W.cell? ⟨w.heap.size + 1 + 1, 0, none⟩ = some (.int .i64 kb) ∧ W.cell? ⟨w.heap.size + 1 + 1, 1, none⟩ = some (.int .i64 lb) ∧ W.cell? ⟨w.heap.size + 1 + 1, 2, none⟩ = some (.int .i64 sb) ∧ W.cell? ⟨w.heap.size + 1 + 1, 3, none⟩ = some (.string xb) ∧ W.cell? ⟨w.heap.size + 1 + 1 + 1, 0, none⟩ = some (.string ⟨#[]⟩) ∧ W.cell? ⟨w.heap.size + 1 + 1 + 1, 1, none⟩ = some (.int .i64 0) ∧ W.cell? ⟨w.heap.size + 1 + 1 + 1, 2, none⟩ = some (.int .i64 0) ∧ W.cell? ⟨w.heap.size + 1 + 1 + 1 + 1, 0, none⟩ = some (.int .i64 ka) ∧ W.cell? ⟨w.heap.size + 1 + 1 + 1 + 1, 1, none⟩ = some (.int .i64 la) ∧ W.cell? ⟨w.heap.size + 1 + 1 + 1 + 1, 2, none⟩ = some (.int .i64 sa) ∧ W.cell? ⟨w.heap.size + 1 + 1 + 1 + 1, 3, none⟩ = some (.int .i64 kb) ∧ W.cell? ⟨w.heap.size + 1 + 1 + 1 + 1, 4, none⟩ = some (.int .i64 lb) ∧ W.cell? ⟨w.heap.size + 1 + 1 + 1 + 1, 5, none⟩ = some (.int .i64 sb) ∧ W.cell? ⟨w.heap.size + 1 + 1 + 1 + 1, 6, none⟩ = some (.int .i64 k) ∧ W.cell? ⟨w.heap.size + 1 + 1 + 1 + 1, 7, none⟩ = some (.int .i64 l) ∧ W.cell? ⟨w.heap.size + 1 + 1 + 1 + 1, 8, none⟩ = some (.int .i64 sc) ∧ W.frozen? ⟨w.heap.size + 1 + 1 + 1, 0, none⟩ = false ∧ W.frozen? ⟨w.heap.size + 1 + 1 + 1, 1, none⟩ = false ∧ W.frozen? ⟨w.heap.size + 1 + 1 + 1, 2, none⟩ = false ∧ Gr w W ∧ w.heap.size + 1 + 1 + 1 < W.heap.size) := by
    rintro W rfl
    refine ⟨?_, ?_, ?_, ?_, ?_, ?_, ?_, ?_, ?_, ?_, ?_, ?_, ?_, ?_, ?_, ?_, ?_, ?_, ?_, ?_, ?_, ?_, ?_, ?_, ?_, ?_, ?_, ?_, (by repeat (first | (with_reducible exact Gr.refl _) | (with_reducible assumption) | (with_reducible refine Gr.alloc ?_ _) | (with_reducible refine Gr.drew ?_) | (with_reducible refine Gr.drewN ?_ _) | (with_reducible refine Gr.setCell ?_ (by simp <;> omega) _) | (with_reducible refine Gr.trans ?_ (by with_reducible assumption)) | exact Gr.refl _ | assumption | refine Gr.alloc ?_ _ | refine Gr.drew ?_ | refine Gr.drewN ?_ _ | refine Gr.setCell ?_ (by simp <;> omega) _ | refine Gr.trans ?_ (by assumption))), ?_⟩ <;> first | (simp [go_sem]; done) | (simp; done) | (simp; omega)
  obtain ⟨r0, r1, r2, r3, r4, a0, a1, a2, a3, b0, b1, b2, b3, z0, z1, z2, s0, s1, s2, s3, s4, s5, s6, s7, s8, f0, f1, f2, hG, hz⟩ := q _ rfl
  have HG := Lib.hid hG
  have ZL := Lib.hid hz
  have Hr0 := Lib.hid r0
  have Hr1 := Lib.hid r1
  have Hr2 := Lib.hid r2
  have Hr3 := Lib.hid r3
  have Hr4 := Lib.hid r4
  have Ha0 := Lib.hid a0
  have Ha1 := Lib.hid a1
  have Ha2 := Lib.hid a2
  have Ha3 := Lib.hid a3
  have Hb0 := Lib.hid b0
  have Hb1 := Lib.hid b1
  have Hb2 := Lib.hid b2
  have Hb3 := Lib.hid b3
  have Hz0 := Lib.hid z0
  have Hz1 := Lib.hid z1
  have Hz2 := Lib.hid z2
  have Hs0 := Lib.hid s0
  have Hs1 := Lib.hid s1
  have Hs2 := Lib.hid s2
  have Hs3 := Lib.hid s3
  have Hs4 := Lib.hid s4
  have Hs5 := Lib.hid s5
  have Hs6 := Lib.hid s6
  have Hs7 := Lib.hid s7
  have Hs8 := Lib.hid s8
  have HF0 := Lib.hid f0
  have HF1 := Lib.hid f1
  have HF2 := Lib.hid f2
  have HWS := Lib.hid (fun (W : World) (h : Gr w W) (x y z : Value) => ((h.setCell (p := ⟨w.heap.size + 1 + 1 + 1, 0, none⟩) (by simp; omega) x).setCell (p := ⟨w.heap.size + 1 + 1 + 1, 1, none⟩) (by simp; omega) y).setCell (p := ⟨w.heap.size + 1 + 1 + 1, 2, none⟩) (by simp; omega) z)
  clear q hG
  generalize ((((w.alloc (.cells #[.int .i64 op, .int .i64 k, .int .i64 l, .int .i64 sc, .bool half] 25)).alloc (.cells #[.int .i64 ka, .int .i64 la, .int .i64 sa, .string xa] 40)).alloc (.cells #[.int .i64 kb, .int .i64 lb, .int .i64 sb, .string xb] 40)).alloc (.cells #[.string ⟨#[]⟩, .int .i64 0, .int .i64 0] 44)).alloc (.cells #[.int .i64 ka, .int .i64 la, .int .i64 sa, .int .i64 kb, .int .i64 lb, .int .i64 sb, .int .i64 k, .int .i64 l, .int .i64 sc] 23) = W0 at *
  generalize w.heap.size = G at *
  have lr := World.block_lt_of_cell? _ _ r0
  have la := World.block_lt_of_cell? _ _ a0
  have lb := World.block_lt_of_cell? _ _ b0
  have lz := World.block_lt_of_cell? _ _ z0
  have ls := World.block_lt_of_cell? _ _ s0
  (try dsimp only at lr la lb lz ls)
  go_wp2
  refine wp_loop_rounds 4 ?_
  rw [rounds_succ]
  go_wp2_with (go_at_call 33; (with_reducible refine (h1 _).mono ?_); rintro e wt0 ⟨rfl, hb⟩; have g := (show Gr W0 wt0 from Gr.trans (by repeat (first | (with_reducible exact Gr.refl _) | (with_reducible assumption) | (with_reducible refine Gr.alloc ?_ _) | (with_reducible refine Gr.drew ?_) | (with_reducible refine Gr.drewN ?_ _) | (with_reducible refine Gr.setCell ?_ (by simp <;> omega) _) | (with_reducible refine Gr.trans ?_ (by with_reducible assumption)) | exact Gr.refl _ | assumption | refine Gr.alloc ?_ _ | refine Gr.drew ?_ | refine Gr.drewN ?_ _ | refine Gr.setCell ?_ (by simp <;> omega) _ | refine Gr.trans ?_ (by assumption))) hb); have r0 := g.keep Hr0.out; have r1 := g.keep Hr1.out; have r2 := g.keep Hr2.out; have r3 := g.keep Hr3.out; have r4 := g.keep Hr4.out; have a0 := g.keep Ha0.out; have a1 := g.keep Ha1.out; have a2 := g.keep Ha2.out; have a3 := g.keep Ha3.out; have b0 := g.keep Hb0.out; have b1 := g.keep Hb1.out; have b2 := g.keep Hb2.out; have b3 := g.keep Hb3.out; have z0 := g.keep Hz0.out; have z1 := g.keep Hz1.out; have z2 := g.keep Hz2.out; have s0 := g.keep Hs0.out; have s1 := g.keep Hs1.out; have s2 := g.keep Hs2.out; have s3 := g.keep Hs3.out; have s4 := g.keep Hs4.out; have s5 := g.keep Hs5.out; have s6 := g.keep Hs6.out; have s7 := g.keep Hs7.out; have s8 := g.keep Hs8.out; have f0 := (g.cells.2 _ _ ZL.out).trans HF0.out; have f1 := (g.cells.2 _ _ ZL.out).trans HF1.out; have f2 := (g.cells.2 _ _ ZL.out).trans HF2.out; have lr := World.block_lt_of_cell? _ _ r0; have la := World.block_lt_of_cell? _ _ a0; have lb := World.block_lt_of_cell? _ _ b0; have lz := World.block_lt_of_cell? _ _ z0; have ls := World.block_lt_of_cell? _ _ s0; (try dsimp only at lr la lb lz ls))
  rw [rounds_succ]
  go_wp2_with (go_at_call 33; (with_reducible refine (h2 _).mono ?_); rintro e wt1 ⟨rfl, hb⟩; have g := (show Gr W0 wt1 from Gr.trans (by repeat (first | (with_reducible exact Gr.refl _) | (with_reducible assumption) | (with_reducible refine Gr.alloc ?_ _) | (with_reducible refine Gr.drew ?_) | (with_reducible refine Gr.drewN ?_ _) | (with_reducible refine Gr.setCell ?_ (by simp <;> omega) _) | (with_reducible refine Gr.trans ?_ (by with_reducible assumption)) | exact Gr.refl _ | assumption | refine Gr.alloc ?_ _ | refine Gr.drew ?_ | refine Gr.drewN ?_ _ | refine Gr.setCell ?_ (by simp <;> omega) _ | refine Gr.trans ?_ (by assumption))) hb); have r0 := g.keep Hr0.out; have r1 := g.keep Hr1.out; have r2 := g.keep Hr2.out; have r3 := g.keep Hr3.out; have r4 := g.keep Hr4.out; have a0 := g.keep Ha0.out; have a1 := g.keep Ha1.out; have a2 := g.keep Ha2.out; have a3 := g.keep Ha3.out; have b0 := g.keep Hb0.out; have b1 := g.keep Hb1.out; have b2 := g.keep Hb2.out; have b3 := g.keep Hb3.out; have z0 := g.keep Hz0.out; have z1 := g.keep Hz1.out; have z2 := g.keep Hz2.out; have s0 := g.keep Hs0.out; have s1 := g.keep Hs1.out; have s2 := g.keep Hs2.out; have s3 := g.keep Hs3.out; have s4 := g.keep Hs4.out; have s5 := g.keep Hs5.out; have s6 := g.keep Hs6.out; have s7 := g.keep Hs7.out; have s8 := g.keep Hs8.out; have f0 := (g.cells.2 _ _ ZL.out).trans HF0.out; have f1 := (g.cells.2 _ _ ZL.out).trans HF1.out; have f2 := (g.cells.2 _ _ ZL.out).trans HF2.out; have lr := World.block_lt_of_cell? _ _ r0; have la := World.block_lt_of_cell? _ _ a0; have lb := World.block_lt_of_cell? _ _ b0; have lz := World.block_lt_of_cell? _ _ z0; have ls := World.block_lt_of_cell? _ _ s0; (try dsimp only at lr la lb lz ls))
  rw [rounds_succ]
  go_wp2_with (go_at_call 33; (with_reducible refine (h3 _).mono ?_); rintro e wt2 ⟨rfl, hb⟩; have g := (show Gr W0 wt2 from Gr.trans (by repeat (first | (with_reducible exact Gr.refl _) | (with_reducible assumption) | (with_reducible refine Gr.alloc ?_ _) | (with_reducible refine Gr.drew ?_) | (with_reducible refine Gr.drewN ?_ _) | (with_reducible refine Gr.setCell ?_ (by simp <;> omega) _) | (with_reducible refine Gr.trans ?_ (by with_reducible assumption)) | exact Gr.refl _ | assumption | refine Gr.alloc ?_ _ | refine Gr.drew ?_ | refine Gr.drewN ?_ _ | refine Gr.setCell ?_ (by simp <;> omega) _ | refine Gr.trans ?_ (by assumption))) hb); have r0 := g.keep Hr0.out; have r1 := g.keep Hr1.out; have r2 := g.keep Hr2.out; have r3 := g.keep Hr3.out; have r4 := g.keep Hr4.out; have a0 := g.keep Ha0.out; have a1 := g.keep Ha1.out; have a2 := g.keep Ha2.out; have a3 := g.keep Ha3.out; have b0 := g.keep Hb0.out; have b1 := g.keep Hb1.out; have b2 := g.keep Hb2.out; have b3 := g.keep Hb3.out; have z0 := g.keep Hz0.out; have z1 := g.keep Hz1.out; have z2 := g.keep Hz2.out; have s0 := g.keep Hs0.out; have s1 := g.keep Hs1.out; have s2 := g.keep Hs2.out; have s3 := g.keep Hs3.out; have s4 := g.keep Hs4.out; have s5 := g.keep Hs5.out; have s6 := g.keep Hs6.out; have s7 := g.keep Hs7.out; have s8 := g.keep Hs8.out; have f0 := (g.cells.2 _ _ ZL.out).trans HF0.out; have f1 := (g.cells.2 _ _ ZL.out).trans HF1.out; have f2 := (g.cells.2 _ _ ZL.out).trans HF2.out; have lr := World.block_lt_of_cell? _ _ r0; have la := World.block_lt_of_cell? _ _ a0; have lb := World.block_lt_of_cell? _ _ b0; have lz := World.block_lt_of_cell? _ _ z0; have ls := World.block_lt_of_cell? _ _ s0; (try dsimp only at lr la lb lz ls))
  rw [rounds_succ]
  go_wp2
  refine wp_loop_rounds 4 ?_
  rw [rounds_succ]
  go_wp2_with (go_at_call 34; (with_reducible refine (n1 _).mono ?_); rintro e w1 ⟨rfl, rfl⟩)
  rw [rounds_succ]
  go_wp2_with (go_at_call 34; (with_reducible refine (n2 _).mono ?_); rintro e w1 ⟨rfl, rfl⟩)
  rw [rounds_succ]
  go_wp2_with (go_at_call 34; (with_reducible refine (n3 _).mono ?_); rintro e w1 ⟨rfl, rfl⟩)
  rw [rounds_succ]
  go_wp2_with (first | (go_at_call 35; (with_reducible refine (d1 _).mono ?_); rintro e wd1 ⟨rfl, hb⟩; have g := (show Gr W0 wd1 from Gr.trans (by repeat (first | (with_reducible exact Gr.refl _) | (with_reducible assumption) | (with_reducible refine Gr.alloc ?_ _) | (with_reducible refine Gr.drew ?_) | (with_reducible refine Gr.drewN ?_ _) | (with_reducible refine Gr.setCell ?_ (by simp <;> omega) _) | (with_reducible refine Gr.trans ?_ (by with_reducible assumption)) | exact Gr.refl _ | assumption | refine Gr.alloc ?_ _ | refine Gr.drew ?_ | refine Gr.drewN ?_ _ | refine Gr.setCell ?_ (by simp <;> omega) _ | refine Gr.trans ?_ (by assumption))) hb); have r0 := g.keep Hr0.out; have r1 := g.keep Hr1.out; have r2 := g.keep Hr2.out; have r3 := g.keep Hr3.out; have r4 := g.keep Hr4.out; have a0 := g.keep Ha0.out; have a1 := g.keep Ha1.out; have a2 := g.keep Ha2.out; have a3 := g.keep Ha3.out; have b0 := g.keep Hb0.out; have b1 := g.keep Hb1.out; have b2 := g.keep Hb2.out; have b3 := g.keep Hb3.out; have z0 := g.keep Hz0.out; have z1 := g.keep Hz1.out; have z2 := g.keep Hz2.out; have s0 := g.keep Hs0.out; have s1 := g.keep Hs1.out; have s2 := g.keep Hs2.out; have s3 := g.keep Hs3.out; have s4 := g.keep Hs4.out; have s5 := g.keep Hs5.out; have s6 := g.keep Hs6.out; have s7 := g.keep Hs7.out; have s8 := g.keep Hs8.out; have f0 := (g.cells.2 _ _ ZL.out).trans HF0.out; have f1 := (g.cells.2 _ _ ZL.out).trans HF1.out; have f2 := (g.cells.2 _ _ ZL.out).trans HF2.out; have lr := World.block_lt_of_cell? _ _ r0; have la := World.block_lt_of_cell? _ _ a0; have lb := World.block_lt_of_cell? _ _ b0; have lz := World.block_lt_of_cell? _ _ z0; have ls := World.block_lt_of_cell? _ _ s0; (try dsimp only at lr la lb lz ls)) | (go_at_call 35; (with_reducible refine (d2 _).mono ?_); rintro e wd2 ⟨rfl, hb⟩; have g := (show Gr W0 wd2 from Gr.trans (by repeat (first | (with_reducible exact Gr.refl _) | (with_reducible assumption) | (with_reducible refine Gr.alloc ?_ _) | (with_reducible refine Gr.drew ?_) | (with_reducible refine Gr.drewN ?_ _) | (with_reducible refine Gr.setCell ?_ (by simp <;> omega) _) | (with_reducible refine Gr.trans ?_ (by with_reducible assumption)) | exact Gr.refl _ | assumption | refine Gr.alloc ?_ _ | refine Gr.drew ?_ | refine Gr.drewN ?_ _ | refine Gr.setCell ?_ (by simp <;> omega) _ | refine Gr.trans ?_ (by assumption))) hb); have r0 := g.keep Hr0.out; have r1 := g.keep Hr1.out; have r2 := g.keep Hr2.out; have r3 := g.keep Hr3.out; have r4 := g.keep Hr4.out; have a0 := g.keep Ha0.out; have a1 := g.keep Ha1.out; have a2 := g.keep Ha2.out; have a3 := g.keep Ha3.out; have b0 := g.keep Hb0.out; have b1 := g.keep Hb1.out; have b2 := g.keep Hb2.out; have b3 := g.keep Hb3.out; have z0 := g.keep Hz0.out; have z1 := g.keep Hz1.out; have z2 := g.keep Hz2.out; have s0 := g.keep Hs0.out; have s1 := g.keep Hs1.out; have s2 := g.keep Hs2.out; have s3 := g.keep Hs3.out; have s4 := g.keep Hs4.out; have s5 := g.keep Hs5.out; have s6 := g.keep Hs6.out; have s7 := g.keep Hs7.out; have s8 := g.keep Hs8.out; have f0 := (g.cells.2 _ _ ZL.out).trans HF0.out; have f1 := (g.cells.2 _ _ ZL.out).trans HF1.out; have f2 := (g.cells.2 _ _ ZL.out).trans HF2.out; have lr := World.block_lt_of_cell? _ _ r0; have la := World.block_lt_of_cell? _ _ a0; have lb := World.block_lt_of_cell? _ _ b0; have lz := World.block_lt_of_cell? _ _ z0; have ls := World.block_lt_of_cell? _ _ s0; (try dsimp only at lr la lb lz ls); have u0 := hb.keep (p := ⟨wd1.heap.size, 0, none⟩) (v := .int .i64 Na) (by simp [go_sem]); have lu := World.block_lt_of_cell? _ _ u0; (try dsimp only at lu)) | (go_at_call 9; (with_reducible refine (hC _).mono ?_); rintro e wc1 ⟨rfl, hb⟩; have g := (show Gr W0 wc1 from Gr.trans (by repeat (first | (with_reducible exact Gr.refl _) | (with_reducible assumption) | (with_reducible refine Gr.alloc ?_ _) | (with_reducible refine Gr.drew ?_) | (with_reducible refine Gr.drewN ?_ _) | (with_reducible refine Gr.setCell ?_ (by simp <;> omega) _) | (with_reducible refine Gr.trans ?_ (by with_reducible assumption)) | exact Gr.refl _ | assumption | refine Gr.alloc ?_ _ | refine Gr.drew ?_ | refine Gr.drewN ?_ _ | refine Gr.setCell ?_ (by simp <;> omega) _ | refine Gr.trans ?_ (by assumption))) hb); have r0 := g.keep Hr0.out; have r1 := g.keep Hr1.out; have r2 := g.keep Hr2.out; have r3 := g.keep Hr3.out; have r4 := g.keep Hr4.out; have a0 := g.keep Ha0.out; have a1 := g.keep Ha1.out; have a2 := g.keep Ha2.out; have a3 := g.keep Ha3.out; have b0 := g.keep Hb0.out; have b1 := g.keep Hb1.out; have b2 := g.keep Hb2.out; have b3 := g.keep Hb3.out; have z0 := g.keep Hz0.out; have z1 := g.keep Hz1.out; have z2 := g.keep Hz2.out; have s0 := g.keep Hs0.out; have s1 := g.keep Hs1.out; have s2 := g.keep Hs2.out; have s3 := g.keep Hs3.out; have s4 := g.keep Hs4.out; have s5 := g.keep Hs5.out; have s6 := g.keep Hs6.out; have s7 := g.keep Hs7.out; have s8 := g.keep Hs8.out; have f0 := (g.cells.2 _ _ ZL.out).trans HF0.out; have f1 := (g.cells.2 _ _ ZL.out).trans HF1.out; have f2 := (g.cells.2 _ _ ZL.out).trans HF2.out; have lr := World.block_lt_of_cell? _ _ r0; have la := World.block_lt_of_cell? _ _ a0; have lb := World.block_lt_of_cell? _ _ b0; have lz := World.block_lt_of_cell? _ _ z0; have ls := World.block_lt_of_cell? _ _ s0; (try dsimp only at lr la lb lz ls)))
  exact bodyPost_ret (v := .agg #[.string ⟨#[]⟩, .int .i64 0, .int .i64 E]) (by simp [results, Try.results11, go_sem, *]) rfl ⟨rfl, (HWS.out _ (HG.out.trans (by repeat (first | (with_reducible exact Gr.refl _) | (with_reducible assumption) | (with_reducible refine Gr.alloc ?_ _) | (with_reducible refine Gr.drew ?_) | (with_reducible refine Gr.drewN ?_ _) | (with_reducible refine Gr.setCell ?_ (by simp <;> omega) _) | (with_reducible refine Gr.trans ?_ (by with_reducible assumption)) | exact Gr.refl _ | assumption | refine Gr.alloc ?_ _ | refine Gr.drew ?_ | refine Gr.drewN ?_ _ | refine Gr.setCell ?_ (by simp <;> omega) _ | refine Gr.trans ?_ (by assumption)))) _ _ _).alloc _⟩
set_option maxHeartbeats 8000000 in
set_option maxRecDepth 100000 in
theorem refCB_10 (op k l sc ka la sa kb lb sb Na Aa Nb Ab N : Int) (half : Bool) (xa xb : ByteArray) (ya yb S : ByteArray)
    (hW : ∀ w, Calls Try.prog 27 #[.int .i64 op, .int .i64 0, .int .i64 4] w fun e w' => e = .returned (.bool true) ∧ w = w')
    (h1 : ∀ w, Calls Try.prog 33 #[.agg #[.int .i64 ka, .int .i64 la, .int .i64 sa]] w fun e w' => e = .returned (.int .i64 0) ∧ Gr w w')
    (h2 : ∀ w, Calls Try.prog 33 #[.agg #[.int .i64 kb, .int .i64 lb, .int .i64 sb]] w fun e w' => e = .returned (.int .i64 0) ∧ Gr w w')
    (h3 : ∀ w, Calls Try.prog 33 #[.agg #[.int .i64 k, .int .i64 l, .int .i64 sc]] w fun e w' => e = .returned (.int .i64 0) ∧ Gr w w')
    (n1 : ∀ w, Calls Try.prog 34 #[.int .i64 ka] w fun e w' => e = .returned (.bool true) ∧ w = w')
    (n2 : ∀ w, Calls Try.prog 34 #[.int .i64 kb] w fun e w' => e = .returned (.bool true) ∧ w = w')
    (n3 : ∀ w, Calls Try.prog 34 #[.int .i64 k] w fun e w' => e = .returned (.bool true) ∧ w = w')
    (d1 : ∀ w, Calls Try.prog 35 #[.agg #[.int .i64 ka, .int .i64 la, .int .i64 sa], .string xa] w fun e w' => e = .returned (.tuple #[.agg #[.int .i64 Na, .string ya], .int .i64 Aa, .int .i64 0]) ∧ Gr w w')
    (d2 : ∀ w, Calls Try.prog 35 #[.agg #[.int .i64 kb, .int .i64 lb, .int .i64 sb], .string xb] w fun e w' => e = .returned (.tuple #[.agg #[.int .i64 Nb, .string yb], .int .i64 Ab, .int .i64 0]) ∧ Gr w w')
    (hC : ∀ w, Calls Try.prog 9 #[.agg #[.int .i64 op, .int .i64 k, .int .i64 l, .int .i64 sc, .bool half], .agg #[.int .i64 Na, .int .i64 sa], .agg #[.int .i64 Nb, .int .i64 sb]] w fun e w' => e = .returned (.tuple #[.agg #[.int .i64 N, .string ⟨#[]⟩], .int .i64 0]) ∧ Gr w w')
    (hB : ∀ w, Calls Try.prog 36 #[.agg #[.int .i64 k, .int .i64 l, .int .i64 sc], .agg #[.int .i64 N, .string ⟨#[]⟩]] w fun e w' => e = .returned (.string S) ∧ Gr w w')
    (w : World) :
    Calls Try.prog 11 #[.agg #[.int .i64 op, .int .i64 k, .int .i64 l, .int .i64 sc, .bool half], .agg #[.int .i64 ka, .int .i64 la, .int .i64 sa, .string xa], .agg #[.int .i64 kb, .int .i64 lb, .int .i64 sb, .string xb]] w fun e w' => e = .returned (.agg #[.string S, .int .i64 0, .int .i64 0]) ∧ Gr w w' := by
  go_enter Try.func11, Try.ntmps11
  go_upto_region 4 with ((go_at_call 27; (with_reducible refine (hW _).mono ?_); rintro e w1 ⟨rfl, rfl⟩))
  have q : ∀ W, W = ((((w.alloc (.cells #[.int .i64 op, .int .i64 k, .int .i64 l, .int .i64 sc, .bool half] 25)).alloc (.cells #[.int .i64 ka, .int .i64 la, .int .i64 sa, .string xa] 40)).alloc (.cells #[.int .i64 kb, .int .i64 lb, .int .i64 sb, .string xb] 40)).alloc (.cells #[.string ⟨#[]⟩, .int .i64 0, .int .i64 0] 44)).alloc (.cells #[.int .i64 ka, .int .i64 la, .int .i64 sa, .int .i64 kb, .int .i64 lb, .int .i64 sb, .int .i64 k, .int .i64 l, .int .i64 sc] 23) → (W.cell? ⟨w.heap.size, 0, none⟩ = some (.int .i64 op) ∧ W.cell? ⟨w.heap.size, 1, none⟩ = some (.int .i64 k) ∧ W.cell? ⟨w.heap.size, 2, none⟩ = some (.int .i64 l) ∧ W.cell? ⟨w.heap.size, 3, none⟩ = some (.int .i64 sc) ∧ W.cell? ⟨w.heap.size, 4, none⟩ = some (.bool half) ∧ W.cell? ⟨w.heap.size + 1, 0, none⟩ = some (.int .i64 ka) ∧ W.cell? ⟨w.heap.size + 1, 1, none⟩ = some (.int .i64 la) ∧ W.cell? ⟨w.heap.size + 1, 2, none⟩ = some (.int .i64 sa) ∧ W.cell? ⟨w.heap.size + 1, 3, none⟩ = some (.string xa) ∧ W.cell? ⟨w.heap.size + 1 + 1, 0, none⟩ = some (.int .i64 kb) ∧ W.cell? ⟨w.heap.size + 1 + 1, 1, none⟩ = some (.int .i64 lb) ∧ W.cell? ⟨w.heap.size + 1 + 1, 2, none⟩ = some (.int .i64 sb) ∧ W.cell? ⟨w.heap.size + 1 + 1, 3, none⟩ = some (.string xb) ∧ W.cell? ⟨w.heap.size + 1 + 1 + 1, 0, none⟩ = some (.string ⟨#[]⟩) ∧ W.cell? ⟨w.heap.size + 1 + 1 + 1, 1, none⟩ = some (.int .i64 0) ∧ W.cell? ⟨w.heap.size + 1 + 1 + 1, 2, none⟩ = some (.int .i64 0) ∧ W.cell? ⟨w.heap.size + 1 + 1 + 1 + 1, 0, none⟩ = some (.int .i64 ka) ∧ W.cell? ⟨w.heap.size + 1 + 1 + 1 + 1, 1, none⟩ = some (.int .i64 la) ∧ W.cell? ⟨w.heap.size + 1 + 1 + 1 + 1, 2, none⟩ = some (.int .i64 sa) ∧ W.cell? ⟨w.heap.size + 1 + 1 + 1 + 1, 3, none⟩ = some (.int .i64 kb) ∧ W.cell? ⟨w.heap.size + 1 + 1 + 1 + 1, 4, none⟩ = some (.int .i64 lb) ∧ W.cell? ⟨w.heap.size + 1 + 1 + 1 + 1, 5, none⟩ = some (.int .i64 sb) ∧ W.cell? ⟨w.heap.size + 1 + 1 + 1 + 1, 6, none⟩ = some (.int .i64 k) ∧ W.cell? ⟨w.heap.size + 1 + 1 + 1 + 1, 7, none⟩ = some (.int .i64 l) ∧ W.cell? ⟨w.heap.size + 1 + 1 + 1 + 1, 8, none⟩ = some (.int .i64 sc) ∧ W.frozen? ⟨w.heap.size + 1 + 1 + 1, 0, none⟩ = false ∧ W.frozen? ⟨w.heap.size + 1 + 1 + 1, 1, none⟩ = false ∧ W.frozen? ⟨w.heap.size + 1 + 1 + 1, 2, none⟩ = false ∧ Gr w W ∧ w.heap.size + 1 + 1 + 1 < W.heap.size) := by
    rintro W rfl
    refine ⟨?_, ?_, ?_, ?_, ?_, ?_, ?_, ?_, ?_, ?_, ?_, ?_, ?_, ?_, ?_, ?_, ?_, ?_, ?_, ?_, ?_, ?_, ?_, ?_, ?_, ?_, ?_, ?_, (by repeat (first | (with_reducible exact Gr.refl _) | (with_reducible assumption) | (with_reducible refine Gr.alloc ?_ _) | (with_reducible refine Gr.drew ?_) | (with_reducible refine Gr.drewN ?_ _) | (with_reducible refine Gr.setCell ?_ (by simp <;> omega) _) | (with_reducible refine Gr.trans ?_ (by with_reducible assumption)) | exact Gr.refl _ | assumption | refine Gr.alloc ?_ _ | refine Gr.drew ?_ | refine Gr.drewN ?_ _ | refine Gr.setCell ?_ (by simp <;> omega) _ | refine Gr.trans ?_ (by assumption))), ?_⟩ <;> first | (simp [go_sem]; done) | (simp; done) | (simp; omega)
  obtain ⟨r0, r1, r2, r3, r4, a0, a1, a2, a3, b0, b1, b2, b3, z0, z1, z2, s0, s1, s2, s3, s4, s5, s6, s7, s8, f0, f1, f2, hG, hz⟩ := q _ rfl
  have HG := Lib.hid hG
  have ZL := Lib.hid hz
  have Hr0 := Lib.hid r0
  have Hr1 := Lib.hid r1
  have Hr2 := Lib.hid r2
  have Hr3 := Lib.hid r3
  have Hr4 := Lib.hid r4
  have Ha0 := Lib.hid a0
  have Ha1 := Lib.hid a1
  have Ha2 := Lib.hid a2
  have Ha3 := Lib.hid a3
  have Hb0 := Lib.hid b0
  have Hb1 := Lib.hid b1
  have Hb2 := Lib.hid b2
  have Hb3 := Lib.hid b3
  have Hz0 := Lib.hid z0
  have Hz1 := Lib.hid z1
  have Hz2 := Lib.hid z2
  have Hs0 := Lib.hid s0
  have Hs1 := Lib.hid s1
  have Hs2 := Lib.hid s2
  have Hs3 := Lib.hid s3
  have Hs4 := Lib.hid s4
  have Hs5 := Lib.hid s5
  have Hs6 := Lib.hid s6
  have Hs7 := Lib.hid s7
  have Hs8 := Lib.hid s8
  have HF0 := Lib.hid f0
  have HF1 := Lib.hid f1
  have HF2 := Lib.hid f2
  have HWS := Lib.hid (fun (W : World) (h : Gr w W) (x y z : Value) => ((h.setCell (p := ⟨w.heap.size + 1 + 1 + 1, 0, none⟩) (by simp; omega) x).setCell (p := ⟨w.heap.size + 1 + 1 + 1, 1, none⟩) (by simp; omega) y).setCell (p := ⟨w.heap.size + 1 + 1 + 1, 2, none⟩) (by simp; omega) z)
  clear q hG
  generalize ((((w.alloc (.cells #[.int .i64 op, .int .i64 k, .int .i64 l, .int .i64 sc, .bool half] 25)).alloc (.cells #[.int .i64 ka, .int .i64 la, .int .i64 sa, .string xa] 40)).alloc (.cells #[.int .i64 kb, .int .i64 lb, .int .i64 sb, .string xb] 40)).alloc (.cells #[.string ⟨#[]⟩, .int .i64 0, .int .i64 0] 44)).alloc (.cells #[.int .i64 ka, .int .i64 la, .int .i64 sa, .int .i64 kb, .int .i64 lb, .int .i64 sb, .int .i64 k, .int .i64 l, .int .i64 sc] 23) = W0 at *
  generalize w.heap.size = G at *
  have lr := World.block_lt_of_cell? _ _ r0
  have la := World.block_lt_of_cell? _ _ a0
  have lb := World.block_lt_of_cell? _ _ b0
  have lz := World.block_lt_of_cell? _ _ z0
  have ls := World.block_lt_of_cell? _ _ s0
  (try dsimp only at lr la lb lz ls)
  go_wp2
  refine wp_loop_rounds 4 ?_
  rw [rounds_succ]
  go_wp2_with (go_at_call 33; (with_reducible refine (h1 _).mono ?_); rintro e wt0 ⟨rfl, hb⟩; have g := (show Gr W0 wt0 from Gr.trans (by repeat (first | (with_reducible exact Gr.refl _) | (with_reducible assumption) | (with_reducible refine Gr.alloc ?_ _) | (with_reducible refine Gr.drew ?_) | (with_reducible refine Gr.drewN ?_ _) | (with_reducible refine Gr.setCell ?_ (by simp <;> omega) _) | (with_reducible refine Gr.trans ?_ (by with_reducible assumption)) | exact Gr.refl _ | assumption | refine Gr.alloc ?_ _ | refine Gr.drew ?_ | refine Gr.drewN ?_ _ | refine Gr.setCell ?_ (by simp <;> omega) _ | refine Gr.trans ?_ (by assumption))) hb); have r0 := g.keep Hr0.out; have r1 := g.keep Hr1.out; have r2 := g.keep Hr2.out; have r3 := g.keep Hr3.out; have r4 := g.keep Hr4.out; have a0 := g.keep Ha0.out; have a1 := g.keep Ha1.out; have a2 := g.keep Ha2.out; have a3 := g.keep Ha3.out; have b0 := g.keep Hb0.out; have b1 := g.keep Hb1.out; have b2 := g.keep Hb2.out; have b3 := g.keep Hb3.out; have z0 := g.keep Hz0.out; have z1 := g.keep Hz1.out; have z2 := g.keep Hz2.out; have s0 := g.keep Hs0.out; have s1 := g.keep Hs1.out; have s2 := g.keep Hs2.out; have s3 := g.keep Hs3.out; have s4 := g.keep Hs4.out; have s5 := g.keep Hs5.out; have s6 := g.keep Hs6.out; have s7 := g.keep Hs7.out; have s8 := g.keep Hs8.out; have f0 := (g.cells.2 _ _ ZL.out).trans HF0.out; have f1 := (g.cells.2 _ _ ZL.out).trans HF1.out; have f2 := (g.cells.2 _ _ ZL.out).trans HF2.out; have lr := World.block_lt_of_cell? _ _ r0; have la := World.block_lt_of_cell? _ _ a0; have lb := World.block_lt_of_cell? _ _ b0; have lz := World.block_lt_of_cell? _ _ z0; have ls := World.block_lt_of_cell? _ _ s0; (try dsimp only at lr la lb lz ls))
  rw [rounds_succ]
  go_wp2_with (go_at_call 33; (with_reducible refine (h2 _).mono ?_); rintro e wt1 ⟨rfl, hb⟩; have g := (show Gr W0 wt1 from Gr.trans (by repeat (first | (with_reducible exact Gr.refl _) | (with_reducible assumption) | (with_reducible refine Gr.alloc ?_ _) | (with_reducible refine Gr.drew ?_) | (with_reducible refine Gr.drewN ?_ _) | (with_reducible refine Gr.setCell ?_ (by simp <;> omega) _) | (with_reducible refine Gr.trans ?_ (by with_reducible assumption)) | exact Gr.refl _ | assumption | refine Gr.alloc ?_ _ | refine Gr.drew ?_ | refine Gr.drewN ?_ _ | refine Gr.setCell ?_ (by simp <;> omega) _ | refine Gr.trans ?_ (by assumption))) hb); have r0 := g.keep Hr0.out; have r1 := g.keep Hr1.out; have r2 := g.keep Hr2.out; have r3 := g.keep Hr3.out; have r4 := g.keep Hr4.out; have a0 := g.keep Ha0.out; have a1 := g.keep Ha1.out; have a2 := g.keep Ha2.out; have a3 := g.keep Ha3.out; have b0 := g.keep Hb0.out; have b1 := g.keep Hb1.out; have b2 := g.keep Hb2.out; have b3 := g.keep Hb3.out; have z0 := g.keep Hz0.out; have z1 := g.keep Hz1.out; have z2 := g.keep Hz2.out; have s0 := g.keep Hs0.out; have s1 := g.keep Hs1.out; have s2 := g.keep Hs2.out; have s3 := g.keep Hs3.out; have s4 := g.keep Hs4.out; have s5 := g.keep Hs5.out; have s6 := g.keep Hs6.out; have s7 := g.keep Hs7.out; have s8 := g.keep Hs8.out; have f0 := (g.cells.2 _ _ ZL.out).trans HF0.out; have f1 := (g.cells.2 _ _ ZL.out).trans HF1.out; have f2 := (g.cells.2 _ _ ZL.out).trans HF2.out; have lr := World.block_lt_of_cell? _ _ r0; have la := World.block_lt_of_cell? _ _ a0; have lb := World.block_lt_of_cell? _ _ b0; have lz := World.block_lt_of_cell? _ _ z0; have ls := World.block_lt_of_cell? _ _ s0; (try dsimp only at lr la lb lz ls))
  rw [rounds_succ]
  go_wp2_with (go_at_call 33; (with_reducible refine (h3 _).mono ?_); rintro e wt2 ⟨rfl, hb⟩; have g := (show Gr W0 wt2 from Gr.trans (by repeat (first | (with_reducible exact Gr.refl _) | (with_reducible assumption) | (with_reducible refine Gr.alloc ?_ _) | (with_reducible refine Gr.drew ?_) | (with_reducible refine Gr.drewN ?_ _) | (with_reducible refine Gr.setCell ?_ (by simp <;> omega) _) | (with_reducible refine Gr.trans ?_ (by with_reducible assumption)) | exact Gr.refl _ | assumption | refine Gr.alloc ?_ _ | refine Gr.drew ?_ | refine Gr.drewN ?_ _ | refine Gr.setCell ?_ (by simp <;> omega) _ | refine Gr.trans ?_ (by assumption))) hb); have r0 := g.keep Hr0.out; have r1 := g.keep Hr1.out; have r2 := g.keep Hr2.out; have r3 := g.keep Hr3.out; have r4 := g.keep Hr4.out; have a0 := g.keep Ha0.out; have a1 := g.keep Ha1.out; have a2 := g.keep Ha2.out; have a3 := g.keep Ha3.out; have b0 := g.keep Hb0.out; have b1 := g.keep Hb1.out; have b2 := g.keep Hb2.out; have b3 := g.keep Hb3.out; have z0 := g.keep Hz0.out; have z1 := g.keep Hz1.out; have z2 := g.keep Hz2.out; have s0 := g.keep Hs0.out; have s1 := g.keep Hs1.out; have s2 := g.keep Hs2.out; have s3 := g.keep Hs3.out; have s4 := g.keep Hs4.out; have s5 := g.keep Hs5.out; have s6 := g.keep Hs6.out; have s7 := g.keep Hs7.out; have s8 := g.keep Hs8.out; have f0 := (g.cells.2 _ _ ZL.out).trans HF0.out; have f1 := (g.cells.2 _ _ ZL.out).trans HF1.out; have f2 := (g.cells.2 _ _ ZL.out).trans HF2.out; have lr := World.block_lt_of_cell? _ _ r0; have la := World.block_lt_of_cell? _ _ a0; have lb := World.block_lt_of_cell? _ _ b0; have lz := World.block_lt_of_cell? _ _ z0; have ls := World.block_lt_of_cell? _ _ s0; (try dsimp only at lr la lb lz ls))
  rw [rounds_succ]
  go_wp2
  refine wp_loop_rounds 4 ?_
  rw [rounds_succ]
  go_wp2_with (go_at_call 34; (with_reducible refine (n1 _).mono ?_); rintro e w1 ⟨rfl, rfl⟩)
  rw [rounds_succ]
  go_wp2_with (go_at_call 34; (with_reducible refine (n2 _).mono ?_); rintro e w1 ⟨rfl, rfl⟩)
  rw [rounds_succ]
  go_wp2_with (go_at_call 34; (with_reducible refine (n3 _).mono ?_); rintro e w1 ⟨rfl, rfl⟩)
  rw [rounds_succ]
  go_wp2_with (first | (go_at_call 35; (with_reducible refine (d1 _).mono ?_); rintro e wd1 ⟨rfl, hb⟩; have g := (show Gr W0 wd1 from Gr.trans (by repeat (first | (with_reducible exact Gr.refl _) | (with_reducible assumption) | (with_reducible refine Gr.alloc ?_ _) | (with_reducible refine Gr.drew ?_) | (with_reducible refine Gr.drewN ?_ _) | (with_reducible refine Gr.setCell ?_ (by simp <;> omega) _) | (with_reducible refine Gr.trans ?_ (by with_reducible assumption)) | exact Gr.refl _ | assumption | refine Gr.alloc ?_ _ | refine Gr.drew ?_ | refine Gr.drewN ?_ _ | refine Gr.setCell ?_ (by simp <;> omega) _ | refine Gr.trans ?_ (by assumption))) hb); have r0 := g.keep Hr0.out; have r1 := g.keep Hr1.out; have r2 := g.keep Hr2.out; have r3 := g.keep Hr3.out; have r4 := g.keep Hr4.out; have a0 := g.keep Ha0.out; have a1 := g.keep Ha1.out; have a2 := g.keep Ha2.out; have a3 := g.keep Ha3.out; have b0 := g.keep Hb0.out; have b1 := g.keep Hb1.out; have b2 := g.keep Hb2.out; have b3 := g.keep Hb3.out; have z0 := g.keep Hz0.out; have z1 := g.keep Hz1.out; have z2 := g.keep Hz2.out; have s0 := g.keep Hs0.out; have s1 := g.keep Hs1.out; have s2 := g.keep Hs2.out; have s3 := g.keep Hs3.out; have s4 := g.keep Hs4.out; have s5 := g.keep Hs5.out; have s6 := g.keep Hs6.out; have s7 := g.keep Hs7.out; have s8 := g.keep Hs8.out; have f0 := (g.cells.2 _ _ ZL.out).trans HF0.out; have f1 := (g.cells.2 _ _ ZL.out).trans HF1.out; have f2 := (g.cells.2 _ _ ZL.out).trans HF2.out; have lr := World.block_lt_of_cell? _ _ r0; have la := World.block_lt_of_cell? _ _ a0; have lb := World.block_lt_of_cell? _ _ b0; have lz := World.block_lt_of_cell? _ _ z0; have ls := World.block_lt_of_cell? _ _ s0; (try dsimp only at lr la lb lz ls)) | (go_at_call 35; (with_reducible refine (d2 _).mono ?_); rintro e wd2 ⟨rfl, hb⟩; have g := (show Gr W0 wd2 from Gr.trans (by repeat (first | (with_reducible exact Gr.refl _) | (with_reducible assumption) | (with_reducible refine Gr.alloc ?_ _) | (with_reducible refine Gr.drew ?_) | (with_reducible refine Gr.drewN ?_ _) | (with_reducible refine Gr.setCell ?_ (by simp <;> omega) _) | (with_reducible refine Gr.trans ?_ (by with_reducible assumption)) | exact Gr.refl _ | assumption | refine Gr.alloc ?_ _ | refine Gr.drew ?_ | refine Gr.drewN ?_ _ | refine Gr.setCell ?_ (by simp <;> omega) _ | refine Gr.trans ?_ (by assumption))) hb); have r0 := g.keep Hr0.out; have r1 := g.keep Hr1.out; have r2 := g.keep Hr2.out; have r3 := g.keep Hr3.out; have r4 := g.keep Hr4.out; have a0 := g.keep Ha0.out; have a1 := g.keep Ha1.out; have a2 := g.keep Ha2.out; have a3 := g.keep Ha3.out; have b0 := g.keep Hb0.out; have b1 := g.keep Hb1.out; have b2 := g.keep Hb2.out; have b3 := g.keep Hb3.out; have z0 := g.keep Hz0.out; have z1 := g.keep Hz1.out; have z2 := g.keep Hz2.out; have s0 := g.keep Hs0.out; have s1 := g.keep Hs1.out; have s2 := g.keep Hs2.out; have s3 := g.keep Hs3.out; have s4 := g.keep Hs4.out; have s5 := g.keep Hs5.out; have s6 := g.keep Hs6.out; have s7 := g.keep Hs7.out; have s8 := g.keep Hs8.out; have f0 := (g.cells.2 _ _ ZL.out).trans HF0.out; have f1 := (g.cells.2 _ _ ZL.out).trans HF1.out; have f2 := (g.cells.2 _ _ ZL.out).trans HF2.out; have lr := World.block_lt_of_cell? _ _ r0; have la := World.block_lt_of_cell? _ _ a0; have lb := World.block_lt_of_cell? _ _ b0; have lz := World.block_lt_of_cell? _ _ z0; have ls := World.block_lt_of_cell? _ _ s0; (try dsimp only at lr la lb lz ls); have u0 := hb.keep (p := ⟨wd1.heap.size, 0, none⟩) (v := .int .i64 Na) (by simp [go_sem]); have lu := World.block_lt_of_cell? _ _ u0; (try dsimp only at lu)) | (go_at_call 9; (with_reducible refine (hC _).mono ?_); rintro e wc1 ⟨rfl, hb⟩; have g := (show Gr W0 wc1 from Gr.trans (by repeat (first | (with_reducible exact Gr.refl _) | (with_reducible assumption) | (with_reducible refine Gr.alloc ?_ _) | (with_reducible refine Gr.drew ?_) | (with_reducible refine Gr.drewN ?_ _) | (with_reducible refine Gr.setCell ?_ (by simp <;> omega) _) | (with_reducible refine Gr.trans ?_ (by with_reducible assumption)) | exact Gr.refl _ | assumption | refine Gr.alloc ?_ _ | refine Gr.drew ?_ | refine Gr.drewN ?_ _ | refine Gr.setCell ?_ (by simp <;> omega) _ | refine Gr.trans ?_ (by assumption))) hb); have r0 := g.keep Hr0.out; have r1 := g.keep Hr1.out; have r2 := g.keep Hr2.out; have r3 := g.keep Hr3.out; have r4 := g.keep Hr4.out; have a0 := g.keep Ha0.out; have a1 := g.keep Ha1.out; have a2 := g.keep Ha2.out; have a3 := g.keep Ha3.out; have b0 := g.keep Hb0.out; have b1 := g.keep Hb1.out; have b2 := g.keep Hb2.out; have b3 := g.keep Hb3.out; have z0 := g.keep Hz0.out; have z1 := g.keep Hz1.out; have z2 := g.keep Hz2.out; have s0 := g.keep Hs0.out; have s1 := g.keep Hs1.out; have s2 := g.keep Hs2.out; have s3 := g.keep Hs3.out; have s4 := g.keep Hs4.out; have s5 := g.keep Hs5.out; have s6 := g.keep Hs6.out; have s7 := g.keep Hs7.out; have s8 := g.keep Hs8.out; have f0 := (g.cells.2 _ _ ZL.out).trans HF0.out; have f1 := (g.cells.2 _ _ ZL.out).trans HF1.out; have f2 := (g.cells.2 _ _ ZL.out).trans HF2.out; have lr := World.block_lt_of_cell? _ _ r0; have la := World.block_lt_of_cell? _ _ a0; have lb := World.block_lt_of_cell? _ _ b0; have lz := World.block_lt_of_cell? _ _ z0; have ls := World.block_lt_of_cell? _ _ s0; (try dsimp only at lr la lb lz ls)) | (go_at_call 36; (with_reducible refine (hB _).mono ?_); rintro e wb1 ⟨rfl, hb⟩; have g := (show Gr W0 wb1 from Gr.trans (by repeat (first | (with_reducible exact Gr.refl _) | (with_reducible assumption) | (with_reducible refine Gr.alloc ?_ _) | (with_reducible refine Gr.drew ?_) | (with_reducible refine Gr.drewN ?_ _) | (with_reducible refine Gr.setCell ?_ (by simp <;> omega) _) | (with_reducible refine Gr.trans ?_ (by with_reducible assumption)) | exact Gr.refl _ | assumption | refine Gr.alloc ?_ _ | refine Gr.drew ?_ | refine Gr.drewN ?_ _ | refine Gr.setCell ?_ (by simp <;> omega) _ | refine Gr.trans ?_ (by assumption))) hb); have r0 := g.keep Hr0.out; have r1 := g.keep Hr1.out; have r2 := g.keep Hr2.out; have r3 := g.keep Hr3.out; have r4 := g.keep Hr4.out; have a0 := g.keep Ha0.out; have a1 := g.keep Ha1.out; have a2 := g.keep Ha2.out; have a3 := g.keep Ha3.out; have b0 := g.keep Hb0.out; have b1 := g.keep Hb1.out; have b2 := g.keep Hb2.out; have b3 := g.keep Hb3.out; have z0 := g.keep Hz0.out; have z1 := g.keep Hz1.out; have z2 := g.keep Hz2.out; have s0 := g.keep Hs0.out; have s1 := g.keep Hs1.out; have s2 := g.keep Hs2.out; have s3 := g.keep Hs3.out; have s4 := g.keep Hs4.out; have s5 := g.keep Hs5.out; have s6 := g.keep Hs6.out; have s7 := g.keep Hs7.out; have s8 := g.keep Hs8.out; have f0 := (g.cells.2 _ _ ZL.out).trans HF0.out; have f1 := (g.cells.2 _ _ ZL.out).trans HF1.out; have f2 := (g.cells.2 _ _ ZL.out).trans HF2.out; have lr := World.block_lt_of_cell? _ _ r0; have la := World.block_lt_of_cell? _ _ a0; have lb := World.block_lt_of_cell? _ _ b0; have lz := World.block_lt_of_cell? _ _ z0; have ls := World.block_lt_of_cell? _ _ s0; (try dsimp only at lr la lb lz ls)))
  exact bodyPost_ret (v := .agg #[.string S, .int .i64 0, .int .i64 0]) (by simp [results, Try.results11, go_sem, *]) rfl ⟨rfl, HWS.out _ (HG.out.trans (by repeat (first | (with_reducible exact Gr.refl _) | (with_reducible assumption) | (with_reducible refine Gr.alloc ?_ _) | (with_reducible refine Gr.drew ?_) | (with_reducible refine Gr.drewN ?_ _) | (with_reducible refine Gr.setCell ?_ (by simp <;> omega) _) | (with_reducible refine Gr.trans ?_ (by with_reducible assumption)) | exact Gr.refl _ | assumption | refine Gr.alloc ?_ _ | refine Gr.drew ?_ | refine Gr.drewN ?_ _ | refine Gr.setCell ?_ (by simp <;> omega) _ | refine Gr.trans ?_ (by assumption)))) _ _ _⟩
end Go.Proofs.Ytnaflaokhldfnaa
