/- The reference's Created: a new segment. -/
import Derived.Test.YtljminmfldejnaaHj
namespace Go.Proofs.Ytljminmfldejnaa
set_option linter.unusedSimpArgs false
set_option linter.unusedVariables false
open Go.RowKit

set_option maxHeartbeats 4000000 in
set_option maxRecDepth 100000 in
theorem refCreated_yes (A : Option Addr) (n c : Nat) (gs : List (Int × ByteArray)) (nx : Int) (p : Nat) (hE : stE nx gs = 0) (hp : 1 ≤ p ∧ p ≤ 8) (hf : n < 10 ∧ nx ≤ 1000) (w : World) (hs : Sv w A n c 2 (sg gs)) (hb : Sh gs) :
    Calls Try.prog 21 #[.agg #[.slice A n c, .int .i64 nx], .int .i64 p] w (AnR (gs ++ [(nx, zP p)]) (n + 1) (nx + 1) nx ⟨#[]⟩ 0 w) := by
  obtain ⟨i0, hi, iz0, iz1, iz2⟩ := info_parts infoSeg
  have HC := Lib.hid (fun W hg => Err_is A n c gs nx 0 hE W (hs.gr hg) hb)
  have HP := Lib.hid (show wiB (p : Int) 1 8 = true from wiB_yes (by omega) (by omega))
  have HS := Lib.hid hs
  have hnx := (st_right hE).2.1
  have h10 : ((n : Int) == 10) = false := by simp; omega
  have hx : nx ≤ 1000 := hf.2
  have hn : n < 10 := hf.1
  have hp1 := hp.2
  have hwr : IntKind.i64.wrap ((p : Int) * 32) = ((32 * p : Nat) : Int) := by rw [IntKind.wrap_i64]; omega
  have hadd : IntKind.i64.wrap (nx + 1) = nx + 1 := IntWalk.i64_in _ (by omega)
  clear hE hs hb hf hp
  go_enter Try.func21, Try.ntmps21
  go_upto_region 9 with (first | (go_at_call 39; (with_reducible refine (HC.out _ (by repeat (first | (with_reducible exact Gr.refl _) | (with_reducible assumption) | (with_reducible refine Gr.alloc ?_ _) | (with_reducible refine Gr.drew ?_) | (with_reducible refine Gr.drewN ?_ _) | (with_reducible refine Gr.setCell ?_ (by simp <;> omega) _) | (with_reducible refine Gr.trans ?_ (by with_reducible assumption)) | exact Gr.refl _ | assumption | refine Gr.alloc ?_ _ | refine Gr.drew ?_ | refine Gr.drewN ?_ _ | refine Gr.setCell ?_ (by simp <;> omega) _ | refine Gr.trans ?_ (by assumption)))).mono ?_); rintro e w1 ⟨rfl, hb⟩; obtain ⟨hc, hf⟩ := gcells hb (w.heap.size + 2) (by first | exact hz | omega | (simp; done) | (simp; omega)); have hz : w.heap.size + 2 ≤ w1.heap.size := (by have h := hb.size; (try simp at h); omega); have hz0 : w.heap.size < w1.heap.size := (by omega)) | (go_at_call 42; (with_reducible refine (Within_is _ _ _ _ HP.out _).mono ?_); rintro e w1 ⟨rfl, rfl⟩) | (go_at_call 15; (with_reducible refine (Own_own A n c gs nx _ (HS.out.gr (by repeat (first | (with_reducible exact Gr.refl _) | (with_reducible assumption) | (with_reducible refine Gr.alloc ?_ _) | (with_reducible refine Gr.drew ?_) | (with_reducible refine Gr.drewN ?_ _) | (with_reducible refine Gr.setCell ?_ (by simp <;> omega) _) | (with_reducible refine Gr.trans ?_ (by with_reducible assumption)) | exact Gr.refl _ | assumption | refine Gr.alloc ?_ _ | refine Gr.drew ?_ | refine Gr.drewN ?_ _ | refine Gr.setCell ?_ (by simp <;> omega) _ | refine Gr.trans ?_ (by assumption)))) (by omega)).mono ?_); rintro e w2 ⟨A2, c2, rfl, hO, hb2⟩; have HO := Lib.hid hO; clear hO; obtain ⟨hc, hf⟩ := gcells hb2 (w.heap.size + 2) (by first | exact hz | (simp; done) | (simp; omega) | omega); have hz : w.heap.size + 2 ≤ w2.heap.size := (by have h := Gr.size hb2; (try simp at h); omega); have hz0 : w.heap.size < w2.heap.size := (by omega); have hz1 : w.heap.size + 1 < w2.heap.size := (by omega)))
  have GZ := Lib.hid (show Gr w w2 from (by repeat (first | (with_reducible exact Gr.refl _) | (with_reducible assumption) | (with_reducible refine Gr.alloc ?_ _) | (with_reducible refine Gr.drew ?_) | (with_reducible refine Gr.drewN ?_ _) | (with_reducible refine Gr.setCell ?_ (by simp <;> omega) _) | (with_reducible refine Gr.trans ?_ (by with_reducible assumption)) | exact Gr.refl _ | assumption | refine Gr.alloc ?_ _ | refine Gr.drew ?_ | refine Gr.drewN ?_ _ | refine Gr.setCell ?_ (by simp <;> omega) _ | refine Gr.trans ?_ (by assumption))))
  have b1 : w2.cell? ⟨w.heap.size, 1, none⟩ = some (.int .i64 nx) := by simp [go_sem, *]
  have k0 : w2.cell? ⟨w.heap.size + 1, 0, none⟩ = some (.slice none 0 0) := by simp [go_sem, *]
  have k1 : w2.cell? ⟨w.heap.size + 1, 1, none⟩ = some (.int .i64 0) := by simp [go_sem, *]
  have k2 : w2.cell? ⟨w.heap.size + 1, 2, none⟩ = some (.int .i64 0) := by simp [go_sem, *]
  have k3 : w2.cell? ⟨w.heap.size + 1, 3, none⟩ = some (.string ⟨#[]⟩) := by simp [go_sem, *]
  have k4 : w2.cell? ⟨w.heap.size + 1, 4, none⟩ = some (.int .i64 0) := by simp [go_sem, *]
  have f0 : w2.frozen? ⟨w.heap.size + 1, 0, none⟩ = false := by simp [go_sem, *]
  have f1 : w2.frozen? ⟨w.heap.size + 1, 1, none⟩ = false := by simp [go_sem, *]
  have f2 : w2.frozen? ⟨w.heap.size + 1, 2, none⟩ = false := by simp [go_sem, *]
  have f3 : w2.frozen? ⟨w.heap.size + 1, 3, none⟩ = false := by simp [go_sem, *]
  have f4 : w2.frozen? ⟨w.heap.size + 1, 4, none⟩ = false := by simp [go_sem, *]
  have HK := Lib.hid (And.intro b1 (And.intro k0 (And.intro k1 (And.intro k2 (And.intro k3 k4)))))
  have HF := Lib.hid (And.intro f0 (And.intro f1 (And.intro f2 (And.intro f3 f4))))
  have hw1 : w.heap.size + 2 ≤ w1.heap.size := by assumption
  have hw12 : w1.heap.size ≤ w2.heap.size := hb2.size
  clear k0 k1 k2 k3 k4 f0 f1 f2 f3 f4 hc hf
  have hne : some w2.heap.size ≠ (Value.slice A2 n c2).ownBlock := fun e => by have := (World.ownsRow.lt HO.out _ e.symm).2; omega
  have HNE := Lib.hid hne
  clear hne
  go_region_law (first
    | (go_simp; (go_at_call 52; (with_reducible refine (Zeros_any p _ (by first | exact hwr | omega) (by omega) _).mono ?_); rintro e w3 ⟨rfl, hb3⟩; have hs3 : w2.heap.size < w3.heap.size := (by have h := hb3.size; simp at h; omega); have q0 : w3.cell? ⟨w2.heap.size, 0, none⟩ = some (.slice A2 n c2) := hb3.keep (by simp [go_sem]); have q1 : w3.cell? ⟨w2.heap.size, 1, none⟩ = some (.int .i64 nx) := hb3.keep (by simp [go_sem]); have q2 : w3.cell? ⟨w.heap.size, 1, none⟩ = some (.int .i64 nx) := hb3.keep (by simp [go_sem, *]); have hs5 : w.heap.size < w3.heap.size := (by omega); have p0 : w3.frozen? ⟨w2.heap.size, 0, none⟩ = false := (hb3.cells.2 _ _ (by simp)).trans (by simp [go_sem]); have p1 : w3.frozen? ⟨w2.heap.size, 1, none⟩ = false := (hb3.cells.2 _ _ (by simp)).trans (by simp [go_sem])))
    | (refine step_append_sv _ (by rfl) _ _ 22 71 (by rfl) i0 (.agg #[.int .i64 0, .string ⟨#[]⟩]) 2 24 Try.underlying22 hi iz0 iz1 iz2 rfl (by omega) w1.heap.size (.slice A2 n c2) n (sg gs) (by rfl) (own_gr HO.out (Gr.trans ((Gr.refl _).alloc _) (Gr.trans (by repeat (first | (with_reducible exact Gr.refl _) | (with_reducible assumption) | (with_reducible refine Gr.alloc ?_ _) | (with_reducible refine Gr.drew ?_) | (with_reducible refine Gr.drewN ?_ _) | (with_reducible refine Gr.setCell ?_ (by simp <;> omega) _) | (with_reducible refine Gr.trans ?_ (by with_reducible assumption)) | exact Gr.refl _ | assumption | refine Gr.alloc ?_ _ | refine Gr.drew ?_ | refine Gr.drewN ?_ _ | refine Gr.setCell ?_ (by simp <;> omega) _ | refine Gr.trans ?_ (by assumption))) (Gr.trans hb3 (by repeat (first | (with_reducible exact Gr.refl _) | (with_reducible assumption) | (with_reducible refine Gr.alloc ?_ _) | (with_reducible refine Gr.drew ?_) | (with_reducible refine Gr.drewN ?_ _) | (with_reducible refine Gr.setCell ?_ (by simp <;> omega) _) | (with_reducible refine Gr.trans ?_ (by with_reducible assumption)) | exact Gr.refl _ | assumption | refine Gr.alloc ?_ _ | refine Gr.drew ?_ | refine Gr.drewN ?_ _ | refine Gr.setCell ?_ (by simp <;> omega) _ | refine Gr.trans ?_ (by assumption))))))) (some ⟨w3.heap.size, 0, none⟩) 1 1 [.int .i64 nx, .string (zP p)] (by rfl) (Sv.new1 w3 _ _ _) (sg_one [(nx, zP p)]) (by unfold maxLen; omega) (by omega) (by simp; omega) ?_; intro v4 w4 hO4 hB4 hG4; have m0 : w4.cell? ⟨w2.heap.size, 0, none⟩ = some (.slice A2 n c2) := hG4.cell (by rw [World.cell?_alloc_lt _ _ _ hs3]; exact q0) HNE.out; have m1 : w4.cell? ⟨w2.heap.size, 1, none⟩ = some (.int .i64 nx) := hG4.cell (by rw [World.cell?_alloc_lt _ _ _ hs3]; exact q1) HNE.out; have n0 : w4.frozen? ⟨w2.heap.size, 0, none⟩ = false := (World.frozen?_of_block (hG4.block w2.heap.size (by simp; omega) HNE.out)).trans ((((Gr.refl w3).alloc _).cells.2 _ _ hs3).trans p0); have n1 : w4.frozen? ⟨w2.heap.size, 1, none⟩ = false := (World.frozen?_of_block (hG4.block w2.heap.size (by simp; omega) HNE.out)).trans ((((Gr.refl w3).alloc _).cells.2 _ _ hs3).trans p1); have hs4 : w2.heap.size < w4.heap.size := (by have h := hG4.size; simp at h; omega); have hty : w4.heap[w2.heap.size]? = some (.cells #[.slice A2 n c2, .int .i64 nx] 24 (0, 0)) := (hG4.block w2.heap.size (by simp; omega) HNE.out).trans ((heap_alloc_old w3 _ hs3).trans ((Below.block hb3 w2.heap.size (by simp)).trans (heap_alloc_new w2 _))); obtain ⟨A5, c5, rfl, -⟩ := wv_of_own hO4))
  all_goals
    have hlow : w.heap.size + 1 < w1.heap.size := by omega
    have hlow0 : w.heap.size < w1.heap.size := by omega
    have hB24 : Below w1.heap.size w2 w4 := Below.trans ((((((Gr.refl w2).alloc _).drew.trans hb3).alloc _)).mono hw12) hB4
    have G24 := Lib.hid (GZ.out.and_below hB24 (by omega))
    have hO5 : w4.ownsRow w1.heap.size 71 2 (.slice A5 (n + 1) c5) (n + 1) (sg (gs ++ [(nx, zP p)])) := by rw [sg_app]; exact hO4
    have HW5 := Lib.hid (own_setType (o := 0) hO5 hty (by decide) (.slice A5 (n + 1) c5))
    have HB := Lib.hid hB24
    clear hO5 hO4 hB4 hG4 hB24 q0 q1 q2 p0 p1 hb3
    have b1' := keepFar (p := ⟨w2.heap.size, 0, none⟩) (v := .slice A5 (n + 1) c5) ((HB.out.cell (p := ⟨w.heap.size, 1, none⟩) hlow0).trans HK.out.1) (by simp; omega)
    have k0 := keepFar (p := ⟨w2.heap.size, 0, none⟩) (v := .slice A5 (n + 1) c5) ((HB.out.cell (p := ⟨w.heap.size + 1, 0, none⟩) hlow).trans HK.out.2.1) (by simp; omega)
    have k1 := keepFar (p := ⟨w2.heap.size, 0, none⟩) (v := .slice A5 (n + 1) c5) ((HB.out.cell (p := ⟨w.heap.size + 1, 1, none⟩) hlow).trans HK.out.2.2.1) (by simp; omega)
    have k2 := keepFar (p := ⟨w2.heap.size, 0, none⟩) (v := .slice A5 (n + 1) c5) ((HB.out.cell (p := ⟨w.heap.size + 1, 2, none⟩) hlow).trans HK.out.2.2.2.1) (by simp; omega)
    have k3 := keepFar (p := ⟨w2.heap.size, 0, none⟩) (v := .slice A5 (n + 1) c5) ((HB.out.cell (p := ⟨w.heap.size + 1, 3, none⟩) hlow).trans HK.out.2.2.2.2.1) (by simp; omega)
    have k4 := keepFar (p := ⟨w2.heap.size, 0, none⟩) (v := .slice A5 (n + 1) c5) ((HB.out.cell (p := ⟨w.heap.size + 1, 4, none⟩) hlow).trans HK.out.2.2.2.2.2) (by simp; omega)
    have f0 : (w4.setCell ⟨w2.heap.size, 0, none⟩ (.slice A5 (n + 1) c5)).frozen? ⟨w.heap.size + 1, 0, none⟩ = false := by rw [World.frozen?_setCell]; exact (HB.out.frozen (p := ⟨w.heap.size + 1, 0, none⟩) hlow).trans HF.out.1
    have f1 : (w4.setCell ⟨w2.heap.size, 0, none⟩ (.slice A5 (n + 1) c5)).frozen? ⟨w.heap.size + 1, 1, none⟩ = false := by rw [World.frozen?_setCell]; exact (HB.out.frozen (p := ⟨w.heap.size + 1, 1, none⟩) hlow).trans HF.out.2.1
    have f2 : (w4.setCell ⟨w2.heap.size, 0, none⟩ (.slice A5 (n + 1) c5)).frozen? ⟨w.heap.size + 1, 2, none⟩ = false := by rw [World.frozen?_setCell]; exact (HB.out.frozen (p := ⟨w.heap.size + 1, 2, none⟩) hlow).trans HF.out.2.2.1
    have f3 : (w4.setCell ⟨w2.heap.size, 0, none⟩ (.slice A5 (n + 1) c5)).frozen? ⟨w.heap.size + 1, 3, none⟩ = false := by rw [World.frozen?_setCell]; exact (HB.out.frozen (p := ⟨w.heap.size + 1, 3, none⟩) hlow).trans HF.out.2.2.2.1
    have f4 : (w4.setCell ⟨w2.heap.size, 0, none⟩ (.slice A5 (n + 1) c5)).frozen? ⟨w.heap.size + 1, 4, none⟩ = false := by rw [World.frozen?_setCell]; exact (HB.out.frozen (p := ⟨w.heap.size + 1, 4, none⟩) hlow).trans HF.out.2.2.2.2
    have j0 : (w4.setCell ⟨w2.heap.size, 0, none⟩ (.slice A5 (n + 1) c5)).cell? ⟨w2.heap.size, 0, none⟩ = some (.slice A5 (n + 1) c5) := World.cell?_setCell_same _ _ _ m0
    have j1 : (w4.setCell ⟨w2.heap.size, 0, none⟩ (.slice A5 (n + 1) c5)).cell? ⟨w2.heap.size, 1, none⟩ = some (.int .i64 nx) := by rw [World.cell?_setCell_other _ _ _ _ (by simp)]; exact m1
    have g1 : (w4.setCell ⟨w2.heap.size, 0, none⟩ (.slice A5 (n + 1) c5)).frozen? ⟨w2.heap.size, 1, none⟩ = false := by rw [World.frozen?_setCell]; exact n1
    have hty5 : (w4.setCell ⟨w2.heap.size, 0, none⟩ (.slice A5 (n + 1) c5)).heap[w2.heap.size]? = some (.cells _ 24 (0, 0)) := heap_setCell_same w4 w2.heap.size 0 _ _ _ hty
    have GW := Lib.hid (show Gr w (w4.setCell ⟨w2.heap.size, 0, none⟩ (.slice A5 (n + 1) c5)) from G24.out.setCell (by simp; omega) _)
    have hsW : w2.heap.size < (w4.setCell ⟨w2.heap.size, 0, none⟩ (.slice A5 (n + 1) c5)).heap.size := by simpa using hs4
    have HT5 := Lib.hid hty5
    clear hty5 hty m0 m1 n0 n1 hs4 HB G24 b1
    generalize w4.setCell ⟨w2.heap.size, 0, none⟩ (.slice A5 (n + 1) c5) = W5 at *
    have hsV : w.heap.size + 1 < W5.heap.size := by omega
    have hsU : w.heap.size < W5.heap.size := by omega
    go_wp2
    refine bodyPost_ret (v := .agg #[.slice A5 (n + 1) c5, .int .i64 (nx + 1), .int .i64 nx, .string ⟨#[]⟩, .int .i64 0]) (by simp [results, Try.results21, go_sem, *]) rfl ?_
    refine ⟨A5, c5, rfl, ?_, ?_⟩
    · exact ((((((wv_own (own_setType (o := 1) HW5.out HT5.out (by decide) _)).setLow hlow _).setLow hlow _).setLow hlow _).setLow hlow _).setLow hlow _).mono (by omega)
    · exact (by repeat (first | (with_reducible exact Gr.refl _) | (with_reducible assumption) | (with_reducible refine Gr.alloc ?_ _) | (with_reducible refine Gr.drew ?_) | (with_reducible refine Gr.drewN ?_ _) | (with_reducible refine Gr.setCell ?_ (by simp <;> omega) _) | (with_reducible refine Gr.trans ?_ (by with_reducible assumption)) | exact Gr.refl _ | assumption | refine Gr.alloc ?_ _ | refine Gr.drew ?_ | refine Gr.drewN ?_ _ | refine Gr.setCell ?_ (by simp <;> omega) _ | refine Gr.trans ?_ (by assumption)))
end Go.Proofs.Ytljminmfldejnaa
