import Derived.Test.YtmejhccdiimmlaaEa
namespace Go.Proofs.Ytmejhccdiimmlaa
set_option linter.unusedSimpArgs false
set_option linter.unusedVariables false
open Go.RowKit
set_option maxHeartbeats 1000000 in
set_option maxRecDepth 100000 in
theorem ValueErr_any (k l s n : Int) (x : ByteArray) (w : World) :
    Calls Try.prog 20 #[.agg #[.int .i64 k, .int .i64 l, .int .i64 s], .agg #[.int .i64 n, .string x]] w fun e w' => e = .returned (.int .i64 (valErr k l s n x)) ∧ Gr w w' := by
  by_cases h1 : typeErr k l s = 0
  · have hb0 : (typeErr k l s != 0) = false := by simp [h1]
    have H1 := Lib.hid h1
    have HX := Lib.hid (isEmpty_size x)
    by_cases h2 : k = 4
    · have hb1 : (k == 4) = true := by simp [h2]
      have H2 := Lib.hid h2
      clear h1 h2
      go_enter Try.func20, Try.ntmps20
      go_wp2_with (go_at_call 17; refine (TypeErr_any _ _ _ _).mono ?_; rintro e w1 ⟨rfl, hb⟩; obtain ⟨hc, hf⟩ := hb.cells; have hz : w.heap.size + 1 < w1.heap.size := (by have h := hb.size; (try simp at h); omega); have hz0 : w.heap.size < w1.heap.size := by omega)
      go_ret
      exact ⟨ret_int (by have := H1.out; have := H2.out; grind [valErr]), (by repeat (first | exact Gr.refl _ | assumption | refine Gr.alloc ?_ _ | refine Gr.drew ?_ | refine Gr.drewN ?_ _ | refine Gr.setCell ?_ (by simp <;> omega) _ | refine Gr.trans ?_ (by assumption)))⟩
    · obtain ⟨l0, l1, l2, _, _⟩ := typeErr_len h1 h2
      have hb1 : (k == 4) = false := by simp [h2]
      have H2 := Lib.hid h2
      clear h1 h2
      by_cases k0 : k = 0
      · have hb2 : (k == 0) = true := by simp [k0]
        have H3 := Lib.hid k0
        clear k0 l2
        by_cases n0 : n = 0
        all_goals
          go_enter Try.func20, Try.ntmps20
          go_wp2_with (first | (go_at_call 17; refine (TypeErr_any _ _ _ _).mono ?_; rintro e w1 ⟨rfl, hb⟩; obtain ⟨hc, hf⟩ := hb.cells; have hz : w.heap.size + 1 < w1.heap.size := (by have h := hb.size; (try simp at h); omega); have hz0 : w.heap.size < w1.heap.size := by omega) | (go_at_call 46; refine (Count_any _ _).mono ?_; rintro e w1 ⟨rfl, rfl, hc0, hc1⟩))
          go_ret
          exact ⟨ret_int (by have := H1.out; have := H2.out; have := H3.out; grind [valErr, first0, pick, countI]), (by repeat (first | exact Gr.refl _ | assumption | refine Gr.alloc ?_ _ | refine Gr.drew ?_ | refine Gr.drewN ?_ _ | refine Gr.setCell ?_ (by simp <;> omega) _ | refine Gr.trans ?_ (by assumption)))⟩
      · have hb2 : (k == 0) = false := by simp [k0]
        have L2 := l2 k0
        have H3 := Lib.hid k0
        clear k0 l2
        have hp := p10_bd l (by omega)
        have hm : 0 ≤ most l ∧ most l ≤ 1000000000000000000 := by unfold most; omega
        clear hp
        have hwr : IntKind.i64.wrap (-most l) = -most l := IntWalk.i64_in _ (by omega)
        have hwc : ∀ b, IntKind.i64.wrap (19 * countI b) = 19 * countI b := fun b => IntWalk.i64_in _ (by have := countI_bd b; omega)
        by_cases x0 : x.toList.isEmpty = true
        · go_enter Try.func20, Try.ntmps20
          go_wp2_with (first | (go_at_call 17; refine (TypeErr_any _ _ _ _).mono ?_; rintro e w1 ⟨rfl, hb⟩; obtain ⟨hc, hf⟩ := hb.cells; have hz : w.heap.size + 1 < w1.heap.size := (by have h := hb.size; (try simp at h); omega); have hz0 : w.heap.size < w1.heap.size := by omega) | (go_at_call 46; refine (Count_any _ _).mono ?_; rintro e w1 ⟨rfl, rfl, hc0, hc1⟩))
          go_region_held3 (fun w' => w'.cell? ⟨w.heap.size, 0, none⟩ = some (.int .i64 k) ∧ w'.cell? ⟨w.heap.size, 1, none⟩ = some (.int .i64 l) ∧ w'.cell? ⟨w.heap.size, 2, none⟩ = some (.int .i64 s) ∧ w'.cell? ⟨w.heap.size + 1, 0, none⟩ = some (.int .i64 n) ∧ w'.cell? ⟨w.heap.size + 1, 1, none⟩ = some (.string x)) (first | (go_keep; done) | ((try go_split_ands); (repeat' apply And.intro) <;> ((try simp only [World.cell?_drew]); first | assumption | (refine hb.keep ?_; (try simp only [World.cell?_drew]); first | assumption | (simp [*, go_sem]; done)) | (simp [*, go_sem]; done)))) (first | (go_at_call 51; refine (Most_any _ _ _ (by omega) _).mono ?_; rintro e w1 ⟨rfl, hb⟩; obtain ⟨hc, hf⟩ := hb.cells; have hz : w.heap.size + 1 < w1.heap.size := (by have h := hb.size; (try simp at h); omega); have hz0 : w.heap.size < w1.heap.size := by omega) | (go_at_call 44; refine (Within_any _ _ _ _).mono ?_; rintro e w1 ⟨rfl, rfl⟩) | (go_at_call 46; refine (Count_any _ _).mono ?_; rintro e w1 ⟨rfl, rfl, hc0, hc1⟩))
          go_wp2
          go_ret
          exact ⟨ret_int (by have := H1.out; have := H2.out; have := H3.out; have := HX.out; clear hc hf hb; grind [valErr, fitsB, withinB, countI]), (by repeat (first | exact Gr.refl _ | assumption | refine Gr.alloc ?_ _ | refine Gr.drew ?_ | refine Gr.drewN ?_ _ | refine Gr.setCell ?_ (by simp <;> omega) _ | refine Gr.trans ?_ (by assumption)))⟩
        · have x0' : x.toList.isEmpty = false := by simpa using x0
          clear x0
          go_enter Try.func20, Try.ntmps20
          go_wp2_with (first | (go_at_call 17; refine (TypeErr_any _ _ _ _).mono ?_; rintro e w1 ⟨rfl, hb⟩; obtain ⟨hc, hf⟩ := hb.cells; have hz : w.heap.size + 1 < w1.heap.size := (by have h := hb.size; (try simp at h); omega); have hz0 : w.heap.size < w1.heap.size := by omega) | (go_at_call 46; refine (Count_any _ _).mono ?_; rintro e w1 ⟨rfl, rfl, hc0, hc1⟩))
          go_ret
          exact ⟨ret_int (by have := H1.out; have := H2.out; have := H3.out; have := HX.out; grind [valErr]), (by repeat (first | exact Gr.refl _ | assumption | refine Gr.alloc ?_ _ | refine Gr.drew ?_ | refine Gr.drewN ?_ _ | refine Gr.setCell ?_ (by simp <;> omega) _ | refine Gr.trans ?_ (by assumption)))⟩
  · have hb0 : (typeErr k l s != 0) = true := by simp [h1]
    have H1 := Lib.hid h1
    clear h1
    go_enter Try.func20, Try.ntmps20
    go_wp2_with (go_at_call 17; refine (TypeErr_any _ _ _ _).mono ?_; rintro e w1 ⟨rfl, hb⟩; obtain ⟨hc, hf⟩ := hb.cells; have hz : w.heap.size + 1 < w1.heap.size := (by have h := hb.size; (try simp at h); omega); have hz0 : w.heap.size < w1.heap.size := by omega)
    go_ret
    exact ⟨ret_int (by simp [valErr, H1.out]), (by repeat (first | exact Gr.refl _ | assumption | refine Gr.alloc ?_ _ | refine Gr.drew ?_ | refine Gr.drewN ?_ _ | refine Gr.setCell ?_ (by simp <;> omega) _ | refine Gr.trans ?_ (by assumption)))⟩

end Go.Proofs.Ytmejhccdiimmlaa
