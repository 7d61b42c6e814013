/- NumericOrders' law, walked: two zoned amounts not below 0. -/
import Derived.Test.YtnjkoogghhckmaaSs
import Derived.WalkLawsBesides
namespace Go.Proofs.Ytnjkoogghhckmaa.lawOrders
set_option linter.unusedSimpArgs false
set_option linter.unusedVariables false
open Go.Proofs.Ytnjkoogghhckmaa
open Go.RowKit
set_option linter.unusedVariables false

set_option maxHeartbeats 2000000 in
set_option maxRecDepth 100000 in
theorem coreLr (l sc n s m r : Int) (half : Bool) (NA NB : Int)
    (SA SB : ByteArray) 
    (hW : ∀ w, Calls Try.prog 13 #[] w fun e w' => e = .returned (.bool true) ∧ Gr w w')
    (hA : ∀ w, Calls Try.prog 28 #[.agg #[.int .i64 n, .int .i64 s], .agg #[.int .i64 2, .int .i64 l, .int .i64 sc], .bool half] w fun e w' => e = .returned (.tuple #[.agg #[.int .i64 NA, .string ⟨#[]⟩], .int .i64 (0)]) ∧ Gr w w')
    (hB : ∀ w, Calls Try.prog 28 #[.agg #[.int .i64 m, .int .i64 r], .agg #[.int .i64 2, .int .i64 l, .int .i64 sc], .bool half] w fun e w' => e = .returned (.tuple #[.agg #[.int .i64 NB, .string ⟨#[]⟩], .int .i64 (0)]) ∧ Gr w w')
    (hC : ∀ w, Calls Try.prog 36 #[.agg #[.int .i64 n, .int .i64 s], .agg #[.int .i64 m, .int .i64 r]] w fun e w' => e = .returned (.tuple #[.int .i64 (-1), .int .i64 (0)]) ∧ Gr w w')
    (hE : ∀ w, Calls Try.prog 24 #[.agg #[.int .i64 2, .int .i64 l, .int .i64 sc], .agg #[.int .i64 NA, .string ⟨#[]⟩]] w fun e w' => e = .returned (.tuple #[.string SA, .int .i64 0]) ∧ Gr w w')
    (hF : ∀ w, Calls Try.prog 24 #[.agg #[.int .i64 2, .int .i64 l, .int .i64 sc], .agg #[.int .i64 NB, .string ⟨#[]⟩]] w fun e w' => e = .returned (.tuple #[.string SB, .int .i64 0]) ∧ Gr w w')
    (hS : Op.bytesLess SA.toList SB.toList = decide (NA < NB))
    (g : ¬ NB < NA) (g' : decide (NB < NA) = false) (h0 : ¬ NA < 0) (h1 : decide (NA < 0) = false) (h2 : ¬ NB < 0) (h3 : decide (NB < 0) = false) (w : World) :
    Calls Try.prog 10 #[.agg #[.int .i64 2, .int .i64 l, .int .i64 sc], .agg #[.int .i64 n, .int .i64 s, .int .i64 m, .int .i64 r], .bool half] w fun e w' => e = .returned (.bool true) ∧ Gr w w' := by
  go_enter Try.func10, Try.ntmps10
  go_wp2_with (first | (go_at_call 13; with_reducible refine (hW _).mono ?_; rintro e wa ⟨rfl, wah⟩; obtain ⟨wac, waf⟩ := wah.cells; have was := wah.size; (try simp at was); have waz : w.heap.size + 1 < wa.heap.size := (by omega); have way : w.heap.size < wa.heap.size := (by omega)) | ((go_at_call 28; with_reducible refine (hA _).mono ?_; rintro e wx ⟨rfl, wxh⟩; obtain ⟨wxc, wxf⟩ := wxh.cells; have wxs := wxh.size; (try simp at wxs); have wxz : w.heap.size + 1 < wx.heap.size := (by omega); have wxy : w.heap.size < wx.heap.size := (by omega))) | ((go_at_call 28; with_reducible refine (hB _).mono ?_; rintro e wy ⟨rfl, wyh⟩; obtain ⟨wyc, wyf⟩ := wyh.cells; have wys := wyh.size; (try simp at wys); have wyz : w.heap.size + 1 < wy.heap.size := (by omega); have wyy : w.heap.size < wy.heap.size := (by omega)); have wy1 : wx.heap.size < wy.heap.size := by omega) | ((go_at_call 36; with_reducible refine (hC _).mono ?_; rintro e wz ⟨rfl, wzh⟩; obtain ⟨wzc, wzf⟩ := wzh.cells; have wzs := wzh.size; (try simp at wzs); have wzz : w.heap.size + 1 < wz.heap.size := (by omega); have wzy : w.heap.size < wz.heap.size := (by omega)); have wz1 : wx.heap.size < wz.heap.size := (by omega); have wz2 : wy.heap.size < wz.heap.size := (by omega)))
  have K : wz.cell? ⟨(w.heap.size), 0, none⟩ = some (.int .i64 2) ∧ wz.cell? ⟨(w.heap.size), 1, none⟩ = some (.int .i64 l) ∧ wz.cell? ⟨(w.heap.size), 2, none⟩ = some (.int .i64 sc) ∧ wz.cell? ⟨(wx.heap.size), 0, none⟩ = some (.int .i64 NA) ∧ wz.cell? ⟨(wx.heap.size), 1, none⟩ = some (.string ⟨#[]⟩) ∧ wz.cell? ⟨(wy.heap.size), 0, none⟩ = some (.int .i64 NB) ∧ wz.cell? ⟨(wy.heap.size), 1, none⟩ = some (.string ⟨#[]⟩) := by
    refine ⟨?_, ?_, ?_, ?_, ?_, ?_, ?_⟩ <;> simp [*, go_sem]
  have G := Lib.hid ((by repeat (first | exact Gr.refl _ | assumption | refine Gr.alloc ?_ _ | refine Gr.drew ?_ | refine Gr.drewN ?_ _ | refine Gr.setCell ?_ (by simp <;> omega) _ | refine Gr.trans ?_ (by assumption))) : Gr w wz)
  clear wzc wzf wzs wzz wz1 wz2 wyc wyf wys wyz wyy wy1 wxc wxf wxs wxz wxy wac waf was waz way hA hB hC hW
  clear wzh wyh wxh wah
  generalize wx.heap.size = b1 at K ⊢
  generalize wy.heap.size = b2 at K ⊢
  obtain ⟨K0, K1, K2, K3, K4, K5, K6⟩ := K
  with_reducible refine (hE _).mono ?_
  rintro e wp ⟨rfl, wph⟩
  have G2 := Lib.hid (Gr.trans G.out wph)
  replace K0 := wph.keep K0
  replace K1 := wph.keep K1
  replace K2 := wph.keep K2
  replace K3 := wph.keep K3
  replace K4 := wph.keep K4
  replace K5 := wph.keep K5
  replace K6 := wph.keep K6
  clear wph G
  go_wp2_with (go_at_call 24; with_reducible refine (hF _).mono ?_; rintro e wq ⟨rfl, wqh⟩; have G3 := Lib.hid (Gr.trans G2.out wqh); replace K0 := wqh.keep K0; replace K1 := wqh.keep K1; replace K2 := wqh.keep K2; replace K3 := wqh.keep K3; replace K4 := wqh.keep K4; replace K5 := wqh.keep K5; replace K6 := wqh.keep K6; clear wqh)
  go_ret
  exact ⟨by simp [hS], G3.out⟩
set_option maxHeartbeats 2000000 in
set_option maxRecDepth 100000 in
theorem coreEr (l sc n s m r : Int) (half : Bool) (N : Int)
    (SA : ByteArray) 
    (hW : ∀ w, Calls Try.prog 13 #[] w fun e w' => e = .returned (.bool true) ∧ Gr w w')
    (hA : ∀ w, Calls Try.prog 28 #[.agg #[.int .i64 n, .int .i64 s], .agg #[.int .i64 2, .int .i64 l, .int .i64 sc], .bool half] w fun e w' => e = .returned (.tuple #[.agg #[.int .i64 N, .string ⟨#[]⟩], .int .i64 (0)]) ∧ Gr w w')
    (hB : ∀ w, Calls Try.prog 28 #[.agg #[.int .i64 m, .int .i64 r], .agg #[.int .i64 2, .int .i64 l, .int .i64 sc], .bool half] w fun e w' => e = .returned (.tuple #[.agg #[.int .i64 N, .string ⟨#[]⟩], .int .i64 (0)]) ∧ Gr w w')
    (hC : ∀ w, Calls Try.prog 36 #[.agg #[.int .i64 n, .int .i64 s], .agg #[.int .i64 m, .int .i64 r]] w fun e w' => e = .returned (.tuple #[.int .i64 (0), .int .i64 (0)]) ∧ Gr w w')
    (hE : ∀ w, Calls Try.prog 24 #[.agg #[.int .i64 2, .int .i64 l, .int .i64 sc], .agg #[.int .i64 N, .string ⟨#[]⟩]] w fun e w' => e = .returned (.tuple #[.string SA, .int .i64 0]) ∧ Gr w w')
    (hS : Op.bytesLess SA.toList SA.toList = false)
    (h0 : ¬ N < 0) (h1 : decide (N < 0) = false) (w : World) :
    Calls Try.prog 10 #[.agg #[.int .i64 2, .int .i64 l, .int .i64 sc], .agg #[.int .i64 n, .int .i64 s, .int .i64 m, .int .i64 r], .bool half] w fun e w' => e = .returned (.bool true) ∧ Gr w w' := by
  go_enter Try.func10, Try.ntmps10
  go_wp2_with (first | (go_at_call 13; with_reducible refine (hW _).mono ?_; rintro e wa ⟨rfl, wah⟩; obtain ⟨wac, waf⟩ := wah.cells; have was := wah.size; (try simp at was); have waz : w.heap.size + 1 < wa.heap.size := (by omega); have way : w.heap.size < wa.heap.size := (by omega)) | ((go_at_call 28; with_reducible refine (hA _).mono ?_; rintro e wx ⟨rfl, wxh⟩; obtain ⟨wxc, wxf⟩ := wxh.cells; have wxs := wxh.size; (try simp at wxs); have wxz : w.heap.size + 1 < wx.heap.size := (by omega); have wxy : w.heap.size < wx.heap.size := (by omega))) | ((go_at_call 28; with_reducible refine (hB _).mono ?_; rintro e wy ⟨rfl, wyh⟩; obtain ⟨wyc, wyf⟩ := wyh.cells; have wys := wyh.size; (try simp at wys); have wyz : w.heap.size + 1 < wy.heap.size := (by omega); have wyy : w.heap.size < wy.heap.size := (by omega)); have wy1 : wx.heap.size < wy.heap.size := by omega) | ((go_at_call 36; with_reducible refine (hC _).mono ?_; rintro e wz ⟨rfl, wzh⟩; obtain ⟨wzc, wzf⟩ := wzh.cells; have wzs := wzh.size; (try simp at wzs); have wzz : w.heap.size + 1 < wz.heap.size := (by omega); have wzy : w.heap.size < wz.heap.size := (by omega)); have wz1 : wx.heap.size < wz.heap.size := (by omega); have wz2 : wy.heap.size < wz.heap.size := (by omega)))
  have K : wz.cell? ⟨(w.heap.size), 0, none⟩ = some (.int .i64 2) ∧ wz.cell? ⟨(w.heap.size), 1, none⟩ = some (.int .i64 l) ∧ wz.cell? ⟨(w.heap.size), 2, none⟩ = some (.int .i64 sc) ∧ wz.cell? ⟨(wx.heap.size), 0, none⟩ = some (.int .i64 N) ∧ wz.cell? ⟨(wx.heap.size), 1, none⟩ = some (.string ⟨#[]⟩) ∧ wz.cell? ⟨(wy.heap.size), 0, none⟩ = some (.int .i64 N) ∧ wz.cell? ⟨(wy.heap.size), 1, none⟩ = some (.string ⟨#[]⟩) := by
    refine ⟨?_, ?_, ?_, ?_, ?_, ?_, ?_⟩ <;> simp [*, go_sem]
  have G := Lib.hid ((by repeat (first | exact Gr.refl _ | assumption | refine Gr.alloc ?_ _ | refine Gr.drew ?_ | refine Gr.drewN ?_ _ | refine Gr.setCell ?_ (by simp <;> omega) _ | refine Gr.trans ?_ (by assumption))) : Gr w wz)
  clear wzc wzf wzs wzz wz1 wz2 wyc wyf wys wyz wyy wy1 wxc wxf wxs wxz wxy wac waf was waz way hA hB hC hW
  clear wzh wyh wxh wah
  generalize wx.heap.size = b1 at K ⊢
  generalize wy.heap.size = b2 at K ⊢
  obtain ⟨K0, K1, K2, K3, K4, K5, K6⟩ := K
  with_reducible refine (hE _).mono ?_
  rintro e wp ⟨rfl, wph⟩
  have G2 := Lib.hid (Gr.trans G.out wph)
  replace K0 := wph.keep K0
  replace K1 := wph.keep K1
  replace K2 := wph.keep K2
  replace K3 := wph.keep K3
  replace K4 := wph.keep K4
  replace K5 := wph.keep K5
  replace K6 := wph.keep K6
  clear wph G
  go_wp2_with (go_at_call 24; with_reducible refine (hE _).mono ?_; rintro e wq ⟨rfl, wqh⟩; have G3 := Lib.hid (Gr.trans G2.out wqh); replace K0 := wqh.keep K0; replace K1 := wqh.keep K1; replace K2 := wqh.keep K2; replace K3 := wqh.keep K3; replace K4 := wqh.keep K4; replace K5 := wqh.keep K5; replace K6 := wqh.keep K6; clear wqh)
  go_ret
  exact ⟨by simp [hS], G3.out⟩
set_option maxHeartbeats 2000000 in
set_option maxRecDepth 100000 in
theorem coreMr (l sc n s m r : Int) (half : Bool) (NA NB : Int)
    (SA SB : ByteArray) 
    (hW : ∀ w, Calls Try.prog 13 #[] w fun e w' => e = .returned (.bool true) ∧ Gr w w')
    (hA : ∀ w, Calls Try.prog 28 #[.agg #[.int .i64 n, .int .i64 s], .agg #[.int .i64 2, .int .i64 l, .int .i64 sc], .bool half] w fun e w' => e = .returned (.tuple #[.agg #[.int .i64 NA, .string ⟨#[]⟩], .int .i64 (0)]) ∧ Gr w w')
    (hB : ∀ w, Calls Try.prog 28 #[.agg #[.int .i64 m, .int .i64 r], .agg #[.int .i64 2, .int .i64 l, .int .i64 sc], .bool half] w fun e w' => e = .returned (.tuple #[.agg #[.int .i64 NB, .string ⟨#[]⟩], .int .i64 (0)]) ∧ Gr w w')
    (hC : ∀ w, Calls Try.prog 36 #[.agg #[.int .i64 n, .int .i64 s], .agg #[.int .i64 m, .int .i64 r]] w fun e w' => e = .returned (.tuple #[.int .i64 (1), .int .i64 (0)]) ∧ Gr w w')
    (hE : ∀ w, Calls Try.prog 24 #[.agg #[.int .i64 2, .int .i64 l, .int .i64 sc], .agg #[.int .i64 NA, .string ⟨#[]⟩]] w fun e w' => e = .returned (.tuple #[.string SA, .int .i64 0]) ∧ Gr w w')
    (hF : ∀ w, Calls Try.prog 24 #[.agg #[.int .i64 2, .int .i64 l, .int .i64 sc], .agg #[.int .i64 NB, .string ⟨#[]⟩]] w fun e w' => e = .returned (.tuple #[.string SB, .int .i64 0]) ∧ Gr w w')
    (hS : Op.bytesLess SA.toList SB.toList = decide (NA < NB))
    (g : ¬ NA < NB) (g' : decide (NA < NB) = false) (h0 : ¬ NA < 0) (h1 : decide (NA < 0) = false) (h2 : ¬ NB < 0) (h3 : decide (NB < 0) = false) (w : World) :
    Calls Try.prog 10 #[.agg #[.int .i64 2, .int .i64 l, .int .i64 sc], .agg #[.int .i64 n, .int .i64 s, .int .i64 m, .int .i64 r], .bool half] w fun e w' => e = .returned (.bool true) ∧ Gr w w' := by
  go_enter Try.func10, Try.ntmps10
  go_wp2_with (first | (go_at_call 13; with_reducible refine (hW _).mono ?_; rintro e wa ⟨rfl, wah⟩; obtain ⟨wac, waf⟩ := wah.cells; have was := wah.size; (try simp at was); have waz : w.heap.size + 1 < wa.heap.size := (by omega); have way : w.heap.size < wa.heap.size := (by omega)) | ((go_at_call 28; with_reducible refine (hA _).mono ?_; rintro e wx ⟨rfl, wxh⟩; obtain ⟨wxc, wxf⟩ := wxh.cells; have wxs := wxh.size; (try simp at wxs); have wxz : w.heap.size + 1 < wx.heap.size := (by omega); have wxy : w.heap.size < wx.heap.size := (by omega))) | ((go_at_call 28; with_reducible refine (hB _).mono ?_; rintro e wy ⟨rfl, wyh⟩; obtain ⟨wyc, wyf⟩ := wyh.cells; have wys := wyh.size; (try simp at wys); have wyz : w.heap.size + 1 < wy.heap.size := (by omega); have wyy : w.heap.size < wy.heap.size := (by omega)); have wy1 : wx.heap.size < wy.heap.size := by omega) | ((go_at_call 36; with_reducible refine (hC _).mono ?_; rintro e wz ⟨rfl, wzh⟩; obtain ⟨wzc, wzf⟩ := wzh.cells; have wzs := wzh.size; (try simp at wzs); have wzz : w.heap.size + 1 < wz.heap.size := (by omega); have wzy : w.heap.size < wz.heap.size := (by omega)); have wz1 : wx.heap.size < wz.heap.size := (by omega); have wz2 : wy.heap.size < wz.heap.size := (by omega)))
  have K : wz.cell? ⟨(w.heap.size), 0, none⟩ = some (.int .i64 2) ∧ wz.cell? ⟨(w.heap.size), 1, none⟩ = some (.int .i64 l) ∧ wz.cell? ⟨(w.heap.size), 2, none⟩ = some (.int .i64 sc) ∧ wz.cell? ⟨(wx.heap.size), 0, none⟩ = some (.int .i64 NA) ∧ wz.cell? ⟨(wx.heap.size), 1, none⟩ = some (.string ⟨#[]⟩) ∧ wz.cell? ⟨(wy.heap.size), 0, none⟩ = some (.int .i64 NB) ∧ wz.cell? ⟨(wy.heap.size), 1, none⟩ = some (.string ⟨#[]⟩) := by
    refine ⟨?_, ?_, ?_, ?_, ?_, ?_, ?_⟩ <;> simp [*, go_sem]
  have G := Lib.hid ((by repeat (first | exact Gr.refl _ | assumption | refine Gr.alloc ?_ _ | refine Gr.drew ?_ | refine Gr.drewN ?_ _ | refine Gr.setCell ?_ (by simp <;> omega) _ | refine Gr.trans ?_ (by assumption))) : Gr w wz)
  clear wzc wzf wzs wzz wz1 wz2 wyc wyf wys wyz wyy wy1 wxc wxf wxs wxz wxy wac waf was waz way hA hB hC hW
  clear wzh wyh wxh wah
  generalize wx.heap.size = b1 at K ⊢
  generalize wy.heap.size = b2 at K ⊢
  obtain ⟨K0, K1, K2, K3, K4, K5, K6⟩ := K
  with_reducible refine (hE _).mono ?_
  rintro e wp ⟨rfl, wph⟩
  have G2 := Lib.hid (Gr.trans G.out wph)
  replace K0 := wph.keep K0
  replace K1 := wph.keep K1
  replace K2 := wph.keep K2
  replace K3 := wph.keep K3
  replace K4 := wph.keep K4
  replace K5 := wph.keep K5
  replace K6 := wph.keep K6
  clear wph G
  go_wp2_with (go_at_call 24; with_reducible refine (hF _).mono ?_; rintro e wq ⟨rfl, wqh⟩; have G3 := Lib.hid (Gr.trans G2.out wqh); replace K0 := wqh.keep K0; replace K1 := wqh.keep K1; replace K2 := wqh.keep K2; replace K3 := wqh.keep K3; replace K4 := wqh.keep K4; replace K5 := wqh.keep K5; replace K6 := wqh.keep K6; clear wqh)
  go_ret
  exact ⟨by simp [hS], G3.out⟩
end Go.Proofs.Ytnjkoogghhckmaa.lawOrders
