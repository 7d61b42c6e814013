/- NumericTypes: for every data type and every value the law returns true; no condition. -/
import Derived.Test.YtfnlmkloagpnhaaR
import Derived.OpenShut
import Derived.Lib.SmallJoins
namespace Go.Proofs.Ytfnlmkloagpnhaa.lawTypes
set_option linter.unusedSimpArgs false
set_option linter.unusedVariables false
open Go.Proofs.Ytfnlmkloagpnhaa
open Go.ChangeShapes Go.WideShapes Go.ChangeAt Go.RowKit Go.Joins
open Go.ChangeMaps (open_string shut_string)
set_option linter.unusedVariables false

def szI (k l s : Int) : Int := if typeErr k l s = 0 then sizeI k l else 0
theorem SizeOf_sz (k l s : Int) (w : World) :
    Calls Try.prog 14 #[.agg #[.int .i64 k, .int .i64 l, .int .i64 s]] w fun e w' => e = .returned (.tuple #[.int .i64 (szI k l s), .int .i64 (typeErr k l s)]) ∧ Gr w w' := SizeOf_any k l s w

set_option maxHeartbeats 2000000 in
set_option maxRecDepth 100000 in
theorem law (k l s n : Int) (x : ByteArray) (_wk : (Lit.int .i64 k).wf = true) (_wl : (Lit.int .i64 l).wf = true) (_ws : (Lit.int .i64 s).wf = true) (_wn : (Lit.int .i64 n).wf = true) (hx : x.size ≤ maxLen) (w : World) :
    Calls Try.prog 3 #[.agg #[.int .i64 k, .int .i64 l, .int .i64 s], .agg #[.int .i64 n, .string x]] w fun e w' => e = .returned (.bool true) ∧ Gr w w' := by
  unfold maxLen at hx
  by_cases h7 : (700 : Int) < x.size
  · go_enter Try.func3, Try.ntmps3
    go_wp2_with (first | (go_at_call 13; refine (awake_any _).mono ?_; rintro e w1 ⟨rfl, hb⟩; obtain ⟨hc, hf⟩ := hb.cells; have hz : w.heap.size + 1 < w1.heap.size := (by have h := hb.size; (try simp at h); omega); have hz0 : w.heap.size < w1.heap.size := by omega))
    go_ret
    exact ⟨rfl, (by repeat (first | exact Gr.refl _ | assumption | refine Gr.alloc ?_ _ | refine Gr.drew ?_ | refine Gr.drewN ?_ _ | refine Gr.setCell ?_ (by simp <;> omega) _ | refine Gr.trans ?_ (by assumption)))⟩
  · by_cases ht : typeErr k l s = 0
    · obtain ⟨l0, l1⟩ := typeErr_l ht
      have l3 : k = 3 → l = 4 ∨ l = 9 := by
        rintro rfl
        have h' : rightLen 3 l = true := by
          by_cases e : rightLen 3 l = true
          · exact e
          · exfalso; simp [typeErr, e] at ht
        simpa [rightLen] using h'
      have hS := Size_any k l s l0 l1 l3
      have s0 : szI k l s = sizeI k l := by simp [szI, ht]
      have hA := SizeOf_sz k l s
      have hB := LeastOf_any k l s
      have hC := GreatestOf_any k l s
      rw [s0, ht] at hA
      by_cases k4 : k = 4
      · have hk4 : (k == 4) = true := by simp [k4]
        have v1 : vdErr k l s = 17 := by simp only [vdErr, first0, ht, pick, hk4]; simp
        have n1 : leastN k l s = 0 := by simp [leastN, v1]
        have n2 : mostN k l s = 0 := by simp [mostN, v1]
        have e1 : edgeS k l s 0 = ⟨#[]⟩ := by simp [edgeS, v1]
        have e2 : edgeS k l s 255 = ⟨#[]⟩ := by simp [edgeS, v1]
        rw [n1, e1, v1] at hB
        rw [n2, e2, v1] at hC
        have hT := TypeErr_any k l s
        have hD := CheckType_any k l s
        have hV := CheckValue_any k l s n x
        have hW := ValueErr_any k l s n x
        obtain ⟨ve, hve⟩ : ∃ ve, valErr k l s n x = ve := ⟨_, rfl⟩
        rw [hve] at hV hW
        clear hve
        have vv : (ve != ve) = false := by simp
        rw [ht] at hT hD
        obtain ⟨z, hz⟩ : ∃ z, sizeI k l = z := ⟨_, rfl⟩
        rw [hz] at hA hS
        clear hz ht s0 n1 n2 e1 e2 v1 l3 l0 l1 k4
        have zz : (z != z) = false := by simp
        go_enter Try.func3, Try.ntmps3
        go_wp2_with (first | (go_at_call 13; refine (awake_any _).mono ?_; rintro e wa ⟨rfl, wah⟩; obtain ⟨wac, waf⟩ := wah.cells; have was := wah.size; (try simp at was); have waz : w.heap.size + 1 < wa.heap.size := (by omega); have way : w.heap.size < wa.heap.size := (by omega)) | (go_at_call 14; refine (hA _).mono ?_; rintro e ws ⟨rfl, wsh⟩; obtain ⟨wsc, wsf⟩ := wsh.cells; have wss := wsh.size; (try simp at wss); have wsz : w.heap.size + 1 < ws.heap.size := (by omega); have wsy : w.heap.size < ws.heap.size := (by omega)) | (go_at_call 15; refine (hB _).mono ?_; rintro e wl ⟨rfl, wlh⟩; obtain ⟨wlc, wlf⟩ := wlh.cells; have wls := wlh.size; (try simp at wls); have wlz : w.heap.size + 1 < wl.heap.size := (by omega); have wly : w.heap.size < wl.heap.size := (by omega)) | ((go_at_call 16; refine (hC _).mono ?_; rintro e wg ⟨rfl, wgh⟩; obtain ⟨wgc, wgf⟩ := wgh.cells; have wgs := wgh.size; (try simp at wgs); have wgz : w.heap.size + 1 < wg.heap.size := (by omega); have wgy : w.heap.size < wg.heap.size := (by omega)); have wgl : wl.heap.size < wg.heap.size := by omega) | ((go_at_call 17; refine (hT _).mono ?_; rintro e wt ⟨rfl, wth⟩; obtain ⟨wtc, wtf⟩ := wth.cells; have wts := wth.size; (try simp at wts); have wtz : w.heap.size + 1 < wt.heap.size := (by omega); have wty : w.heap.size < wt.heap.size := (by omega)); have wtl : wl.heap.size < wt.heap.size := (by omega); have wtg : wg.heap.size < wt.heap.size := (by omega)))
        have K : wt.cell? ⟨w.heap.size, 0, none⟩ = some (.int .i64 k) ∧ wt.cell? ⟨w.heap.size, 1, none⟩ = some (.int .i64 l) ∧ wt.cell? ⟨w.heap.size, 2, none⟩ = some (.int .i64 s) ∧ wt.cell? ⟨w.heap.size + 1, 0, none⟩ = some (.int .i64 n) ∧ wt.cell? ⟨w.heap.size + 1, 1, none⟩ = some (.string x) ∧ wt.cell? ⟨wl.heap.size, 0, none⟩ = some (.int .i64 0) ∧ wt.cell? ⟨wl.heap.size, 1, none⟩ = some (.string ⟨#[]⟩) ∧ wt.cell? ⟨wg.heap.size, 0, none⟩ = some (.int .i64 0) ∧ wt.cell? ⟨wg.heap.size, 1, none⟩ = some (.string ⟨#[]⟩) := by
          refine ⟨?_, ?_, ?_, ?_, ?_, ?_, ?_, ?_, ?_⟩ <;> simp [*, go_sem]
        have G : Gr w wt := (by repeat (first | exact Gr.refl _ | assumption | refine Gr.alloc ?_ _ | refine Gr.drew ?_ | refine Gr.drewN ?_ _ | refine Gr.setCell ?_ (by simp <;> omega) _ | refine Gr.trans ?_ (by assumption)))
        clear wtc wtf wts wtz wty wtl wtg wgc wgf wgs wgz wgy wgl wlc wlf wls wlz wly wsc wsf wss wsz wsy wac waf was waz way hA hB hC hT
        clear wth wgh wlh wsh wah
        generalize wl.heap.size = b1 at K ⊢
        generalize wg.heap.size = b2 at K ⊢
        obtain ⟨K0, K1, K2, K3, K4, K5, K6, K7, K8⟩ := K
        go_region_held3 (fun w' => w'.cell? ⟨w.heap.size, 0, none⟩ = some (.int .i64 k) ∧ w'.cell? ⟨w.heap.size, 1, none⟩ = some (.int .i64 l) ∧ w'.cell? ⟨w.heap.size, 2, none⟩ = some (.int .i64 s) ∧ w'.cell? ⟨w.heap.size + 1, 0, none⟩ = some (.int .i64 n) ∧ w'.cell? ⟨w.heap.size + 1, 1, none⟩ = some (.string x) ∧ w'.cell? ⟨b1, 0, none⟩ = some (.int .i64 0) ∧ w'.cell? ⟨b1, 1, none⟩ = some (.string ⟨#[]⟩) ∧ w'.cell? ⟨b2, 0, none⟩ = some (.int .i64 0) ∧ w'.cell? ⟨b2, 1, none⟩ = some (.string ⟨#[]⟩)) (first | (go_keep; done) | ((try go_split_ands); (repeat' apply And.intro) <;> ((try simp only [World.cell?_drew]); first | assumption | (refine hb.keep ?_; (try simp only [World.cell?_drew]); first | assumption | (simp [*, go_sem]; done)) | (simp [*, go_sem]; done)))) (first | (go_at_call 18; refine (hD _).mono ?_; rintro e wc ⟨rfl, hb⟩; have wch := Lib.hid hb) | (go_at_call 19; refine (hV _).mono ?_; rintro e wd ⟨rfl, hb⟩; have wdh := Lib.hid hb) | (go_at_call 20; refine (hW _).mono ?_; rintro e we ⟨rfl, hb⟩; have weh := Lib.hid hb))
        have hk : ∀ p v, wt.cell? p = some v → we.cell? p = some v := fun p v h => weh.out.keep (wdh.out.keep (wch.out.keep (by simpa using h)))
        have G2 := Lib.hid ((by repeat (first | exact Gr.refl _ | assumption | refine Gr.alloc ?_ _ | refine Gr.drew ?_ | refine Gr.drewN ?_ _ | refine Gr.setCell ?_ (by simp <;> omega) _ | refine Gr.trans ?_ (by assumption))) : Gr w we)
        replace K0 := hk _ _ K0
        replace K1 := hk _ _ K1
        replace K2 := hk _ _ K2
        replace K3 := hk _ _ K3
        replace K4 := hk _ _ K4
        replace K5 := hk _ _ K5
        replace K6 := hk _ _ K6
        replace K7 := hk _ _ K7
        replace K8 := hk _ _ K8
        clear hk hb weh wdh wch G hD hV hW
        go_wp2_with ((go_at_call 21; refine (hS _).mono ?_; rintro e wz ⟨rfl, hb⟩; have wzh := Lib.hid hb); replace K0 := hb.keep (by simpa using K0); replace K1 := hb.keep (by simpa using K1); replace K2 := hb.keep (by simpa using K2); replace K3 := hb.keep (by simpa using K3); replace K4 := hb.keep (by simpa using K4); replace K5 := hb.keep (by simpa using K5); replace K6 := hb.keep (by simpa using K6); replace K7 := hb.keep (by simpa using K7); replace K8 := hb.keep (by simpa using K8))
        have G := G2.out
        have G4 := Lib.hid ((by repeat (first | exact Gr.refl _ | assumption | refine Gr.alloc ?_ _ | refine Gr.drew ?_ | refine Gr.drewN ?_ _ | refine Gr.setCell ?_ (by simp <;> omega) _ | refine Gr.trans ?_ (by assumption))) : Gr w wz)
        clear G G2 hS hb wzh
        go_wp2
        have G3 := G4.out
        go_ret
        exact ⟨rfl, (by repeat (first | exact Gr.refl _ | assumption | refine Gr.alloc ?_ _ | refine Gr.drew ?_ | refine Gr.drewN ?_ _ | refine Gr.setCell ?_ (by simp <;> omega) _ | refine Gr.trans ?_ (by assumption)))⟩
      · have hk4 : (k == 4) = false := by simp [k4]
        have v1 : vdErr k l s = 0 := by simp only [vdErr, first0, ht, pick, hk4]; simp
        have hL := refLeast_any k l s v1
        have hG := refGreatest_any k l s v1
        rw [v1] at hB hC
        obtain ⟨ln, n1⟩ : ∃ z, leastN k l s = z := ⟨_, rfl⟩
        obtain ⟨gn, n2⟩ : ∃ z, mostN k l s = z := ⟨_, rfl⟩
        obtain ⟨ls, e1⟩ : ∃ z, edgeS k l s 0 = z := ⟨_, rfl⟩
        obtain ⟨gs, e2⟩ : ∃ z, edgeS k l s 255 = z := ⟨_, rfl⟩
        rw [n1, e1] at hB hL
        rw [n2, e2] at hC hG
        have hT := TypeErr_any k l s
        have hD := CheckType_any k l s
        have hV := CheckValue_any k l s n x
        have hW := ValueErr_any k l s n x
        obtain ⟨ve, hve⟩ : ∃ ve, valErr k l s n x = ve := ⟨_, rfl⟩
        rw [hve] at hV hW
        clear hve
        have vv : (ve != ve) = false := by simp
        rw [ht] at hT hD
        obtain ⟨z, hz⟩ : ∃ z, sizeI k l = z := ⟨_, rfl⟩
        rw [hz] at hA hS
        clear hz ht s0 n1 n2 e1 e2 v1 l3 l0 l1 k4
        have zz : (z != z) = false := by simp
        go_enter Try.func3, Try.ntmps3
        go_wp2_with (first | (go_at_call 13; refine (awake_any _).mono ?_; rintro e wa ⟨rfl, wah⟩; obtain ⟨wac, waf⟩ := wah.cells; have was := wah.size; (try simp at was); have waz : w.heap.size + 1 < wa.heap.size := (by omega); have way : w.heap.size < wa.heap.size := (by omega)) | (go_at_call 14; refine (hA _).mono ?_; rintro e ws ⟨rfl, wsh⟩; obtain ⟨wsc, wsf⟩ := wsh.cells; have wss := wsh.size; (try simp at wss); have wsz : w.heap.size + 1 < ws.heap.size := (by omega); have wsy : w.heap.size < ws.heap.size := (by omega)) | (go_at_call 15; refine (hB _).mono ?_; rintro e wl ⟨rfl, wlh⟩; obtain ⟨wlc, wlf⟩ := wlh.cells; have wls := wlh.size; (try simp at wls); have wlz : w.heap.size + 1 < wl.heap.size := (by omega); have wly : w.heap.size < wl.heap.size := (by omega)) | ((go_at_call 16; refine (hC _).mono ?_; rintro e wg ⟨rfl, wgh⟩; obtain ⟨wgc, wgf⟩ := wgh.cells; have wgs := wgh.size; (try simp at wgs); have wgz : w.heap.size + 1 < wg.heap.size := (by omega); have wgy : w.heap.size < wg.heap.size := (by omega)); have wgl : wl.heap.size < wg.heap.size := by omega) | ((go_at_call 17; refine (hT _).mono ?_; rintro e wt ⟨rfl, wth⟩; obtain ⟨wtc, wtf⟩ := wth.cells; have wts := wth.size; (try simp at wts); have wtz : w.heap.size + 1 < wt.heap.size := (by omega); have wty : w.heap.size < wt.heap.size := (by omega)); have wtl : wl.heap.size < wt.heap.size := (by omega); have wtg : wg.heap.size < wt.heap.size := (by omega)))
        have K : wt.cell? ⟨w.heap.size, 0, none⟩ = some (.int .i64 k) ∧ wt.cell? ⟨w.heap.size, 1, none⟩ = some (.int .i64 l) ∧ wt.cell? ⟨w.heap.size, 2, none⟩ = some (.int .i64 s) ∧ wt.cell? ⟨w.heap.size + 1, 0, none⟩ = some (.int .i64 n) ∧ wt.cell? ⟨w.heap.size + 1, 1, none⟩ = some (.string x) ∧ wt.cell? ⟨wl.heap.size, 0, none⟩ = some (.int .i64 ln) ∧ wt.cell? ⟨wl.heap.size, 1, none⟩ = some (.string ls) ∧ wt.cell? ⟨wg.heap.size, 0, none⟩ = some (.int .i64 gn) ∧ wt.cell? ⟨wg.heap.size, 1, none⟩ = some (.string gs) := by
          refine ⟨?_, ?_, ?_, ?_, ?_, ?_, ?_, ?_, ?_⟩ <;> simp [*, go_sem]
        have G : Gr w wt := (by repeat (first | exact Gr.refl _ | assumption | refine Gr.alloc ?_ _ | refine Gr.drew ?_ | refine Gr.drewN ?_ _ | refine Gr.setCell ?_ (by simp <;> omega) _ | refine Gr.trans ?_ (by assumption)))
        clear wtc wtf wts wtz wty wtl wtg wgc wgf wgs wgz wgy wgl wlc wlf wls wlz wly wsc wsf wss wsz wsy wac waf was waz way hA hB hC hT
        clear wth wgh wlh wsh wah
        generalize wl.heap.size = b1 at K ⊢
        generalize wg.heap.size = b2 at K ⊢
        obtain ⟨K0, K1, K2, K3, K4, K5, K6, K7, K8⟩ := K
        go_region_held3 (fun w' => w'.cell? ⟨w.heap.size, 0, none⟩ = some (.int .i64 k) ∧ w'.cell? ⟨w.heap.size, 1, none⟩ = some (.int .i64 l) ∧ w'.cell? ⟨w.heap.size, 2, none⟩ = some (.int .i64 s) ∧ w'.cell? ⟨w.heap.size + 1, 0, none⟩ = some (.int .i64 n) ∧ w'.cell? ⟨w.heap.size + 1, 1, none⟩ = some (.string x) ∧ w'.cell? ⟨b1, 0, none⟩ = some (.int .i64 ln) ∧ w'.cell? ⟨b1, 1, none⟩ = some (.string ls) ∧ w'.cell? ⟨b2, 0, none⟩ = some (.int .i64 gn) ∧ w'.cell? ⟨b2, 1, none⟩ = some (.string gs)) (first | (go_keep; done) | ((try go_split_ands); (repeat' apply And.intro) <;> ((try simp only [World.cell?_drew]); first | assumption | (refine hb.keep ?_; (try simp only [World.cell?_drew]); first | assumption | (simp [*, go_sem]; done)) | (simp [*, go_sem]; done)))) (first | (go_at_call 18; refine (hD _).mono ?_; rintro e wc ⟨rfl, hb⟩; have wch := Lib.hid hb) | (go_at_call 19; refine (hV _).mono ?_; rintro e wd ⟨rfl, hb⟩; have wdh := Lib.hid hb) | (go_at_call 20; refine (hW _).mono ?_; rintro e we ⟨rfl, hb⟩; have weh := Lib.hid hb))
        have hk : ∀ p v, wt.cell? p = some v → we.cell? p = some v := fun p v h => weh.out.keep (wdh.out.keep (wch.out.keep (by simpa using h)))
        have G2 := Lib.hid ((by repeat (first | exact Gr.refl _ | assumption | refine Gr.alloc ?_ _ | refine Gr.drew ?_ | refine Gr.drewN ?_ _ | refine Gr.setCell ?_ (by simp <;> omega) _ | refine Gr.trans ?_ (by assumption))) : Gr w we)
        replace K0 := hk _ _ K0
        replace K1 := hk _ _ K1
        replace K2 := hk _ _ K2
        replace K3 := hk _ _ K3
        replace K4 := hk _ _ K4
        replace K5 := hk _ _ K5
        replace K6 := hk _ _ K6
        replace K7 := hk _ _ K7
        replace K8 := hk _ _ K8
        clear hk hb weh wdh wch G hD hV hW
        go_wp2_with ((go_at_call 21; refine (hS _).mono ?_; rintro e wz ⟨rfl, hb⟩; have wzh := Lib.hid hb); replace K0 := hb.keep (by simpa using K0); replace K1 := hb.keep (by simpa using K1); replace K2 := hb.keep (by simpa using K2); replace K3 := hb.keep (by simpa using K3); replace K4 := hb.keep (by simpa using K4); replace K5 := hb.keep (by simpa using K5); replace K6 := hb.keep (by simpa using K6); replace K7 := hb.keep (by simpa using K7); replace K8 := hb.keep (by simpa using K8))
        have G := G2.out
        have G4 := Lib.hid ((by repeat (first | exact Gr.refl _ | assumption | refine Gr.alloc ?_ _ | refine Gr.drew ?_ | refine Gr.drewN ?_ _ | refine Gr.setCell ?_ (by simp <;> omega) _ | refine Gr.trans ?_ (by assumption))) : Gr w wz)
        clear G G2 hS hb wzh
        go_region_held3 (fun w' => w'.cell? ⟨w.heap.size, 0, none⟩ = some (.int .i64 k) ∧ w'.cell? ⟨w.heap.size, 1, none⟩ = some (.int .i64 l) ∧ w'.cell? ⟨w.heap.size, 2, none⟩ = some (.int .i64 s) ∧ w'.cell? ⟨w.heap.size + 1, 0, none⟩ = some (.int .i64 n) ∧ w'.cell? ⟨w.heap.size + 1, 1, none⟩ = some (.string x) ∧ w'.cell? ⟨b1, 0, none⟩ = some (.int .i64 ln) ∧ w'.cell? ⟨b1, 1, none⟩ = some (.string ls) ∧ w'.cell? ⟨b2, 0, none⟩ = some (.int .i64 gn) ∧ w'.cell? ⟨b2, 1, none⟩ = some (.string gs)) (first | (go_keep; done) | ((try go_split_ands); (repeat' apply And.intro) <;> ((try simp only [World.cell?_drew]); first | assumption | (refine hb.keep ?_; (try simp only [World.cell?_drew]); first | assumption | (simp [*, go_sem]; done)) | (simp [*, go_sem]; done)))) (first | (go_at_call 22; refine (hL _).mono ?_; rintro e wx ⟨rfl, hb⟩; have wxh := Lib.hid hb) | (go_at_call 23; refine (hG _).mono ?_; rintro e wy ⟨rfl, hb⟩; have wyh := Lib.hid hb))
        have G3 := G4.out
        go_wp2
        go_ret
        exact ⟨rfl, (by repeat (first | exact Gr.refl _ | assumption | refine Gr.alloc ?_ _ | refine Gr.drew ?_ | refine Gr.drewN ?_ _ | refine Gr.setCell ?_ (by simp <;> omega) _ | refine Gr.trans ?_ (by assumption)))⟩
    · have s0 : szI k l s = 0 := by simp [szI, ht]
      have v1 : vdErr k l s = typeErr k l s := by simp [vdErr, first0, ht]
      have n1 : leastN k l s = 0 := by simp [leastN, v1, ht]
      have n2 : mostN k l s = 0 := by simp [mostN, v1, ht]
      have e1 : edgeS k l s 0 = ⟨#[]⟩ := by simp [edgeS, v1, ht]
      have e2 : edgeS k l s 255 = ⟨#[]⟩ := by simp [edgeS, v1, ht]
      have t0 : (typeErr k l s == 0) = false := by simp [ht]
      have t1 : (typeErr k l s != 0) = true := by simp [ht]
      have hA := SizeOf_sz k l s
      have hB := LeastOf_any k l s
      have hC := GreatestOf_any k l s
      rw [s0] at hA
      rw [n1, e1, v1] at hB
      rw [n2, e2, v1] at hC
      have hT := TypeErr_any k l s
      have hD := CheckType_any k l s
      have hV := CheckValue_any k l s n x
      have hW := ValueErr_any k l s n x
      obtain ⟨ve, hve⟩ : ∃ ve, valErr k l s n x = ve := ⟨_, rfl⟩
      rw [hve] at hV hW
      clear hve
      have vv : (ve != ve) = false := by simp
      obtain ⟨c, hc⟩ : ∃ c, typeErr k l s = c := ⟨_, rfl⟩
      rw [hc] at t0 t1 hA hB hC hT hD
      clear hc ht s0 n1 n2 e1 e2 v1
      have cc : (c != c) = false := by simp
      go_enter Try.func3, Try.ntmps3
      go_wp2_with (first | (go_at_call 13; refine (awake_any _).mono ?_; rintro e wa ⟨rfl, wah⟩; obtain ⟨wac, waf⟩ := wah.cells; have was := wah.size; (try simp at was); have waz : w.heap.size + 1 < wa.heap.size := (by omega); have way : w.heap.size < wa.heap.size := (by omega)) | (go_at_call 14; refine (hA _).mono ?_; rintro e ws ⟨rfl, wsh⟩; obtain ⟨wsc, wsf⟩ := wsh.cells; have wss := wsh.size; (try simp at wss); have wsz : w.heap.size + 1 < ws.heap.size := (by omega); have wsy : w.heap.size < ws.heap.size := (by omega)) | (go_at_call 15; refine (hB _).mono ?_; rintro e wl ⟨rfl, wlh⟩; obtain ⟨wlc, wlf⟩ := wlh.cells; have wls := wlh.size; (try simp at wls); have wlz : w.heap.size + 1 < wl.heap.size := (by omega); have wly : w.heap.size < wl.heap.size := (by omega)) | ((go_at_call 16; refine (hC _).mono ?_; rintro e wg ⟨rfl, wgh⟩; obtain ⟨wgc, wgf⟩ := wgh.cells; have wgs := wgh.size; (try simp at wgs); have wgz : w.heap.size + 1 < wg.heap.size := (by omega); have wgy : w.heap.size < wg.heap.size := (by omega)); have wgl : wl.heap.size < wg.heap.size := by omega) | ((go_at_call 17; refine (hT _).mono ?_; rintro e wt ⟨rfl, wth⟩; obtain ⟨wtc, wtf⟩ := wth.cells; have wts := wth.size; (try simp at wts); have wtz : w.heap.size + 1 < wt.heap.size := (by omega); have wty : w.heap.size < wt.heap.size := (by omega)); have wtl : wl.heap.size < wt.heap.size := (by omega); have wtg : wg.heap.size < wt.heap.size := (by omega)))
      have K : wt.cell? ⟨w.heap.size, 0, none⟩ = some (.int .i64 k) ∧ wt.cell? ⟨w.heap.size, 1, none⟩ = some (.int .i64 l) ∧ wt.cell? ⟨w.heap.size, 2, none⟩ = some (.int .i64 s) ∧ wt.cell? ⟨w.heap.size + 1, 0, none⟩ = some (.int .i64 n) ∧ wt.cell? ⟨w.heap.size + 1, 1, none⟩ = some (.string x) ∧ wt.cell? ⟨wl.heap.size, 0, none⟩ = some (.int .i64 0) ∧ wt.cell? ⟨wl.heap.size, 1, none⟩ = some (.string ⟨#[]⟩) ∧ wt.cell? ⟨wg.heap.size, 0, none⟩ = some (.int .i64 0) ∧ wt.cell? ⟨wg.heap.size, 1, none⟩ = some (.string ⟨#[]⟩) := by
        refine ⟨?_, ?_, ?_, ?_, ?_, ?_, ?_, ?_, ?_⟩ <;> simp [*, go_sem]
      have G : Gr w wt := (by repeat (first | exact Gr.refl _ | assumption | refine Gr.alloc ?_ _ | refine Gr.drew ?_ | refine Gr.drewN ?_ _ | refine Gr.setCell ?_ (by simp <;> omega) _ | refine Gr.trans ?_ (by assumption)))
      clear wtc wtf wts wtz wty wtl wtg wgc wgf wgs wgz wgy wgl wlc wlf wls wlz wly wsc wsf wss wsz wsy wac waf was waz way hA hB hC hT
      clear wth wgh wlh wsh wah
      generalize wl.heap.size = b1 at K ⊢
      generalize wg.heap.size = b2 at K ⊢
      obtain ⟨K0, K1, K2, K3, K4, K5, K6, K7, K8⟩ := K
      go_region_held3 (fun w' => w'.cell? ⟨w.heap.size, 0, none⟩ = some (.int .i64 k) ∧ w'.cell? ⟨w.heap.size, 1, none⟩ = some (.int .i64 l) ∧ w'.cell? ⟨w.heap.size, 2, none⟩ = some (.int .i64 s) ∧ w'.cell? ⟨w.heap.size + 1, 0, none⟩ = some (.int .i64 n) ∧ w'.cell? ⟨w.heap.size + 1, 1, none⟩ = some (.string x) ∧ w'.cell? ⟨b1, 0, none⟩ = some (.int .i64 0) ∧ w'.cell? ⟨b1, 1, none⟩ = some (.string ⟨#[]⟩) ∧ w'.cell? ⟨b2, 0, none⟩ = some (.int .i64 0) ∧ w'.cell? ⟨b2, 1, none⟩ = some (.string ⟨#[]⟩)) (first | (go_keep; done) | ((try go_split_ands); (repeat' apply And.intro) <;> ((try simp only [World.cell?_drew]); first | assumption | (refine hb.keep ?_; (try simp only [World.cell?_drew]); first | assumption | (simp [*, go_sem]; done)) | (simp [*, go_sem]; done)))) (first | (go_at_call 18; refine (hD _).mono ?_; rintro e wc ⟨rfl, hb⟩; have wch := Lib.hid hb) | (go_at_call 19; refine (hV _).mono ?_; rintro e wd ⟨rfl, hb⟩; have wdh := Lib.hid hb) | (go_at_call 20; refine (hW _).mono ?_; rintro e we ⟨rfl, hb⟩; have weh := Lib.hid hb))
      have hk : ∀ p v, wt.cell? p = some v → we.cell? p = some v := fun p v h => weh.out.keep (wdh.out.keep (wch.out.keep (by simpa using h)))
      have G2 := Lib.hid ((by repeat (first | exact Gr.refl _ | assumption | refine Gr.alloc ?_ _ | refine Gr.drew ?_ | refine Gr.drewN ?_ _ | refine Gr.setCell ?_ (by simp <;> omega) _ | refine Gr.trans ?_ (by assumption))) : Gr w we)
      replace K0 := hk _ _ K0
      replace K1 := hk _ _ K1
      replace K2 := hk _ _ K2
      replace K3 := hk _ _ K3
      replace K4 := hk _ _ K4
      replace K5 := hk _ _ K5
      replace K6 := hk _ _ K6
      replace K7 := hk _ _ K7
      replace K8 := hk _ _ K8
      clear hk hb weh wdh wch G hD hV hW
      go_wp2
      have G3 := G2.out
      go_ret
      exact ⟨rfl, (by repeat (first | exact Gr.refl _ | assumption | refine Gr.alloc ?_ _ | refine Gr.drew ?_ | refine Gr.drewN ?_ _ | refine Gr.setCell ?_ (by simp <;> omega) _ | refine Gr.trans ?_ (by assumption)))⟩

theorem own : ownKnob Try.prog.godebug = none := by kernel_rfl
theorem cells_dt : Try.prog.cellsOf 23 = 3 := by kernel_rfl
theorem cells_vl : Try.prog.cellsOf 25 = 2 := by kernel_rfl
set_option maxRecDepth 100000 in
theorem lifted (os : Os) (started : os.Started) (H : Type) (enc : TypeId × Value → H) :
    ReturnsInHanded {} Try.checked os 3 .any (Rows.numericTypesSpec.pre6 enc Try.prog Try.f3 Rows.numericTypesRow.domain false) (Rows.numericTypesSpec.post enc Try.prog Try.f3 false true false false) := by
  refine returnsInHanded_of_change (C := Try.checked) own started (by kernel_rfl) Try.func3
    (ChangeSpec.witness6 (enc := enc) (C := Try.checked) false ⟨#[], #[.agg #[.int .i64 0, .int .i64 0, .int .i64 0], .agg #[.int .i64 0, .string ⟨#[]⟩]], []⟩ 8 (by kernel_rfl) (by kernel_rfl) (by kernel_rfl) (by kernel_rfl)) ?_
  intro W base args ds gs before hval0 hW hcnd _
  have hval : ∀ (j : Nat) t v, Try.f3.params[j]? = some t → args[j]? = some v → Value.okWide Try.prog W .any base t v := hval0
  have hW' := hW
  obtain ⟨p, q, hA0, hV, rfl, hfz, hnd⟩ := hW
  have hA : DataW.TrodAll enc Try.prog W 0 (fun _ => true) true Try.f3.params.toList args.toList ds p := hA0
  rw [Try.params3] at hA hval
  obtain ⟨v0, vs0, d0, ds0, p0, q0, hargs, rfl, rfl, h0, r0⟩ := trodAll_cons hA
  obtain ⟨v1, vs1, d1, ds1, p1, q1, rfl, rfl, rfl, h1, r1⟩ := trodAll_cons r0
  obtain ⟨rfl, rfl, rfl⟩ := trodAll_nil r1
  obtain rfl : args = #[v0, v1] := by cases args; simp_all
  obtain ⟨rfl, rfl⟩ := trodVars_none hV
  obtain ⟨c00, c01, c02, y00, y01, y02, m0, rfl, rfl, rfl, g00, g01, g02⟩ := open_agg3 Try.underlying23 (by kernel_rfl) cells_dt (hval 0 23 v0 rfl rfl) h0
  obtain ⟨a00, e00, rfl, w00⟩ := DataW.trod_int Try.underlying3 g00
  obtain ⟨a01, e01, rfl, w01⟩ := DataW.trod_int Try.underlying3 g01
  obtain ⟨a02, e02, rfl, w02⟩ := DataW.trod_int Try.underlying3 g02
  simp at e00 e01 e02
  subst e00 e01 e02
  obtain ⟨c10, c11, y10, y11, m1, rfl, rfl, rfl, g10, g11⟩ := open_agg2 Try.underlying25 (by kernel_rfl) cells_vl (hval 1 25 v1 rfl rfl) h1
  obtain ⟨a10, e10, rfl, w10⟩ := DataW.trod_int Try.underlying3 g10
  obtain ⟨a11, e11, rfl, w11⟩ := DataW.trod_string Try.underlying9 g11
  simp at e10 e11
  subst e10 e11
  clear hA0 hval0
  simp only [List.append_nil] at hW'
  refine (law a00 a01 a02 a10 a11 w00 w01 w02 w10 w11 W).mono fun e W' ⟨he, hg⟩ => ?_
  subst he
  have hB : Below W.heap.size W W' := hg
  exact ⟨_, rfl, _, _, _, [], [], [], hW', (trodAll_cons_mk (shut_bool Try.underlying4 _) trodAll_mk0), (trodAll_cons_mk (shut_agg3 (y0 := (.lit (.int .i64 a00), [])) (y1 := (.lit (.int .i64 a01), [])) (y2 := (.lit (.int .i64 a02), [])) Try.underlying23 (by kernel_rfl) cells_dt ⟨1, by simp [DataW.trod, Try.underlying3, w00]⟩ ⟨1, by simp [DataW.trod, Try.underlying3, w01]⟩ ⟨1, by simp [DataW.trod, Try.underlying3, w02]⟩) (trodAll_cons_mk (shut_agg2 (y0 := (.lit (.int .i64 a10), [])) (y1 := (.lit (.string a11.data.toList), [])) Try.underlying25 (by kernel_rfl) cells_vl ⟨1, by simp [DataW.trod, Try.underlying3, w10]⟩ ⟨1, by simp [DataW.trod, Try.underlying9, w11]⟩) trodAll_mk0)), rfl, hB.frame _, fun h => by cases h⟩

theorem proved : Rows.NumericTypesSaid :=
  OpenClaim.holds_of_wide 3 Try.f3 rfl rfl rfl rfl rfl rfl rfl ⟨rfl, rfl, rfl, rfl, rfl⟩ rfl rfl rfl rfl rfl (by kernel_rfl) Try.func3 (by kernel_rfl)
    (of_decide_eq_true (by kernel_rfl)) (by unfold Func.isWrapper; first | (rw [if_pos (by decide +kernel)]; kernel_rfl) | (rw [if_neg (by decide +kernel)]; exact ⟨rfl, rfl⟩))
    (fun os started H enc _ => lifted os started H enc)

end Go.Proofs.Ytfnlmkloagpnhaa.lawTypes
