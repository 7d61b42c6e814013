/- Texts of the walks, merged. -/
import Derived.Test.YtmdpejllbalnnaaDoorQ15
namespace Go.Proofs.YtmdpejllbalnnaaDoor
set_option linter.unusedSimpArgs false
set_option linter.unusedVariables false
open Go.RowKit

/-- The parts' cells in block g, writable. -/
def PaC (g : Nat) (body st stop : Int) (ast : Bool) (wx : World) : Prop :=
  (wx.cell? ⟨g, 0, none⟩ = some (.int .i64 body) ∧ wx.cell? ⟨g, 1, none⟩ = some (.int .i64 st) ∧ wx.cell? ⟨g, 2, none⟩ = some (.int .i64 stop) ∧ wx.cell? ⟨g, 3, none⟩ = some (.bool ast)) ∧
  (wx.frozen? ⟨g, 0, none⟩ = false ∧ wx.frozen? ⟨g, 1, none⟩ = false ∧ wx.frozen? ⟨g, 2, none⟩ = false ∧ wx.frozen? ⟨g, 3, none⟩ = false)
theorem PaC.gr {g : Nat} {body st stop : Int} {ast : Bool} {a b : World} (h : PaC g body st stop ast a) (G : Gr a b) (hg : g < a.heap.size) : PaC g body st stop ast b := by
  obtain ⟨⟨c0, c1, c2, c3⟩, ⟨f0, f1, f2, f3⟩⟩ := h
  exact ⟨⟨G.keep c0, G.keep c1, G.keep c2, G.keep c3⟩, ⟨((G.cells).2 _ _ hg).trans f0, ((G.cells).2 _ _ hg).trans f1, ((G.cells).2 _ _ hg).trans f2, ((G.cells).2 _ _ hg).trans f3⟩⟩
def PaW (w : World) (body stop : Int) (ast : Bool) (wx : World) : Prop := PaC w.heap.size 0 0 0 false wx ∧ PaC (w.heap.size + 1) body (-1) stop ast wx ∧ Gr w wx ∧ w.heap.size + 1 < wx.heap.size
theorem stsF_step (T : List UInt8) (b n : Nat) (h : sbL (T.drop b) = []) : stsF T b (n + 1) = stsF T (b + 1) n := by
  rw [stsF, if_neg (by simp [h])]
theorem stsF_hit (T : List UInt8) (b n : Nat) (h : sbL (T.drop b) ≠ []) : stsF T b (n + 1) = b := by
  rw [stsF, if_pos h]
theorem sb_ne (T : List UInt8) : (BL (sbL T) != (⟨#[]⟩ : ByteArray)) = decide (sbL T ≠ []) := by
  unfold sbL
  split
  · rfl
  · split <;> rfl
theorem PaW.gr {w : World} {body stop : Int} {ast : Bool} {a b : World} (h : PaW w body stop ast a) (G : Gr a b) : PaW w body stop ast b :=
  ⟨h.1.gr G (by have := h.2.2.2; omega), h.2.1.gr G h.2.2.2, h.2.2.1.trans G, by have := h.2.2.2; have := Gr.size G; omega⟩
set_option maxHeartbeats 8000000 in
theorem partsOf_none (T : List UInt8) (F M B : Int) (b : Nat) (w : World) (hT : T.length ≤ 100) (hb' : B = b) (hbT : b ≤ T.length)
    (hI : ∀ w, Calls Tryd.prog 22 #[.string (BL T), .string ⟨#[48, 42]⟩] w fun e w' => e = .returned (.int .i64 F) ∧ Gr w w')
    (hL : ∀ w, Calls Tryd.prog 23 #[.string (BL T), .int .u8 32] w fun e w' => e = .returned (.int .i64 M) ∧ w = w') (b1 : decide (0 ≤ F) = false) (hB : IntKind.i64.wrap (max M (-1) + 1) = B) :
    Calls Tryd.prog 14 #[.string (BL T)] w fun e w' => e = .returned (.agg #[.int .i64 B, .int .i64 (stsF T b (T.length - b)), .int .i64 (-1), .bool false]) ∧ Gr w w' := by
  have hSt := fun (q : Nat) (h : q ≤ T.length) => statusAt_any T (q : Int) q rfl h
  have hsz : (BL T).size = T.length := BL_size T
  have hne := fun q => sb_ne (T.drop q)
  obtain ⟨X, hX⟩ : ∃ X, BL T = X := ⟨_, rfl⟩
  rw [hX] at hSt hsz hI hL
  rw [hX]
  have HS := Lib.hid hSt
  have HN := Lib.hid hne
  have HB := Lib.hid hb'
  clear hSt hne hX hb'
  go_enter Tryd.func14, Tryd.ntmps14
  go_wp2_with ((go_at_call 22; (with_reducible refine (hI _).mono ?_); rintro e w1 ⟨rfl, hb⟩; obtain ⟨hc, hf⟩ := gcells hb (w.heap.size + 2) (by first | exact hz | omega | (simp; done) | (simp; omega)); have hz : w.heap.size + 2 ≤ w1.heap.size := (by have h := hb.size; (try simp at h); omega); have hz0 : w.heap.size < w1.heap.size := (by omega)))
  have GW : Gr w w1 := Gr.trans ((Gr.alloc (Gr.alloc (Gr.refl w) _) _)) hb
  have P0 : PaC w.heap.size 0 0 0 false w1 := PaC.gr (a := ((w.alloc (.cells #[.int .i64 0, .int .i64 0, .int .i64 0, .bool false] 24)).alloc (.cells #[.int .i64 0, .int .i64 (-1), .int .i64 (-1), .bool false] 24))) ⟨⟨by simp [go_sem], by simp [go_sem], by simp [go_sem], by simp [go_sem]⟩, ⟨by simp [go_sem], by simp [go_sem], by simp [go_sem], by simp [go_sem]⟩⟩ hb (by simp <;> omega)
  have P1 : PaC (w.heap.size + 1) 0 (-1) (-1) false w1 := PaC.gr (a := ((w.alloc (.cells #[.int .i64 0, .int .i64 0, .int .i64 0, .bool false] 24)).alloc (.cells #[.int .i64 0, .int .i64 (-1), .int .i64 (-1), .bool false] 24))) ⟨⟨by simp [go_sem], by simp [go_sem], by simp [go_sem], by simp [go_sem]⟩, ⟨by simp [go_sem], by simp [go_sem], by simp [go_sem], by simp [go_sem]⟩⟩ hb (by simp <;> omega)
  obtain ⟨⟨r0, r1, r2, r3⟩, ⟨s0, s1, s2, s3⟩⟩ := P0
  obtain ⟨⟨d0, d1, d2, d3⟩, ⟨g0, g1, g2, g3⟩⟩ := P1
  have hz2 : w.heap.size + 1 < w1.heap.size := by omega
  clear hc hf hb hz
  go_cut [] (fun wx => PaW w B (-1) false wx)
  case first =>
    go_region_with ((go_at_call 23; (with_reducible refine (hL _).mono ?_); rintro e w1 ⟨rfl, rfl⟩))
    all_goals
      go_wp2_with fail
      go_meet
      refine ⟨⟨⟨?_, ?_, ?_, ?_⟩, ⟨?_, ?_, ?_, ?_⟩⟩, ⟨⟨?_, ?_, ?_, ?_⟩, ⟨?_, ?_, ?_, ?_⟩⟩, (by repeat (first | (with_reducible exact Gr.refl _) | (with_reducible assumption) | (with_reducible refine Gr.alloc ?_ _) | (with_reducible refine Gr.drew ?_) | (with_reducible refine Gr.drewN ?_ _) | (with_reducible refine Gr.setCell ?_ (by simp <;> omega) _) | (with_reducible refine Gr.trans ?_ (by with_reducible assumption)) | exact Gr.refl _ | assumption | refine Gr.alloc ?_ _ | refine Gr.drew ?_ | refine Gr.drewN ?_ _ | refine Gr.setCell ?_ (by simp <;> omega) _ | refine Gr.trans ?_ (by assumption))), ?_⟩
      all_goals ((try simp only [World.cell?_drew, World.frozen?_drew, World.size_drew]); simp [go_sem, *])
  case rest =>
    have QW := Lib.hid hcut
    obtain ⟨-, ⟨⟨m0, -, -, -⟩, -⟩, -, -⟩ := hcut
    clear r0 r1 r2 r3 s0 s1 s2 s3 d0 d1 d2 d3 g0 g1 g2 g3 GW
    go_wp2
    clear m0
    go_loopw [5] (fun v wr => ∃ q : Nat, b ≤ q ∧ q ≤ T.length ∧ v = .int .i64 q ∧ Hid (stsF T b (T.length - b) = stsF T q (T.length - q)) ∧ Hid (PaW w B (-1) false wr)) (fun v _ => T.length - (intOf v).toNat)
    case atStart => exact ⟨b, Nat.le_refl _, hbT, by rw [HB.out], Lib.hid rfl, QW⟩
    case round =>
      obtain ⟨q, h1, h2, rfl, hE, hP⟩ := hrel
      have hs5 := hP.out.2.2.2
      by_cases hlt : q < T.length
      · have hS := HS.out q h2
        have hn := HN.out q
        by_cases e : sbL (T.drop q) = []
        · have b2 : (BL (sbL (T.drop q))).toList.isEmpty = true := by rw [isEmpty_size, BL_size]; simp [e]
          have E2 := Lib.hid (show stsF T b (T.length - b) = stsF T (q + 1) (T.length - (q + 1)) by
            rw [hE.out, show T.length - q = (T.length - (q + 1)) + 1 by omega, stsF_step T q _ e])
          clear hn e
          generalize BL (sbL (T.drop q)) = U at *
          go_wp2_with (go_at_call 24; (with_reducible refine (hS _).mono ?_); rintro e w5 ⟨rfl, hb5⟩)
          exact ⟨⟨q + 1, by omega, by omega, by go_num, E2, Lib.hid (hP.out.gr hb5)⟩, by simp [intOf]; omega⟩
        · have b2 : (BL (sbL (T.drop q))).toList.isEmpty = false := by rw [isEmpty_size, BL_size]; simp [e]
          have E2 := Lib.hid (show stsF T b (T.length - b) = q by
            rw [hE.out, show T.length - q = (T.length - (q + 1)) + 1 by omega, stsF_hit T q _ e])
          clear hn e
          generalize BL (sbL (T.drop q)) = U at *
          go_wp2_with (go_at_call 24; (with_reducible refine (hS _).mono ?_); rintro e w5 ⟨rfl, hb5⟩; obtain ⟨⟨⟨r0, r1, r2, r3⟩, ⟨s0, s1, s2, s3⟩⟩, ⟨⟨d0, d1, d2, d3⟩, ⟨g0, g1, g2, g3⟩⟩, G5, hz5⟩ := hP.out.gr hb5)
          exact bodyPost_ret (v := .agg #[.int .i64 B, .int .i64 q, .int .i64 (-1), .bool false]) (by simp [results, Tryd.results14, go_sem, *]) rfl ⟨by rw [E2.out], (by (repeat (first | with_reducible refine Gr.setCell ?_ (by simp <;> omega) _ | with_reducible refine Gr.drew ?_ | with_reducible refine Gr.drewN ?_ _ | with_reducible refine Gr.alloc ?_ _)); first | (with_reducible exact Gr.refl _) | (with_reducible assumption) | exact (by repeat (first | (with_reducible exact Gr.refl _) | (with_reducible assumption) | (with_reducible refine Gr.alloc ?_ _) | (with_reducible refine Gr.drew ?_) | (with_reducible refine Gr.drewN ?_ _) | (with_reducible refine Gr.setCell ?_ (by simp <;> omega) _) | (with_reducible refine Gr.trans ?_ (by with_reducible assumption)) | exact Gr.refl _ | assumption | refine Gr.alloc ?_ _ | refine Gr.drew ?_ | refine Gr.drewN ?_ _ | refine Gr.setCell ?_ (by simp <;> omega) _ | refine Gr.trans ?_ (by assumption))))⟩
      · obtain ⟨⟨⟨r0, r1, r2, r3⟩, ⟨s0, s1, s2, s3⟩⟩, ⟨⟨d0, d1, d2, d3⟩, ⟨g0, g1, g2, g3⟩⟩, G, hz2⟩ := hP.out
        have E2 := Lib.hid (show stsF T b (T.length - b) = -1 by
            rw [hE.out, show T.length - q = 0 by omega]; rfl)
        go_wp2
        exact bodyPost_ret (v := .agg #[.int .i64 B, .int .i64 (-1), .int .i64 (-1), .bool false]) (by simp [results, Tryd.results14, go_sem, *]) rfl ⟨by rw [E2.out], (by (repeat (first | with_reducible refine Gr.setCell ?_ (by simp <;> omega) _ | with_reducible refine Gr.drew ?_ | with_reducible refine Gr.drewN ?_ _ | with_reducible refine Gr.alloc ?_ _)); first | (with_reducible exact Gr.refl _) | (with_reducible assumption) | exact (by repeat (first | (with_reducible exact Gr.refl _) | (with_reducible assumption) | (with_reducible refine Gr.alloc ?_ _) | (with_reducible refine Gr.drew ?_) | (with_reducible refine Gr.drewN ?_ _) | (with_reducible refine Gr.setCell ?_ (by simp <;> omega) _) | (with_reducible refine Gr.trans ?_ (by with_reducible assumption)) | exact Gr.refl _ | assumption | refine Gr.alloc ?_ _ | refine Gr.drew ?_ | refine Gr.drewN ?_ _ | refine Gr.setCell ?_ (by simp <;> omega) _ | refine Gr.trans ?_ (by assumption))))⟩
set_option maxHeartbeats 8000000 in
theorem partsOf_some (T : List UInt8) (F M B : Int) (b : Nat) (p : Nat) (ast : Bool) (w : World) (hT : T.length ≤ 100) (hb' : B = b) (hbT : b ≤ T.length)
    (hI : ∀ w, Calls Tryd.prog 22 #[.string (BL T), .string ⟨#[48, 42]⟩] w fun e w' => e = .returned (.int .i64 F) ∧ Gr w w')
    (hL : ∀ w, Calls Tryd.prog 23 #[.string (BL T), .int .u8 32] w fun e w' => e = .returned (.int .i64 M) ∧ w = w') (hF : F = p) (hp : p < T.length) (hast : (((dAt T p).toNat : Int) == 42) = ast) (hB : IntKind.i64.wrap (max M (p : Int) + 1) = B) :
    Calls Tryd.prog 14 #[.string (BL T)] w fun e w' => e = .returned (.agg #[.int .i64 B, .int .i64 (stsF T b (T.length - b)), .int .i64 p, .bool ast]) ∧ Gr w w' := by
  have hSt := fun (q : Nat) (h : q ≤ T.length) => statusAt_any T (q : Int) q rfl h
  subst hF
  have hby : ∀ h : p < (BL T).size, (((BL T)[p]'h).toNat : Int) = ((dAt T p).toNat : Int) := fun h => by rw [BL_at]
  have hsz : (BL T).size = T.length := BL_size T
  have hne := fun q => sb_ne (T.drop q)
  obtain ⟨X, hX⟩ : ∃ X, BL T = X := ⟨_, rfl⟩
  rw [hX] at hSt hsz hI hL hby
  rw [hX]
  have HS := Lib.hid hSt
  have HN := Lib.hid hne
  have HB := Lib.hid hb'
  clear hSt hne hX hb'
  have hqx : p < X.size := by omega
  have hby2 := hby hqx
  have b1 : decide ((0 : Int) ≤ (p : Int)) = true := by simp
  clear hby
  generalize ((dAt T p).toNat : Int) = y at *
  go_enter Tryd.func14, Tryd.ntmps14
  go_wp2_with ((go_at_call 22; (with_reducible refine (hI _).mono ?_); rintro e w1 ⟨rfl, hb⟩; obtain ⟨hc, hf⟩ := gcells hb (w.heap.size + 2) (by first | exact hz | omega | (simp; done) | (simp; omega)); have hz : w.heap.size + 2 ≤ w1.heap.size := (by have h := hb.size; (try simp at h); omega); have hz0 : w.heap.size < w1.heap.size := (by omega)))
  have GW : Gr w w1 := Gr.trans ((Gr.alloc (Gr.alloc (Gr.refl w) _) _)) hb
  have P0 : PaC w.heap.size 0 0 0 false w1 := PaC.gr (a := ((w.alloc (.cells #[.int .i64 0, .int .i64 0, .int .i64 0, .bool false] 24)).alloc (.cells #[.int .i64 0, .int .i64 (-1), .int .i64 (-1), .bool false] 24))) ⟨⟨by simp [go_sem], by simp [go_sem], by simp [go_sem], by simp [go_sem]⟩, ⟨by simp [go_sem], by simp [go_sem], by simp [go_sem], by simp [go_sem]⟩⟩ hb (by simp <;> omega)
  have P1 : PaC (w.heap.size + 1) 0 (-1) (-1) false w1 := PaC.gr (a := ((w.alloc (.cells #[.int .i64 0, .int .i64 0, .int .i64 0, .bool false] 24)).alloc (.cells #[.int .i64 0, .int .i64 (-1), .int .i64 (-1), .bool false] 24))) ⟨⟨by simp [go_sem], by simp [go_sem], by simp [go_sem], by simp [go_sem]⟩, ⟨by simp [go_sem], by simp [go_sem], by simp [go_sem], by simp [go_sem]⟩⟩ hb (by simp <;> omega)
  obtain ⟨⟨r0, r1, r2, r3⟩, ⟨s0, s1, s2, s3⟩⟩ := P0
  obtain ⟨⟨d0, d1, d2, d3⟩, ⟨g0, g1, g2, g3⟩⟩ := P1
  have hz2 : w.heap.size + 1 < w1.heap.size := by omega
  clear hc hf hb hz
  go_region
  go_wp2_with fail
  go_cut [] (fun wx => PaW w B p ast wx)
  case first =>
    go_region_with ((go_at_call 23; (with_reducible refine (hL _).mono ?_); rintro e w1 ⟨rfl, rfl⟩))
    all_goals
      go_wp2_with fail
      go_meet
      refine ⟨⟨⟨?_, ?_, ?_, ?_⟩, ⟨?_, ?_, ?_, ?_⟩⟩, ⟨⟨?_, ?_, ?_, ?_⟩, ⟨?_, ?_, ?_, ?_⟩⟩, (by repeat (first | (with_reducible exact Gr.refl _) | (with_reducible assumption) | (with_reducible refine Gr.alloc ?_ _) | (with_reducible refine Gr.drew ?_) | (with_reducible refine Gr.drewN ?_ _) | (with_reducible refine Gr.setCell ?_ (by simp <;> omega) _) | (with_reducible refine Gr.trans ?_ (by with_reducible assumption)) | exact Gr.refl _ | assumption | refine Gr.alloc ?_ _ | refine Gr.drew ?_ | refine Gr.drewN ?_ _ | refine Gr.setCell ?_ (by simp <;> omega) _ | refine Gr.trans ?_ (by assumption))), ?_⟩
      all_goals ((try simp only [World.cell?_drew, World.frozen?_drew, World.size_drew]); simp [go_sem, *])
  case rest =>
    have QW := Lib.hid hcut
    obtain ⟨-, ⟨⟨m0, -, -, -⟩, -⟩, -, -⟩ := hcut
    clear r0 r1 r2 r3 s0 s1 s2 s3 d0 d1 d2 d3 g0 g1 g2 g3 GW
    go_wp2
    clear m0
    go_loopw [5] (fun v wr => ∃ q : Nat, b ≤ q ∧ q ≤ T.length ∧ v = .int .i64 q ∧ Hid (stsF T b (T.length - b) = stsF T q (T.length - q)) ∧ Hid (PaW w B p ast wr)) (fun v _ => T.length - (intOf v).toNat)
    case atStart => exact ⟨b, Nat.le_refl _, hbT, by rw [HB.out], Lib.hid rfl, QW⟩
    case round =>
      obtain ⟨q, h1, h2, rfl, hE, hP⟩ := hrel
      have hs5 := hP.out.2.2.2
      by_cases hlt : q < T.length
      · have hS := HS.out q h2
        have hn := HN.out q
        by_cases e : sbL (T.drop q) = []
        · have b2 : (BL (sbL (T.drop q))).toList.isEmpty = true := by rw [isEmpty_size, BL_size]; simp [e]
          have E2 := Lib.hid (show stsF T b (T.length - b) = stsF T (q + 1) (T.length - (q + 1)) by
            rw [hE.out, show T.length - q = (T.length - (q + 1)) + 1 by omega, stsF_step T q _ e])
          clear hn e
          generalize BL (sbL (T.drop q)) = U at *
          go_wp2_with (go_at_call 24; (with_reducible refine (hS _).mono ?_); rintro e w5 ⟨rfl, hb5⟩)
          exact ⟨⟨q + 1, by omega, by omega, by go_num, E2, Lib.hid (hP.out.gr hb5)⟩, by simp [intOf]; omega⟩
        · have b2 : (BL (sbL (T.drop q))).toList.isEmpty = false := by rw [isEmpty_size, BL_size]; simp [e]
          have E2 := Lib.hid (show stsF T b (T.length - b) = q by
            rw [hE.out, show T.length - q = (T.length - (q + 1)) + 1 by omega, stsF_hit T q _ e])
          clear hn e
          generalize BL (sbL (T.drop q)) = U at *
          go_wp2_with (go_at_call 24; (with_reducible refine (hS _).mono ?_); rintro e w5 ⟨rfl, hb5⟩; obtain ⟨⟨⟨r0, r1, r2, r3⟩, ⟨s0, s1, s2, s3⟩⟩, ⟨⟨d0, d1, d2, d3⟩, ⟨g0, g1, g2, g3⟩⟩, G5, hz5⟩ := hP.out.gr hb5)
          exact bodyPost_ret (v := .agg #[.int .i64 B, .int .i64 q, .int .i64 p, .bool ast]) (by simp [results, Tryd.results14, go_sem, *]) rfl ⟨by rw [E2.out], (by (repeat (first | with_reducible refine Gr.setCell ?_ (by simp <;> omega) _ | with_reducible refine Gr.drew ?_ | with_reducible refine Gr.drewN ?_ _ | with_reducible refine Gr.alloc ?_ _)); first | (with_reducible exact Gr.refl _) | (with_reducible assumption) | exact (by repeat (first | (with_reducible exact Gr.refl _) | (with_reducible assumption) | (with_reducible refine Gr.alloc ?_ _) | (with_reducible refine Gr.drew ?_) | (with_reducible refine Gr.drewN ?_ _) | (with_reducible refine Gr.setCell ?_ (by simp <;> omega) _) | (with_reducible refine Gr.trans ?_ (by with_reducible assumption)) | exact Gr.refl _ | assumption | refine Gr.alloc ?_ _ | refine Gr.drew ?_ | refine Gr.drewN ?_ _ | refine Gr.setCell ?_ (by simp <;> omega) _ | refine Gr.trans ?_ (by assumption))))⟩
      · obtain ⟨⟨⟨r0, r1, r2, r3⟩, ⟨s0, s1, s2, s3⟩⟩, ⟨⟨d0, d1, d2, d3⟩, ⟨g0, g1, g2, g3⟩⟩, G, hz2⟩ := hP.out
        have E2 := Lib.hid (show stsF T b (T.length - b) = -1 by
            rw [hE.out, show T.length - q = 0 by omega]; rfl)
        go_wp2
        exact bodyPost_ret (v := .agg #[.int .i64 B, .int .i64 (-1), .int .i64 p, .bool ast]) (by simp [results, Tryd.results14, go_sem, *]) rfl ⟨by rw [E2.out], (by (repeat (first | with_reducible refine Gr.setCell ?_ (by simp <;> omega) _ | with_reducible refine Gr.drew ?_ | with_reducible refine Gr.drewN ?_ _ | with_reducible refine Gr.alloc ?_ _)); first | (with_reducible exact Gr.refl _) | (with_reducible assumption) | exact (by repeat (first | (with_reducible exact Gr.refl _) | (with_reducible assumption) | (with_reducible refine Gr.alloc ?_ _) | (with_reducible refine Gr.drew ?_) | (with_reducible refine Gr.drewN ?_ _) | (with_reducible refine Gr.setCell ?_ (by simp <;> omega) _) | (with_reducible refine Gr.trans ?_ (by with_reducible assumption)) | exact Gr.refl _ | assumption | refine Gr.alloc ?_ _ | refine Gr.drew ?_ | refine Gr.drewN ?_ _ | refine Gr.setCell ?_ (by simp <;> omega) _ | refine Gr.trans ?_ (by assumption))))⟩
end Go.Proofs.YtmdpejllbalnnaaDoor
