/- Texts of the walks, merged. -/
import Derived.Test.YtnaflaokhldfnaaQ21
import Derived.Test.YtnaflaokhldfnaaQ20
namespace Go.Proofs.Ytnaflaokhldfnaa
set_option linter.unusedSimpArgs false
set_option linter.unusedVariables false
open Go.RowKit

theorem bx_new' {a : World} {t : TypeId} {c : Array Value} {vs : List Value} {g : Nat} (h : a.heap.size = g) (hc : c.toList = vs) : Bx (a.alloc (.cells c t)) g t vs := by subst h hc; exact Bx.new a t c
theorem bx_alloc {a : World} {o : Obj} {t : TypeId} {vs : List Value} {g : Nat} (h : Bx a g t vs) : Bx (a.alloc o) g t vs := h.gr ((Gr.refl _).alloc _)
theorem zx_alloc {a : World} {o : Obj} {g : Nat} (h : Zx a g) : Zx (a.alloc o) g := h.gr ((Gr.refl _).alloc _)
theorem bx_far {a : World} {t : TypeId} {vs : List Value} {g k o : Nat} {v : Value} (h : Bx a g t vs) (hne : g ≠ k) : Bx (a.setCell ⟨k, o, none⟩ v) g t vs := h.other _ _ hne
theorem zx_far {a : World} {g k o : Nat} {v : Value} (h : Zx a g) (hne : g ≠ k) : Zx (a.setCell ⟨k, o, none⟩ v) g := Bx.other h _ _ hne
theorem bx_pute {a : World} {g : Nat} {b : Bool} {a0 a1 a2 u0 u1 u2 : Nat} {S : Int} (h : Zx a g) : Bx (((((((((a).setCell ⟨g, 0, none⟩ (.bool b)).setCell ⟨g, 1, none⟩ (.int .u64 ((a0 : Nat) : Int))).setCell ⟨g, 2, none⟩ (.int .u64 ((a1 : Nat) : Int))).setCell ⟨g, 3, none⟩ (.int .u64 ((a2 : Nat) : Int))).setCell ⟨g, 4, none⟩ (.int .u64 ((u0 : Nat) : Int))).setCell ⟨g, 5, none⟩ (.int .u64 ((u1 : Nat) : Int))).setCell ⟨g, 6, none⟩ (.int .u64 ((u2 : Nat) : Int))).setCell ⟨g, 7, none⟩ (.int .i64 S)) g 71 [.bool b, .int .u64 ((a0 : Nat) : Int), .int .u64 ((a1 : Nat) : Int), .int .u64 ((a2 : Nat) : Int), .int .u64 ((u0 : Nat) : Int), .int .u64 ((u1 : Nat) : Int), .int .u64 ((u2 : Nat) : Int), .int .i64 S] := Bx.pute h rfl b a0 a1 a2 u0 u1 u2 S
/-- The two results behind their stores. -/
def RmC (w : World) (b1 b2 : Bool) (a0 a1 a2 c0 c1 c2 u0 u1 u2 : Nat) (S : Int) (s6 s7 : Value) (W : World) : Prop :=
  ∃ g h, s6 = .pointer (some ⟨g, 0, none⟩) ∧ s7 = .pointer (some ⟨h, 0, none⟩) ∧ g ≠ h ∧ w.heap.size ≤ g ∧ w.heap.size ≤ h ∧ Bx W g 71 [.bool b1, .int .u64 ((a0 : Nat) : Int), .int .u64 ((a1 : Nat) : Int), .int .u64 ((a2 : Nat) : Int), .int .u64 ((u0 : Nat) : Int), .int .u64 ((u1 : Nat) : Int), .int .u64 ((u2 : Nat) : Int), .int .i64 S] ∧ Bx W h 71 [.bool b2, .int .u64 ((c0 : Nat) : Int), .int .u64 ((c1 : Nat) : Int), .int .u64 ((c2 : Nat) : Int), .int .u64 ((u0 : Nat) : Int), .int .u64 ((u1 : Nat) : Int), .int .u64 ((u2 : Nat) : Int), .int .i64 S] ∧ Gr w W

set_option maxHeartbeats 100000000 in
set_option maxRecDepth 100000 in
theorem rem_core (n s m t S : Int) (a0 a1 a2 c0 c1 c2 u0 u1 u2 n0 n1 n2 m0 m1 m2 p0 p1 p2 r0 r1 r2 : Nat) (hS : max s t = S)
    (hx : ∀ w, Calls Try.prog 38 #[.agg #[.int .i64 n, .int .i64 s]] w fun e w' => e = .returned (.agg #[.bool (decide (n < 0)), .int .u64 ((n0 : Nat) : Int), .int .u64 ((n1 : Nat) : Int), .int .u64 ((n2 : Nat) : Int), .int .u64 ((u0 : Nat) : Int), .int .u64 ((u1 : Nat) : Int), .int .u64 ((u2 : Nat) : Int), .int .i64 s]) ∧ Gr w w')
    (hy : ∀ w, Calls Try.prog 38 #[.agg #[.int .i64 m, .int .i64 t]] w fun e w' => e = .returned (.agg #[.bool (decide (m < 0)), .int .u64 ((m0 : Nat) : Int), .int .u64 ((m1 : Nat) : Int), .int .u64 ((m2 : Nat) : Int), .int .u64 ((u0 : Nat) : Int), .int .u64 ((u1 : Nat) : Int), .int .u64 ((u2 : Nat) : Int), .int .i64 t]) ∧ Gr w w')
    (hX : ∀ w, Calls Try.prog 92 #[(.agg #[.bool (decide (n < 0)), .int .u64 ((n0 : Nat) : Int), .int .u64 ((n1 : Nat) : Int), .int .u64 ((n2 : Nat) : Int), .int .u64 ((u0 : Nat) : Int), .int .u64 ((u1 : Nat) : Int), .int .u64 ((u2 : Nat) : Int), .int .i64 s]), .int .i64 S] w fun e w' => e = .returned (.agg #[.bool (decide (n < 0)), .int .u64 ((a0 : Nat) : Int), .int .u64 ((a1 : Nat) : Int), .int .u64 ((a2 : Nat) : Int), .int .u64 ((u0 : Nat) : Int), .int .u64 ((u1 : Nat) : Int), .int .u64 ((u2 : Nat) : Int), .int .i64 S]) ∧ Gr w w')
    (hY : ∀ w, Calls Try.prog 92 #[(.agg #[.bool (decide (m < 0)), .int .u64 ((m0 : Nat) : Int), .int .u64 ((m1 : Nat) : Int), .int .u64 ((m2 : Nat) : Int), .int .u64 ((u0 : Nat) : Int), .int .u64 ((u1 : Nat) : Int), .int .u64 ((u2 : Nat) : Int), .int .i64 t]), .int .i64 S] w fun e w' => e = .returned (.agg #[.bool (decide (m < 0)), .int .u64 ((c0 : Nat) : Int), .int .u64 ((c1 : Nat) : Int), .int .u64 ((c2 : Nat) : Int), .int .u64 ((u0 : Nat) : Int), .int .u64 ((u1 : Nat) : Int), .int .u64 ((u2 : Nat) : Int), .int .i64 S]) ∧ Gr w w')
    (hD : ∀ w, Calls Try.prog 60 #[.agg #[.int .u64 (a0 : Int), .int .u64 (a1 : Int), .int .u64 (a2 : Int)], .agg #[.int .u64 (c0 : Int), .int .u64 (c1 : Int), .int .u64 (c2 : Int)]] w fun e w' => e = .returned (.tuple #[.agg #[.int .u64 (p0 : Int), .int .u64 (p1 : Int), .int .u64 (p2 : Int)], .agg #[.int .u64 (r0 : Int), .int .u64 (r1 : Int), .int .u64 (r2 : Int)]]) ∧ Gr w w')
    (w : World) :
    Calls Try.prog 58 #[.agg #[.int .i64 n, .int .i64 s], .agg #[.int .i64 m, .int .i64 t]] w fun e w' => e = .returned (.agg #[.bool (decide (n < 0)), .int .u64 ((r0 : Nat) : Int), .int .u64 ((r1 : Nat) : Int), .int .u64 ((r2 : Nat) : Int), .int .u64 ((u0 : Nat) : Int), .int .u64 ((u1 : Nat) : Int), .int .u64 ((u2 : Nat) : Int), .int .i64 S]) ∧ Gr w w' := by
  go_enter Try.func58, Try.ntmps58
  go_wp2
  have q : ∀ W, W = ((w.alloc (.cells #[.int .i64 n, .int .i64 s] 27)).alloc (.cells #[.int .i64 m, .int .i64 t] 27)).alloc (.cells #[.bool false, .int .u64 0, .int .u64 0, .int .u64 0, .int .u64 0, .int .u64 0, .int .u64 0, .int .i64 0] 71) → (W.cell? ⟨w.heap.size, 0, none⟩ = some (.int .i64 n) ∧ W.cell? ⟨w.heap.size, 1, none⟩ = some (.int .i64 s) ∧ W.cell? ⟨w.heap.size + 1, 0, none⟩ = some (.int .i64 m) ∧ W.cell? ⟨w.heap.size + 1, 1, none⟩ = some (.int .i64 t) ∧ Zx W (w.heap.size + 1 + 1) ∧ Gr w W ∧ W.heap.size = w.heap.size + 1 + 1 + 1) := by
    rintro W rfl
    refine ⟨?_, ?_, ?_, ?_, ?_, (by repeat (first | (with_reducible exact Gr.refl _) | (with_reducible assumption) | (with_reducible refine Gr.alloc ?_ _) | (with_reducible refine Gr.drew ?_) | (with_reducible refine Gr.drewN ?_ _) | (with_reducible refine Gr.setCell ?_ (by simp <;> omega) _) | (with_reducible refine Gr.trans ?_ (by with_reducible assumption)) | exact Gr.refl _ | assumption | refine Gr.alloc ?_ _ | refine Gr.drew ?_ | refine Gr.drewN ?_ _ | refine Gr.setCell ?_ (by simp <;> omega) _ | refine Gr.trans ?_ (by assumption))), ?_⟩
    · simp [go_sem]
    · simp [go_sem]
    · simp [go_sem]
    · simp [go_sem]
    · have h := Bx.new ((w.alloc (.cells #[.int .i64 n, .int .i64 s] 27)).alloc (.cells #[.int .i64 m, .int .i64 t] 27)) 71 #[.bool false, .int .u64 0, .int .u64 0, .int .u64 0, .int .u64 0, .int .u64 0, .int .u64 0, .int .i64 0]
      simp only [World.size_alloc] at h
      exact h
    · simp
  obtain ⟨q0, q1, q2, q3, hZ, hG, hsz⟩ := q _ rfl
  have HG := Lib.hid hG
  have HZ := Lib.hid hZ
  have HSZ := Lib.hid hsz
  have HP := Lib.hid (fun (W : World) (h : Gr w W) => Gr.pute (b := w.heap.size + 1 + 1) h (by omega) (decide (n < 0)) r0 r1 r2 u0 u1 u2 S)
  have HW3 := Lib.hid (fun (W : World) (g : Nat) (hg : w.heap.size ≤ g) (h : Gr w W) (x y z : Value) => ((h.setCell (p := ⟨g, 1, none⟩) hg x).setCell (p := ⟨g, 2, none⟩) hg y).setCell (p := ⟨g, 3, none⟩) hg z)
  clear q hG hZ
  generalize ((w.alloc (.cells #[.int .i64 n, .int .i64 s] 27)).alloc (.cells #[.int .i64 m, .int .i64 t] 27)).alloc (.cells #[.bool false, .int .u64 0, .int .u64 0, .int .u64 0, .int .u64 0, .int .u64 0, .int .u64 0, .int .i64 0] 71) = W0 at *
  generalize w.heap.size = G at *
  go_cut [6, 7] (fun s6 s7 wx => RmC W0 (decide (n < 0)) (decide (m < 0)) a0 a1 a2 c0 c1 c2 u0 u1 u2 S s6 s7 wx)
  case first =>
    clear HP HW3
    go_region_held3 (fun w' => w'.cell? ⟨G, 0, none⟩ = some (.int .i64 n) ∧ w'.cell? ⟨G, 1, none⟩ = some (.int .i64 s) ∧ w'.cell? ⟨G + 1, 0, none⟩ = some (.int .i64 m) ∧ w'.cell? ⟨G + 1, 1, none⟩ = some (.int .i64 t)) (((try go_split_ands); (repeat' apply And.intro) <;> ((try simp only [World.cell?_drew]); first | (with_reducible assumption) | ((repeat (first | (with_reducible refine keep_far ?_ (by dsimp only; omega)) | (with_reducible refine (Gr.alloc (Gr.refl _) _).keep ?_))); (try simp only [World.cell?_drew]); first | (with_reducible assumption) | (refine hb.keep ?_; (try simp only [World.cell?_drew]); first | (with_reducible assumption) | ((repeat (with_reducible refine (Gr.alloc (Gr.refl _) _).keep ?_)); (try simp only [World.cell?_drew]); (with_reducible assumption))))))) (first
      | (go_at_call 38; (with_reducible refine (hx _).mono ?_); rintro e wA ⟨rfl, hb⟩; have hA := Lib.hid hb; have gA := Lib.hid (show Gr W0 wA from Gr.trans (by repeat (first | (with_reducible exact Gr.refl _) | (with_reducible assumption) | (with_reducible refine Gr.alloc ?_ _) | (with_reducible refine Gr.drew ?_) | (with_reducible refine Gr.drewN ?_ _) | (with_reducible refine Gr.setCell ?_ (by simp <;> omega) _) | (with_reducible refine Gr.trans ?_ (by with_reducible assumption)) | exact Gr.refl _ | assumption | refine Gr.alloc ?_ _ | refine Gr.drew ?_ | refine Gr.drewN ?_ _ | refine Gr.setCell ?_ (by simp <;> omega) _ | refine Gr.trans ?_ (by assumption))) hb); have q0 := gA.out.keep q0; have q1 := gA.out.keep q1; have q2 := gA.out.keep q2; have q3 := gA.out.keep q3; have szA := gA.out.size; have syA := hA.out.size; (try simp only [World.size_alloc, World.size_drew, HSZ.out] at syA))
      | (go_at_call 38; (with_reducible refine (hy _).mono ?_); rintro e wC ⟨rfl, hb⟩; have hC := Lib.hid hb; have gBC := Lib.hid (show Gr wB wC from Gr.trans (by repeat (first | (with_reducible exact Gr.refl _) | (with_reducible assumption) | (with_reducible refine Gr.alloc ?_ _) | (with_reducible refine Gr.drew ?_) | (with_reducible refine Gr.drewN ?_ _) | (with_reducible refine Gr.setCell ?_ (by simp <;> omega) _) | (with_reducible refine Gr.trans ?_ (by with_reducible assumption)) | exact Gr.refl _ | assumption | refine Gr.alloc ?_ _ | refine Gr.drew ?_ | refine Gr.drewN ?_ _ | refine Gr.setCell ?_ (by simp <;> omega) _ | refine Gr.trans ?_ (by assumption))) hb); have q0 := gBC.out.keep q0; have q1 := gBC.out.keep q1; have q2 := gBC.out.keep q2; have q3 := gBC.out.keep q3; have szC := gBC.out.size; have syC := hC.out.size; (try simp only [World.size_alloc, World.size_drew] at syC))
      | (go_at_call 92; (with_reducible refine (hX _).mono ?_); rintro e wB ⟨rfl, hb⟩; have hB := Lib.hid hb; have gAB := Lib.hid (show Gr wA wB from Gr.trans (by repeat (first | (with_reducible exact Gr.refl _) | (with_reducible assumption) | (with_reducible refine Gr.alloc ?_ _) | (with_reducible refine Gr.drew ?_) | (with_reducible refine Gr.drewN ?_ _) | (with_reducible refine Gr.setCell ?_ (by simp <;> omega) _) | (with_reducible refine Gr.trans ?_ (by with_reducible assumption)) | exact Gr.refl _ | assumption | refine Gr.alloc ?_ _ | refine Gr.drew ?_ | refine Gr.drewN ?_ _ | refine Gr.setCell ?_ (by simp <;> omega) _ | refine Gr.trans ?_ (by assumption))) hb); have q0 := gAB.out.keep q0; have q1 := gAB.out.keep q1; have q2 := gAB.out.keep q2; have q3 := gAB.out.keep q3; have szB := gAB.out.size; have syB := hB.out.size; (try simp only [World.size_alloc, World.size_drew] at syB))
      | (go_at_call 92; (with_reducible refine (hY _).mono ?_); rintro e wD ⟨rfl, hb⟩; have hD := Lib.hid hb; have gCD := Lib.hid (show Gr wC wD from Gr.trans (by repeat (first | (with_reducible exact Gr.refl _) | (with_reducible assumption) | (with_reducible refine Gr.alloc ?_ _) | (with_reducible refine Gr.drew ?_) | (with_reducible refine Gr.drewN ?_ _) | (with_reducible refine Gr.setCell ?_ (by simp <;> omega) _) | (with_reducible refine Gr.trans ?_ (by with_reducible assumption)) | exact Gr.refl _ | assumption | refine Gr.alloc ?_ _ | refine Gr.drew ?_ | refine Gr.drewN ?_ _ | refine Gr.setCell ?_ (by simp <;> omega) _ | refine Gr.trans ?_ (by assumption))) hb); have q0 := gCD.out.keep q0; have q1 := gCD.out.keep q1; have q2 := gCD.out.keep q2; have q3 := gCD.out.keep q3; have szD := gCD.out.size; have syD := hD.out.size; (try simp only [World.size_alloc, World.size_drew] at syD);
          (try with_reducible have TA := (zx_kept hA.out).gr (gAB.out.trans (gBC.out.trans gCD.out))); (try simp only [World.size_alloc, World.size_drew, HSZ.out] at TA); (try with_reducible have TA := (zx_keptd hA.out).gr (gAB.out.trans (gBC.out.trans gCD.out))); (try simp only [World.size_alloc, World.size_drew, HSZ.out] at TA); (try with_reducible have UA := (zx_kept2 hA.out).gr (gAB.out.trans (gBC.out.trans gCD.out))); (try simp only [World.size_alloc, World.size_drew, HSZ.out] at UA); (try with_reducible have UA := (zx_kept2d hA.out).gr (gAB.out.trans (gBC.out.trans gCD.out))); (try simp only [World.size_alloc, World.size_drew, HSZ.out] at UA); (try with_reducible have TB := (zx_kept hB.out).gr (gBC.out.trans gCD.out)); (try simp only [World.size_alloc, World.size_drew] at TB); (try with_reducible have UB := (zx_kept2 hB.out).gr (gBC.out.trans gCD.out)); (try simp only [World.size_alloc, World.size_drew] at UB); (try with_reducible have TC := (zx_kept hC.out).gr (gCD.out)); (try simp only [World.size_alloc, World.size_drew] at TC); (try with_reducible have UC := (zx_kept2 hC.out).gr (gCD.out)); (try simp only [World.size_alloc, World.size_drew] at UC); (try with_reducible have TD := zx_kept hD.out); (try simp only [World.size_alloc, World.size_drew] at TD); (try with_reducible have UD := zx_kept2 hD.out); (try simp only [World.size_alloc, World.size_drew] at UD);  (try obtain ⟨ta0, ta1, ta2, ta3, ta4, ta5, ta6, ta7, tb0, tb1, tb2, tb3, tb4, tb5, tb6, tb7⟩ := TA.all); (try have lt := World.block_lt_of_cell? _ _ ta0); (try dsimp only at lt); (try obtain ⟨ua0, ua1, ua2, ua3, ua4, ua5, ua6, ua7, ub0, ub1, ub2, ub3, ub4, ub5, ub6, ub7⟩ := UA.all); (try have lu := World.block_lt_of_cell? _ _ ua0); (try dsimp only at lu); (try obtain ⟨va0, va1, va2, va3, va4, va5, va6, va7, vb0, vb1, vb2, vb3, vb4, vb5, vb6, vb7⟩ := TB.all); (try have lv := World.block_lt_of_cell? _ _ va0); (try dsimp only at lv); (try obtain ⟨wa0, wa1, wa2, wa3, wa4, wa5, wa6, wa7, wb0, wb1, wb2, wb3, wb4, wb5, wb6, wb7⟩ := UB.all); (try have lw := World.block_lt_of_cell? _ _ wa0); (try dsimp only at lw); (try obtain ⟨xa0, xa1, xa2, xa3, xa4, xa5, xa6, xa7, xb0, xb1, xb2, xb3, xb4, xb5, xb6, xb7⟩ := TC.all); (try have lx := World.block_lt_of_cell? _ _ xa0); (try dsimp only at lx); (try obtain ⟨ya0, ya1, ya2, ya3, ya4, ya5, ya6, ya7, yb0, yb1, yb2, yb3, yb4, yb5, yb6, yb7⟩ := UC.all); (try have ly := World.block_lt_of_cell? _ _ ya0); (try dsimp only at ly); (try obtain ⟨za0, za1, za2, za3, za4, za5, za6, za7, zb0, zb1, zb2, zb3, zb4, zb5, zb6, zb7⟩ := TD.all); (try have lz := World.block_lt_of_cell? _ _ za0); (try dsimp only at lz); (try obtain ⟨na0, na1, na2, na3, na4, na5, na6, na7, nb0, nb1, nb2, nb3, nb4, nb5, nb6, nb7⟩ := UD.all); (try have ln := World.block_lt_of_cell? _ _ na0); (try dsimp only at ln);  have GD := Lib.hid (show Gr W0 wD from gA.out.trans (gAB.out.trans (gBC.out.trans gCD.out))); clear hA hB hC hD gA gAB gBC gCD))
    all_goals
      (try clear ta0 tb0 ta1 tb1 ta2 tb2 ta3 tb3 ta4 tb4 ta5 tb5 ta6 tb6 ta7 tb7)
      (try clear ua0 ub0 ua1 ub1 ua2 ub2 ua3 ub3 ua4 ub4 ua5 ub5 ua6 ub6 ua7 ub7)
      (try clear va0 vb0 va1 vb1 va2 vb2 va3 vb3 va4 vb4 va5 vb5 va6 vb6 va7 vb7)
      (try clear wa0 wb0 wa1 wb1 wa2 wb2 wa3 wb3 wa4 wb4 wa5 wb5 wa6 wb6 wa7 wb7)
      (try clear xa0 xb0 xa1 xb1 xa2 xb2 xa3 xb3 xa4 xb4 xa5 xb5 xa6 xb6 xa7 xb7)
      (try clear ya0 yb0 ya1 yb1 ya2 yb2 ya3 yb3 ya4 yb4 ya5 yb5 ya6 yb6 ya7 yb7)
      (try clear za0 zb0 za1 zb1 za2 zb2 za3 zb3 za4 zb4 za5 zb5 za6 zb6 za7 zb7)
      (try clear na0 nb0 na1 nb1 na2 nb2 na3 nb3 na4 nb4 na5 nb5 na6 nb6 na7 nb7)
      go_wp2_with fail
      go_meet
      refine ⟨_, _, rfl, rfl, ?_, ?_, ?_, ?_, ?_, ?_⟩
      · first | omega | (simp; done) | (simp; omega)
      · first | omega | (simp; done) | (simp; omega)
      · first | omega | (simp; done) | (simp; omega)
      · first | ((repeat (first | (with_reducible refine bx_pute ?_) | (with_reducible refine bx_new' (by first | rfl | (simp; done)) rfl) | (with_reducible assumption) | (with_reducible refine bx_far ?_ (by first | omega | (simp; done) | (simp; omega))) | (with_reducible refine bx_alloc ?_) | (with_reducible refine zx_far ?_ (by first | omega | (simp; done) | (simp; omega))) | (with_reducible refine zx_alloc ?_))); done)
      · first | ((repeat (first | (with_reducible refine bx_pute ?_) | (with_reducible refine bx_new' (by first | rfl | (simp; done)) rfl) | (with_reducible assumption) | (with_reducible refine bx_far ?_ (by first | omega | (simp; done) | (simp; omega))) | (with_reducible refine bx_alloc ?_) | (with_reducible refine zx_far ?_ (by first | omega | (simp; done) | (simp; omega))) | (with_reducible refine zx_alloc ?_))); done)
      · first | ((repeat (first | (with_reducible refine Gr.setCell ?_ (by first | omega | (simp; omega)) _) | (with_reducible refine Gr.alloc ?_ _))); exact GD.out)
  case rest =>
    obtain ⟨g, h, rfl, rfl, hne, hg, hh, hX, hY, hG⟩ := hcut
    have HX := Lib.hid hX
    have HY := Lib.hid hY
    have HG9 := Lib.hid hG
    have hzz := hX.lt
    have hyy := hY.lt
    clear hx hy hX hY
    have x1 := HX.out.cell 1 rfl
    have x2 := HX.out.cell 2 rfl
    have x3 := HX.out.cell 3 rfl
    have y1 := HY.out.cell 1 rfl
    have y2 := HY.out.cell 2 rfl
    have y3 := HY.out.cell 3 rfl
    clear hG
    generalize wc = W1 at *
    go_upto_region 4 with (go_at_call 60; (with_reducible refine (hD _).mono ?_); rintro e w2 ⟨rfl, hb⟩; have k2 := Lib.hid (show Gr W1 w2 from Gr.trans (by repeat (first | (with_reducible exact Gr.refl _) | (with_reducible assumption) | (with_reducible refine Gr.alloc ?_ _) | (with_reducible refine Gr.drew ?_) | (with_reducible refine Gr.drewN ?_ _) | (with_reducible refine Gr.setCell ?_ (by simp <;> omega) _) | (with_reducible refine Gr.trans ?_ (by with_reducible assumption)) | exact Gr.refl _ | assumption | refine Gr.alloc ?_ _ | refine Gr.drew ?_ | refine Gr.drewN ?_ _ | refine Gr.setCell ?_ (by simp <;> omega) _ | refine Gr.trans ?_ (by assumption))) hb); have x1 := k2.out.keep x1; have x2 := k2.out.keep x2; have x3 := k2.out.keep x3; have e1 := (HX.out.gr k2.out).frozen 1; have e2 := (HX.out.gr k2.out).frozen 2; have e3 := (HX.out.gr k2.out).frozen 3)
    have HB := Lib.hid ((((HX.out.gr k2.out).set 1 (.int .u64 (r0 : Int))).set 2 (.int .u64 (r1 : Int))).set 3 (.int .u64 (r2 : Int)))
    have HZ2 := Lib.hid (show Bx (((w2.setCell ⟨g, 1, none⟩ (.int .u64 (r0 : Int))).setCell ⟨g, 2, none⟩ (.int .u64 (r1 : Int))).setCell ⟨g, 3, none⟩ (.int .u64 (r2 : Int))) (G + 1 + 1) 71 [.bool false, .int .u64 0, .int .u64 0, .int .u64 0, .int .u64 0, .int .u64 0, .int .u64 0, .int .i64 0] from (((Bx.gr HZ.out (HG9.out.trans k2.out)).other _ _ (by dsimp only; omega)).other _ _ (by dsimp only; omega)).other _ _ (by dsimp only; omega))
    have HG3 := Lib.hid (HW3.out w2 g (by omega) (HG.out.trans (HG9.out.trans k2.out)) (.int .u64 (r0 : Int)) (.int .u64 (r1 : Int)) (.int .u64 (r2 : Int)))
    clear x1 x2 x3 y1 y2 y3 e1 e2 e3 hb hD k2
    generalize ((w2.setCell ⟨g, 1, none⟩ (.int .u64 (r0 : Int))).setCell ⟨g, 2, none⟩ (.int .u64 (r1 : Int))).setCell ⟨g, 3, none⟩ (.int .u64 (r2 : Int)) = W5 at *
    have x0 := HB.out.cell 0 rfl
    have x1 := HB.out.cell 1 rfl
    have x2 := HB.out.cell 2 rfl
    have x3 := HB.out.cell 3 rfl
    have x4 := HB.out.cell 4 rfl
    have x5 := HB.out.cell 5 rfl
    have x6 := HB.out.cell 6 rfl
    have x7 := HB.out.cell 7 rfl
    obtain ⟨ta0, ta1, ta2, ta3, ta4, ta5, ta6, ta7, tb0, tb1, tb2, tb3, tb4, tb5, tb6, tb7⟩ := (show Zx W5 (G + 1 + 1) from HZ2.out).all
    have lt := World.block_lt_of_cell? _ _ ta0
    (try dsimp only at lt)
    go_upto_region 5 with (fail)
    have HV := Bx.pute HZ2.out rfl (decide (n < 0)) r0 r1 r2 u0 u1 u2 S
    have HGV := HP.out W5 HG3.out
    clear ta0 tb0 ta1 tb1 ta2 tb2 ta3 tb3 ta4 tb4 ta5 tb5 ta6 tb6 ta7 tb7 x0 x1 x2 x3 x4 x5 x6 x7
    generalize (((((((((W5).setCell ⟨G + 1 + 1, 0, none⟩ (.bool (decide (n < 0)))).setCell ⟨G + 1 + 1, 1, none⟩ (.int .u64 ((r0 : Nat) : Int))).setCell ⟨G + 1 + 1, 2, none⟩ (.int .u64 ((r1 : Nat) : Int))).setCell ⟨G + 1 + 1, 3, none⟩ (.int .u64 ((r2 : Nat) : Int))).setCell ⟨G + 1 + 1, 4, none⟩ (.int .u64 ((u0 : Nat) : Int))).setCell ⟨G + 1 + 1, 5, none⟩ (.int .u64 ((u1 : Nat) : Int))).setCell ⟨G + 1 + 1, 6, none⟩ (.int .u64 ((u2 : Nat) : Int))).setCell ⟨G + 1 + 1, 7, none⟩ (.int .i64 S)) = W9 at HV HGV ⊢
    have v0 := HV.cell 0 rfl
    have v1 := HV.cell 1 rfl
    have v2 := HV.cell 2 rfl
    have v3 := HV.cell 3 rfl
    have v4 := HV.cell 4 rfl
    have v5 := HV.cell 5 rfl
    have v6 := HV.cell 6 rfl
    have v7 := HV.cell 7 rfl
    go_wp2
    exact bodyPost_ret (v := (.agg #[.bool (decide (n < 0)), .int .u64 ((r0 : Nat) : Int), .int .u64 ((r1 : Nat) : Int), .int .u64 ((r2 : Nat) : Int), .int .u64 ((u0 : Nat) : Int), .int .u64 ((u1 : Nat) : Int), .int .u64 ((u2 : Nat) : Int), .int .i64 S])) (by simp [results, Try.results58, go_sem, v0, v1, v2, v3, v4, v5, v6, v7]) rfl ⟨rfl, HGV⟩
end Go.Proofs.Ytnaflaokhldfnaa
