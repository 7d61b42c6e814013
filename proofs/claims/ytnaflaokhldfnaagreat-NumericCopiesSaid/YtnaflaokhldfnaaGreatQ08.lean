/- Texts of the walks, merged. -/
import Derived.Test.YtnaflaokhldfnaaGreatQ07
import Derived.Test.YtnaflaokhldfnaaGreatQ02
import Derived.Test.YtnaflaokhldfnaaGreatQ04
import Derived.Deep.CutBlock
namespace Go.Proofs.YtnaflaokhldfnaaGreat
set_option linter.unusedSimpArgs false
set_option linter.unusedVariables false
open Go.RowKit

def pres (b : Bool) (z : Nat) (cc : Int) : Value := if 0 < cc then .tuple #[.agg #[.int .i64 0, .string ⟨#[]⟩], .int .i64 19] else .tuple #[.agg #[.int .i64 (if b then -(z : Int) else z), .string ⟨#[]⟩], .int .i64 0]

set_option maxHeartbeats 4000000 in
set_option maxRecDepth 100000 in
theorem put_core (b half : Bool) (O U : Nat) (s k l sc : Int) (num den a c : Nat) (q0 q1 q2 r0 r1 r2 p0 p1 p2 y0 y1 y2 m0 m1 m2 g0 g1 g2 : Nat) (ch cc1 cc2 : Int)
    (ha : max (sc - s) 0 = (a : Int)) (hc : max (s - sc) 0 = (c : Int)) (hs : -100 ≤ s) (hs' : s ≤ 100) (hsc : 0 ≤ sc) (hsc' : sc ≤ 100) (hl : l ≤ 18)
    (hO : ∀ w, Calls Tryz.prog 67 #[(.agg #[.int .u64 ((wd (O) 0 : Nat) : Int), .int .u64 ((wd (O) 1 : Nat) : Int), .int .u64 ((wd (O) 2 : Nat) : Int)]), .int .i64 (a : Int)] w fun e w' => e = .returned (.agg #[.int .u64 ((wd (num) 0 : Nat) : Int), .int .u64 ((wd (num) 1 : Nat) : Int), .int .u64 ((wd (num) 2 : Nat) : Int)]) ∧ Gr w w')
    (hU : ∀ w, Calls Tryz.prog 67 #[(.agg #[.int .u64 ((wd (U) 0 : Nat) : Int), .int .u64 ((wd (U) 1 : Nat) : Int), .int .u64 ((wd (U) 2 : Nat) : Int)]), .int .i64 (c : Int)] w fun e w' => e = .returned (.agg #[.int .u64 ((wd (den) 0 : Nat) : Int), .int .u64 ((wd (den) 1 : Nat) : Int), .int .u64 ((wd (den) 2 : Nat) : Int)]) ∧ Gr w w')
    (hD : ∀ w, Calls Tryz.prog 68 #[(.agg #[.int .u64 ((wd (num) 0 : Nat) : Int), .int .u64 ((wd (num) 1 : Nat) : Int), .int .u64 ((wd (num) 2 : Nat) : Int)]), (.agg #[.int .u64 ((wd (den) 0 : Nat) : Int), .int .u64 ((wd (den) 1 : Nat) : Int), .int .u64 ((wd (den) 2 : Nat) : Int)])] w fun e w' => e = .returned (.tuple #[(.agg #[.int .u64 ((q0 : Nat) : Int), .int .u64 ((q1 : Nat) : Int), .int .u64 ((q2 : Nat) : Int)]), (.agg #[.int .u64 ((r0 : Nat) : Int), .int .u64 ((r1 : Nat) : Int), .int .u64 ((r2 : Nat) : Int)])]) ∧ Gr w w')
    (hP : ∀ w, Calls Tryz.prog 69 #[(.agg #[.int .u64 ((r0 : Nat) : Int), .int .u64 ((r1 : Nat) : Int), .int .u64 ((r2 : Nat) : Int)]), (.agg #[.int .u64 ((r0 : Nat) : Int), .int .u64 ((r1 : Nat) : Int), .int .u64 ((r2 : Nat) : Int)])] w fun e w' => e = .returned (.agg #[.int .u64 ((p0 : Nat) : Int), .int .u64 ((p1 : Nat) : Int), .int .u64 ((p2 : Nat) : Int)]) ∧ Gr w w')
    (hH : ∀ w, Calls Tryz.prog 70 #[(.agg #[.int .u64 ((p0 : Nat) : Int), .int .u64 ((p1 : Nat) : Int), .int .u64 ((p2 : Nat) : Int)]), (.agg #[.int .u64 ((wd (den) 0 : Nat) : Int), .int .u64 ((wd (den) 1 : Nat) : Int), .int .u64 ((wd (den) 2 : Nat) : Int)])] w fun e w' => e = .returned (.int .i64 ch) ∧ Gr w w')
    (h1 : ∀ w, Calls Tryz.prog 66 #[.int .i64 1] w fun e w' => e = .returned (.agg #[.int .u64 ((m0 : Nat) : Int), .int .u64 ((m1 : Nat) : Int), .int .u64 ((m2 : Nat) : Int)]) ∧ Gr w w')
    (hY : half = true → 0 ≤ ch → ∀ w, Calls Tryz.prog 69 #[(.agg #[.int .u64 ((q0 : Nat) : Int), .int .u64 ((q1 : Nat) : Int), .int .u64 ((q2 : Nat) : Int)]), (.agg #[.int .u64 ((m0 : Nat) : Int), .int .u64 ((m1 : Nat) : Int), .int .u64 ((m2 : Nat) : Int)])] w fun e w' => e = .returned (.agg #[.int .u64 ((y0 : Nat) : Int), .int .u64 ((y1 : Nat) : Int), .int .u64 ((y2 : Nat) : Int)]) ∧ Gr w w')
    (hM : ∀ w, Calls Tryz.prog 66 #[.int .i64 (most l)] w fun e w' => e = .returned (.agg #[.int .u64 ((g0 : Nat) : Int), .int .u64 ((g1 : Nat) : Int), .int .u64 ((g2 : Nat) : Int)]) ∧ Gr w w')
    (hC1 : ∀ w, Calls Tryz.prog 70 #[(.agg #[.int .u64 ((q0 : Nat) : Int), .int .u64 ((q1 : Nat) : Int), .int .u64 ((q2 : Nat) : Int)]), (.agg #[.int .u64 ((g0 : Nat) : Int), .int .u64 ((g1 : Nat) : Int), .int .u64 ((g2 : Nat) : Int)])] w fun e w' => e = .returned (.int .i64 cc1) ∧ Gr w w')
    (hC2 : half = true → 0 ≤ ch → ∀ w, Calls Tryz.prog 70 #[(.agg #[.int .u64 ((y0 : Nat) : Int), .int .u64 ((y1 : Nat) : Int), .int .u64 ((y2 : Nat) : Int)]), (.agg #[.int .u64 ((g0 : Nat) : Int), .int .u64 ((g1 : Nat) : Int), .int .u64 ((g2 : Nat) : Int)])] w fun e w' => e = .returned (.int .i64 cc2) ∧ Gr w w')
    (hq : cc1 ≤ 0 → (q0 : Int) ≤ 1000000000000000000) (hy : cc2 ≤ 0 → (y0 : Int) ≤ 1000000000000000000) (w : World) :
    Calls Tryz.prog 35 #[(.agg #[.bool b, .int .u64 ((wd (O) 0 : Nat) : Int), .int .u64 ((wd (O) 1 : Nat) : Int), .int .u64 ((wd (O) 2 : Nat) : Int), .int .u64 ((wd (U) 0 : Nat) : Int), .int .u64 ((wd (U) 1 : Nat) : Int), .int .u64 ((wd (U) 2 : Nat) : Int), .int .i64 (s)]), .agg #[.int .i64 k, .int .i64 l, .int .i64 sc], .bool half] w fun e w' => e = .returned (pres b (if half = true ∧ 0 ≤ ch then y0 else q0) (if half = true ∧ 0 ≤ ch then cc2 else cc1)) ∧ Gr w w' := by
  generalize wd O 0 = o0 at *
  generalize wd O 1 = o1 at *
  generalize wd O 2 = o2 at *
  generalize wd U 0 = u0 at *
  generalize wd U 1 = u1 at *
  generalize wd U 2 = u2 at *
  generalize wd num 0 = n0 at *
  generalize wd num 1 = n1 at *
  generalize wd num 2 = n2 at *
  generalize wd den 0 = d0 at *
  generalize wd den 1 = d1 at *
  generalize wd den 2 = d2 at *
  have HX := Lib.hid (((Bx.new w 72 #[.bool b, .int .u64 o0, .int .u64 o1, .int .u64 o2, .int .u64 u0, .int .u64 u1, .int .u64 u2, .int .i64 s]).alloc (.cells #[.int .i64 k, .int .i64 l, .int .i64 sc] 23)).alloc (.cells #[.int .i64 0, .string ⟨#[]⟩] 38))
  have HT := Lib.hid ((Bx.new (w.alloc (.cells #[.bool b, .int .u64 o0, .int .u64 o1, .int .u64 o2, .int .u64 u0, .int .u64 u1, .int .u64 u2, .int .i64 s] 72)) 23 #[.int .i64 k, .int .i64 l, .int .i64 sc]).alloc (.cells #[.int .i64 0, .string ⟨#[]⟩] 38))
  have HV := Lib.hid (Bx.new ((w.alloc (.cells #[.bool b, .int .u64 o0, .int .u64 o1, .int .u64 o2, .int .u64 u0, .int .u64 u1, .int .u64 u2, .int .i64 s] 72)).alloc (.cells #[.int .i64 k, .int .i64 l, .int .i64 sc] 23)) 38 #[.int .i64 0, .string ⟨#[]⟩])
  simp only [World.size_alloc] at HT HV
  go_enter Tryz.func35, Tryz.ntmps35
  go_upto_if 44 with (first | (go_at_call 67; with_reducible refine (hO _).mono ?_; rintro e w1 ⟨rfl, hb⟩; have HX' := Lib.hid ((HX.out).gr hb); have HT' := Lib.hid ((HT.out).gr hb); have HV' := Lib.hid ((HV.out).gr hb); clear HX HT HV; have HX := HX'; have HT := HT'; have HV := HV'; clear HX' HT' HV'; have x0 := HX.out.cell 0 rfl; have x1 := HX.out.cell 1 rfl; have x2 := HX.out.cell 2 rfl; have x3 := HX.out.cell 3 rfl; have x4 := HX.out.cell 4 rfl; have x5 := HX.out.cell 5 rfl; have x6 := HX.out.cell 6 rfl; have x7 := HX.out.cell 7 rfl; have t0 := HT.out.cell 0 rfl; have t1 := HT.out.cell 1 rfl; have t2 := HT.out.cell 2 rfl; skip; have hzw1 := hb.size; (try simp at hzw1); have HBw1 := Lib.hid hb; clear hb; have hz0 : w.heap.size < w1.heap.size := (by omega); have hz1 : w.heap.size + 1 < w1.heap.size := (by omega); have hz2 : w.heap.size + 1 + 1 < w1.heap.size := (by omega)) | (go_at_call 67; with_reducible refine (hU _).mono ?_; rintro e w2 ⟨rfl, hb⟩; clear x0 x1 x2 x3 x4 x5 x6 x7 t0 t1 t2 hz0 hz1 hz2; have HX' := Lib.hid ((HX.out.alloc _).gr hb); have HT' := Lib.hid ((HT.out.alloc _).gr hb); have HV' := Lib.hid ((HV.out.alloc _).gr hb); clear HX HT HV; have HX := HX'; have HT := HT'; have HV := HV'; clear HX' HT' HV'; have x0 := HX.out.cell 0 rfl; have x1 := HX.out.cell 1 rfl; have x2 := HX.out.cell 2 rfl; have x3 := HX.out.cell 3 rfl; have x4 := HX.out.cell 4 rfl; have x5 := HX.out.cell 5 rfl; have x6 := HX.out.cell 6 rfl; have x7 := HX.out.cell 7 rfl; have t0 := HT.out.cell 0 rfl; have t1 := HT.out.cell 1 rfl; have t2 := HT.out.cell 2 rfl; have HA := Lib.hid ((Arr.new w1 .u64 70 (c := #[.int .u64 n0, .int .u64 n1, .int .u64 n2]) (xs := [n0, n1, n2]) rfl).gr hb); have a0 := HA.out.cell 0 (by simp); have a1 := HA.out.cell 1 (by simp); have a2 := HA.out.cell 2 (by simp); simp only [List.getD_cons_zero, List.getD_cons_succ] at a0 a1 a2; have hzA := HA.out.lt; have hzw2 := hb.size; (try simp at hzw2); have HBw2 := Lib.hid hb; clear hb; have hz0 : w.heap.size < w2.heap.size := (by omega); have hz1 : w.heap.size + 1 < w2.heap.size := (by omega); have hz2 : w.heap.size + 1 + 1 < w2.heap.size := (by omega)) | (go_at_call 68; with_reducible refine (hD _).mono ?_; rintro e w3 ⟨rfl, hb⟩; clear x0 x1 x2 x3 x4 x5 x6 x7 t0 t1 t2 a0 a1 a2 hzA hz0 hz1 hz2; have HX' := Lib.hid ((HX.out.alloc _).gr hb); have HT' := Lib.hid ((HT.out.alloc _).gr hb); have HV' := Lib.hid ((HV.out.alloc _).gr hb); clear HX HT HV; have HX := HX'; have HT := HT'; have HV := HV'; clear HX' HT' HV'; have x0 := HX.out.cell 0 rfl; have x1 := HX.out.cell 1 rfl; have x2 := HX.out.cell 2 rfl; have x3 := HX.out.cell 3 rfl; have x4 := HX.out.cell 4 rfl; have x5 := HX.out.cell 5 rfl; have x6 := HX.out.cell 6 rfl; have x7 := HX.out.cell 7 rfl; have t0 := HT.out.cell 0 rfl; have t1 := HT.out.cell 1 rfl; have t2 := HT.out.cell 2 rfl; have HA' := Lib.hid ((HA.out.alloc _).gr hb); clear HA; have HA := HA'; clear HA'; have HE := Lib.hid ((Arr.new w2 .u64 70 (c := #[.int .u64 d0, .int .u64 d1, .int .u64 d2]) (xs := [d0, d1, d2]) rfl).gr hb); have hzA := HA.out.lt; have hzE := HE.out.lt; have hzw3 := hb.size; (try simp at hzw3); have HBw3 := Lib.hid hb; clear hb; have hz0 : w.heap.size < w3.heap.size := (by omega); have hz1 : w.heap.size + 1 < w3.heap.size := (by omega); have hz2 : w.heap.size + 1 + 1 < w3.heap.size := (by omega)))
  have HN := Lib.hid ((Arr.new w3 .u64 70 (c := #[.int .u64 q0, .int .u64 q1, .int .u64 q2]) (xs := [q0, q1, q2]) rfl).alloc (.cells #[.int .u64 r0, .int .u64 r1, .int .u64 r2] 70))
  have HR := Lib.hid (Arr.new (w3.alloc (.cells #[.int .u64 q0, .int .u64 q1, .int .u64 q2] 70)) .u64 70 (c := #[.int .u64 r0, .int .u64 r1, .int .u64 r2]) (xs := [r0, r1, r2]) rfl)
  simp only [World.size_alloc] at HR
  have G1 : Gr w w1 := Gr.trans (((Gr.refl w).alloc _).alloc _ |>.alloc _) HBw1.out
  have G2 : Gr w w2 := Gr.trans (G1.alloc _) HBw2.out
  have G3 : Gr w w3 := Gr.trans (G2.alloc _) HBw3.out
  have HG := Lib.hid ((G3.alloc (.cells #[.int .u64 q0, .int .u64 q1, .int .u64 q2] 70)).alloc (.cells #[.int .u64 r0, .int .u64 r1, .int .u64 r2] 70))
  have HX2 := Lib.hid ((HX.out.alloc (.cells #[.int .u64 q0, .int .u64 q1, .int .u64 q2] 70)).alloc (.cells #[.int .u64 r0, .int .u64 r1, .int .u64 r2] 70))
  have HT2 := Lib.hid ((HT.out.alloc (.cells #[.int .u64 q0, .int .u64 q1, .int .u64 q2] 70)).alloc (.cells #[.int .u64 r0, .int .u64 r1, .int .u64 r2] 70))
  have HV2 := Lib.hid ((HV.out.alloc (.cells #[.int .u64 q0, .int .u64 q1, .int .u64 q2] 70)).alloc (.cells #[.int .u64 r0, .int .u64 r1, .int .u64 r2] 70))
  have HE2 := Lib.hid ((HE.out.alloc (.cells #[.int .u64 q0, .int .u64 q1, .int .u64 q2] 70)).alloc (.cells #[.int .u64 r0, .int .u64 r1, .int .u64 r2] 70))
  clear HX HT HV HE HA x0 x1 x2 x3 x4 x5 x6 x7 t0 t1 t2 G1 G2 G3 HBw1 HBw2 HBw3 hzA
  generalize (w3.alloc (.cells #[.int .u64 (q0 : Int), .int .u64 (q1 : Int), .int .u64 (q2 : Int)] 70)).alloc (.cells #[.int .u64 (r0 : Int), .int .u64 (r1 : Int), .int .u64 (r2 : Int)] 70) = W4 at *
  generalize w3.heap.size = b10 at *
  generalize w2.heap.size = b9 at *
  generalize w1.heap.size = b8 at *
  have x0 := HX2.out.cell 0 rfl
  have t0 := HT2.out.cell 0 rfl
  have t1 := HT2.out.cell 1 rfl
  have t2 := HT2.out.cell 2 rfl
  have z0 := HN.out.cell 0 (by simp)
  have z1 := HN.out.cell 1 (by simp)
  have z2 := HN.out.cell 2 (by simp)
  simp only [List.getD_cons_zero, List.getD_cons_succ] at z0 z1 z2
  cases half
  · have HF := Lib.hid (show ¬ (false = true ∧ 0 ≤ ch) by simp)
    clear x0 t0 t1 t2 z0 z1 z2 hP hH hY hC2 hy
    go_quiet (fail)
    go_wp2
    have z0 := HN.out.cell 0 (by simp)
    have z1 := HN.out.cell 1 (by simp)
    have z2 := HN.out.cell 2 (by simp)
    simp only [List.getD_cons_zero, List.getD_cons_succ] at z0 z1 z2
    have t0 := HT2.out.cell 0 rfl
    have t1 := HT2.out.cell 1 rfl
    have t2 := HT2.out.cell 2 rfl
    go_region_held3 (fun w' => w'.cell? ⟨b10, 0, none⟩ = some (.int .u64 (q0 : Nat)) ∧ w'.cell? ⟨b10, 1, none⟩ = some (.int .u64 (q1 : Nat)) ∧ w'.cell? ⟨b10, 2, none⟩ = some (.int .u64 (q2 : Nat)) ∧ w'.cell? ⟨w.heap.size + 1, 0, none⟩ = some (.int .i64 k) ∧ w'.cell? ⟨w.heap.size + 1, 1, none⟩ = some (.int .i64 l) ∧ w'.cell? ⟨w.heap.size + 1, 2, none⟩ = some (.int .i64 sc)) (first | (go_keep; done) | ((try go_split_ands); (repeat' apply And.intro) <;> ((try simp only [World.cell?_drew]); first | (with_reducible assumption) | (refine hb.keep ?_; (try simp only [World.cell?_drew]); first | (with_reducible assumption) | (simp [*, go_sem]; done)) | (simp [*, go_sem]; done)))) (first | (go_at_call 71; go_loud (with_reducible refine (greatest_any _ _ _ hl _).mono ?_; rintro e w6 ⟨rfl, hb⟩; have HX2' := Lib.hid (by first | exact (HX2.out.drewN _).gr hb | exact HX2.out.gr hb | exact HX2.out.drew.gr hb); clear HX2; have HX2 := HX2'; clear HX2'; have HT2' := Lib.hid (by first | exact (HT2.out.drewN _).gr hb | exact HT2.out.gr hb | exact HT2.out.drew.gr hb); clear HT2; have HT2 := HT2'; clear HT2'; have HV2' := Lib.hid (by first | exact (HV2.out.drewN _).gr hb | exact HV2.out.gr hb | exact HV2.out.drew.gr hb); clear HV2; have HV2 := HV2'; clear HV2'; have HN' := Lib.hid (by first | exact (HN.out.drewN _).gr hb | exact HN.out.gr hb | exact HN.out.drew.gr hb); clear HN; have HN := HN'; clear HN'; have HR' := Lib.hid (by first | exact (HR.out.drewN _).gr hb | exact HR.out.gr hb | exact HR.out.drew.gr hb); clear HR; have HR := HR'; clear HR'; have HE2' := Lib.hid (by first | exact (HE2.out.drewN _).gr hb | exact HE2.out.gr hb | exact HE2.out.drew.gr hb); clear HE2; have HE2 := HE2'; clear HE2'; have HG' := Lib.hid (by first | exact Gr.trans (HG.out.drewN _) hb | exact Gr.trans HG.out hb | exact Gr.trans HG.out.drew hb); clear HG; have HG := HG'; clear HG')) | (go_at_call 66; go_loud (with_reducible refine (hM _).mono ?_; rintro e w7 ⟨rfl, hb⟩; have HX2' := Lib.hid (by first | exact (HX2.out.drewN _).gr hb | exact HX2.out.gr hb | exact HX2.out.drew.gr hb); clear HX2; have HX2 := HX2'; clear HX2'; have HT2' := Lib.hid (by first | exact (HT2.out.drewN _).gr hb | exact HT2.out.gr hb | exact HT2.out.drew.gr hb); clear HT2; have HT2 := HT2'; clear HT2'; have HV2' := Lib.hid (by first | exact (HV2.out.drewN _).gr hb | exact HV2.out.gr hb | exact HV2.out.drew.gr hb); clear HV2; have HV2 := HV2'; clear HV2'; have HN' := Lib.hid (by first | exact (HN.out.drewN _).gr hb | exact HN.out.gr hb | exact HN.out.drew.gr hb); clear HN; have HN := HN'; clear HN'; have HR' := Lib.hid (by first | exact (HR.out.drewN _).gr hb | exact HR.out.gr hb | exact HR.out.drew.gr hb); clear HR; have HR := HR'; clear HR'; have HE2' := Lib.hid (by first | exact (HE2.out.drewN _).gr hb | exact HE2.out.gr hb | exact HE2.out.drew.gr hb); clear HE2; have HE2 := HE2'; clear HE2'; have HG' := Lib.hid (by first | exact Gr.trans (HG.out.drewN _) hb | exact Gr.trans HG.out hb | exact Gr.trans HG.out.drew hb); clear HG; have HG := HG'; clear HG')) | (go_at_call 70; go_loud (with_reducible refine (hC1 _).mono ?_; rintro e w8 ⟨rfl, hb⟩; have HX2' := Lib.hid (by first | exact (HX2.out.drewN _).gr hb | exact HX2.out.gr hb | exact HX2.out.drew.gr hb); clear HX2; have HX2 := HX2'; clear HX2'; have HT2' := Lib.hid (by first | exact (HT2.out.drewN _).gr hb | exact HT2.out.gr hb | exact HT2.out.drew.gr hb); clear HT2; have HT2 := HT2'; clear HT2'; have HV2' := Lib.hid (by first | exact (HV2.out.drewN _).gr hb | exact HV2.out.gr hb | exact HV2.out.drew.gr hb); clear HV2; have HV2 := HV2'; clear HV2'; have HN' := Lib.hid (by first | exact (HN.out.drewN _).gr hb | exact HN.out.gr hb | exact HN.out.drew.gr hb); clear HN; have HN := HN'; clear HN'; have HR' := Lib.hid (by first | exact (HR.out.drewN _).gr hb | exact HR.out.gr hb | exact HR.out.drew.gr hb); clear HR; have HR := HR'; clear HR'; have HE2' := Lib.hid (by first | exact (HE2.out.drewN _).gr hb | exact HE2.out.gr hb | exact HE2.out.drew.gr hb); clear HE2; have HE2 := HE2'; clear HE2'; have HG' := Lib.hid (by first | exact Gr.trans (HG.out.drewN _) hb | exact Gr.trans HG.out hb | exact Gr.trans HG.out.drew hb); clear HG; have HG := HG'; clear HG')))
    clear z0 z1 z2 t0 t1 t2
    have z0 := HN.out.cell 0 (by simp)
    simp only [List.getD_cons_zero] at z0
    have x0 := HX2.out.cell 0 rfl
    have v0 := HV2.out.cell 0 rfl
    have v1 := HV2.out.cell 1 rfl
    have f0 := HV2.out.frozen 0
    have f1 := HV2.out.frozen 1
    by_cases ho : 0 < cc1
    · go_wp2
      refine bodyPost_ret (v := .tuple #[.agg #[.int .i64 0, .string ⟨#[]⟩], .int .i64 19]) (by simp [results, Tryz.results35, go_sem, *]) rfl ⟨congrArg Ending.returned (by first | (rw [if_neg HF.out, if_neg HF.out]; simp [pres, ho]; done) | (simp [pres, ho]; done) | (have h := HF.out; simp [pres, ho, h]; done)), ?_⟩
      (repeat (first | with_reducible refine Gr.setCell ?_ (by simp <;> omega) _ | with_reducible refine Gr.drew ?_)); (with_reducible exact HG.out)
    · have hb18 := hq (by omega)
      cases b
      · go_wp2
        refine bodyPost_ret (v := .tuple #[.agg #[.int .i64 q0, .string ⟨#[]⟩], .int .i64 0]) (by simp [results, Tryz.results35, go_sem, *]) rfl ⟨congrArg Ending.returned (by first | (rw [if_neg HF.out, if_neg HF.out]; simp [pres, ho]; done) | (simp [pres, ho]; done) | (have h := HF.out; simp [pres, ho, h]; done)), ?_⟩
        (repeat (first | with_reducible refine Gr.setCell ?_ (by simp <;> omega) _ | with_reducible refine Gr.drew ?_)); (with_reducible exact HG.out)
      · go_wp2
        refine bodyPost_ret (v := .tuple #[.agg #[.int .i64 (-(q0 : Int)), .string ⟨#[]⟩], .int .i64 0]) (by simp [results, Tryz.results35, go_sem, *]) rfl ⟨congrArg Ending.returned (by first | (rw [if_neg HF.out, if_neg HF.out]; simp [pres, ho]; done) | (simp [pres, ho]; done) | (have h := HF.out; simp [pres, ho, h]; done)), ?_⟩
        (repeat (first | with_reducible refine Gr.setCell ?_ (by simp <;> omega) _ | with_reducible refine Gr.drew ?_)); (with_reducible exact HG.out)
  · clear x0 t0 t1 t2 z0 z1 z2
    have R0 := HR.out.cell 0 (by simp)
    have R1 := HR.out.cell 1 (by simp)
    have R2 := HR.out.cell 2 (by simp)
    have E0 := HE2.out.cell 0 (by simp)
    have E1 := HE2.out.cell 1 (by simp)
    have E2 := HE2.out.cell 2 (by simp)
    simp only [List.getD_cons_zero, List.getD_cons_succ] at R0 R1 R2 E0 E1 E2
    go_region_held3 (fun w' => w'.cell? ⟨b10 + 1, 0, none⟩ = some (.int .u64 (r0 : Nat)) ∧ w'.cell? ⟨b10 + 1, 1, none⟩ = some (.int .u64 (r1 : Nat)) ∧ w'.cell? ⟨b10 + 1, 2, none⟩ = some (.int .u64 (r2 : Nat)) ∧ w'.cell? ⟨b9, 0, none⟩ = some (.int .u64 (d0 : Nat)) ∧ w'.cell? ⟨b9, 1, none⟩ = some (.int .u64 (d1 : Nat)) ∧ w'.cell? ⟨b9, 2, none⟩ = some (.int .u64 (d2 : Nat))) (first | (go_keep; done) | ((try go_split_ands); (repeat' apply And.intro) <;> ((try simp only [World.cell?_drew]); first | (with_reducible assumption) | (refine hb.keep ?_; (try simp only [World.cell?_drew]); first | (with_reducible assumption) | (simp [*, go_sem]; done)) | (simp [*, go_sem]; done)))) (first | (go_at_call 69; go_loud (with_reducible refine (hP _).mono ?_; rintro e wp ⟨rfl, hb⟩; have HX2' := Lib.hid (by first | exact (HX2.out.drewN _).gr hb | exact HX2.out.gr hb | exact HX2.out.drew.gr hb); clear HX2; have HX2 := HX2'; clear HX2'; have HT2' := Lib.hid (by first | exact (HT2.out.drewN _).gr hb | exact HT2.out.gr hb | exact HT2.out.drew.gr hb); clear HT2; have HT2 := HT2'; clear HT2'; have HV2' := Lib.hid (by first | exact (HV2.out.drewN _).gr hb | exact HV2.out.gr hb | exact HV2.out.drew.gr hb); clear HV2; have HV2 := HV2'; clear HV2'; have HN' := Lib.hid (by first | exact (HN.out.drewN _).gr hb | exact HN.out.gr hb | exact HN.out.drew.gr hb); clear HN; have HN := HN'; clear HN'; have HR' := Lib.hid (by first | exact (HR.out.drewN _).gr hb | exact HR.out.gr hb | exact HR.out.drew.gr hb); clear HR; have HR := HR'; clear HR'; have HE2' := Lib.hid (by first | exact (HE2.out.drewN _).gr hb | exact HE2.out.gr hb | exact HE2.out.drew.gr hb); clear HE2; have HE2 := HE2'; clear HE2'; have HG' := Lib.hid (by first | exact Gr.trans (HG.out.drewN _) hb | exact Gr.trans HG.out hb | exact Gr.trans HG.out.drew hb); clear HG; have HG := HG'; clear HG')) | (go_at_call 70; go_loud (with_reducible refine (hH _).mono ?_; rintro e wh ⟨rfl, hb⟩; have HX2' := Lib.hid (by first | exact (HX2.out.drewN _).gr hb | exact HX2.out.gr hb | exact HX2.out.drew.gr hb); clear HX2; have HX2 := HX2'; clear HX2'; have HT2' := Lib.hid (by first | exact (HT2.out.drewN _).gr hb | exact HT2.out.gr hb | exact HT2.out.drew.gr hb); clear HT2; have HT2 := HT2'; clear HT2'; have HV2' := Lib.hid (by first | exact (HV2.out.drewN _).gr hb | exact HV2.out.gr hb | exact HV2.out.drew.gr hb); clear HV2; have HV2 := HV2'; clear HV2'; have HN' := Lib.hid (by first | exact (HN.out.drewN _).gr hb | exact HN.out.gr hb | exact HN.out.drew.gr hb); clear HN; have HN := HN'; clear HN'; have HR' := Lib.hid (by first | exact (HR.out.drewN _).gr hb | exact HR.out.gr hb | exact HR.out.drew.gr hb); clear HR; have HR := HR'; clear HR'; have HE2' := Lib.hid (by first | exact (HE2.out.drewN _).gr hb | exact HE2.out.gr hb | exact HE2.out.drew.gr hb); clear HE2; have HE2 := HE2'; clear HE2'; have HG' := Lib.hid (by first | exact Gr.trans (HG.out.drewN _) hb | exact Gr.trans HG.out hb | exact Gr.trans HG.out.drew hb); clear HG; have HG := HG'; clear HG')))
    clear R0 R1 R2 E0 E1 E2
    by_cases hch : 0 ≤ ch
    · have hY' := hY (by simp) hch
      have hC2' := hC2 (by simp) hch
      have z0 := HN.out.cell 0 (by simp)
      have z1 := HN.out.cell 1 (by simp)
      have z2 := HN.out.cell 2 (by simp)
      simp only [List.getD_cons_zero, List.getD_cons_succ] at z0 z1 z2
      clear hP hH hY hC2
      have HF := Lib.hid (show (true = true ∧ 0 ≤ ch) from ⟨rfl, hch⟩)
      go_wp2
      go_region_with (first | (go_at_call 66; go_loud (with_reducible refine (h1 _).mono ?_; rintro e wm ⟨rfl, hb⟩; have HX2' := Lib.hid (by first | exact (HX2.out.drewN _).gr hb | exact HX2.out.gr hb | exact HX2.out.drew.gr hb); clear HX2; have HX2 := HX2'; clear HX2'; have HT2' := Lib.hid (by first | exact (HT2.out.drewN _).gr hb | exact HT2.out.gr hb | exact HT2.out.drew.gr hb); clear HT2; have HT2 := HT2'; clear HT2'; have HV2' := Lib.hid (by first | exact (HV2.out.drewN _).gr hb | exact HV2.out.gr hb | exact HV2.out.drew.gr hb); clear HV2; have HV2 := HV2'; clear HV2'; have HN' := Lib.hid (by first | exact (HN.out.drewN _).gr hb | exact HN.out.gr hb | exact HN.out.drew.gr hb); clear HN; have HN := HN'; clear HN'; have HR' := Lib.hid (by first | exact (HR.out.drewN _).gr hb | exact HR.out.gr hb | exact HR.out.drew.gr hb); clear HR; have HR := HR'; clear HR'; have HE2' := Lib.hid (by first | exact (HE2.out.drewN _).gr hb | exact HE2.out.gr hb | exact HE2.out.drew.gr hb); clear HE2; have HE2 := HE2'; clear HE2'; have HG' := Lib.hid (by first | exact Gr.trans (HG.out.drewN _) hb | exact Gr.trans HG.out hb | exact Gr.trans HG.out.drew hb); clear HG; have HG := HG'; clear HG'; have z0 := HN.out.cell 0 (by simp); have z1 := HN.out.cell 1 (by simp); have z2 := HN.out.cell 2 (by simp); simp only [List.getD_cons_zero, List.getD_cons_succ] at z0 z1 z2; have fz0 := HN.out.frozen 0; have fz1 := HN.out.frozen 1; have fz2 := HN.out.frozen 2)) | (go_at_call 69; go_loud (with_reducible refine (hY' _).mono ?_; rintro e wy ⟨rfl, hb⟩; have HX2' := Lib.hid (by first | exact (HX2.out.drewN _).gr hb | exact HX2.out.gr hb | exact HX2.out.drew.gr hb); clear HX2; have HX2 := HX2'; clear HX2'; have HT2' := Lib.hid (by first | exact (HT2.out.drewN _).gr hb | exact HT2.out.gr hb | exact HT2.out.drew.gr hb); clear HT2; have HT2 := HT2'; clear HT2'; have HV2' := Lib.hid (by first | exact (HV2.out.drewN _).gr hb | exact HV2.out.gr hb | exact HV2.out.drew.gr hb); clear HV2; have HV2 := HV2'; clear HV2'; have HN' := Lib.hid (by first | exact (HN.out.drewN _).gr hb | exact HN.out.gr hb | exact HN.out.drew.gr hb); clear HN; have HN := HN'; clear HN'; have HR' := Lib.hid (by first | exact (HR.out.drewN _).gr hb | exact HR.out.gr hb | exact HR.out.drew.gr hb); clear HR; have HR := HR'; clear HR'; have HE2' := Lib.hid (by first | exact (HE2.out.drewN _).gr hb | exact HE2.out.gr hb | exact HE2.out.drew.gr hb); clear HE2; have HE2 := HE2'; clear HE2'; have HG' := Lib.hid (by first | exact Gr.trans (HG.out.drewN _) hb | exact Gr.trans HG.out hb | exact Gr.trans HG.out.drew hb); clear HG; have HG := HG'; clear HG'; have z0 := HN.out.cell 0 (by simp); have z1 := HN.out.cell 1 (by simp); have z2 := HN.out.cell 2 (by simp); simp only [List.getD_cons_zero, List.getD_cons_succ] at z0 z1 z2; have fz0 := HN.out.frozen 0; have fz1 := HN.out.frozen 1; have fz2 := HN.out.frozen 2)))
      all_goals
        have HN' := Lib.hid (((HN.out.set 0 (y0 : Int)).set 1 (y1 : Int)).set 2 (y2 : Int))
        have HX' := Lib.hid (((HX2.out.other ⟨b10, 0, none⟩ (.int .u64 (y0 : Int)) (by simp; omega)).other ⟨b10, 1, none⟩ (.int .u64 (y1 : Int)) (by simp; omega)).other ⟨b10, 2, none⟩ (.int .u64 (y2 : Int)) (by simp; omega))
        have HT' := Lib.hid (((HT2.out.other ⟨b10, 0, none⟩ (.int .u64 (y0 : Int)) (by simp; omega)).other ⟨b10, 1, none⟩ (.int .u64 (y1 : Int)) (by simp; omega)).other ⟨b10, 2, none⟩ (.int .u64 (y2 : Int)) (by simp; omega))
        have HV' := Lib.hid (((HV2.out.other ⟨b10, 0, none⟩ (.int .u64 (y0 : Int)) (by simp; omega)).other ⟨b10, 1, none⟩ (.int .u64 (y1 : Int)) (by simp; omega)).other ⟨b10, 2, none⟩ (.int .u64 (y2 : Int)) (by simp; omega))
        have HR' := Lib.hid (((HR.out.set_other ⟨b10, 0, none⟩ (.int .u64 (y0 : Int)) (by simp)).set_other ⟨b10, 1, none⟩ (.int .u64 (y1 : Int)) (by simp)).set_other ⟨b10, 2, none⟩ (.int .u64 (y2 : Int)) (by simp))
        have HE' := Lib.hid (((HE2.out.set_other ⟨b10, 0, none⟩ (.int .u64 (y0 : Int)) (by simp; omega)).set_other ⟨b10, 1, none⟩ (.int .u64 (y1 : Int)) (by simp; omega)).set_other ⟨b10, 2, none⟩ (.int .u64 (y2 : Int)) (by simp; omega))
        have HG' := Lib.hid (((HG.out.setCell (p := ⟨b10, 0, none⟩) (by simp; omega) (.int .u64 (y0 : Int))).setCell (p := ⟨b10, 1, none⟩) (by simp; omega) (.int .u64 (y1 : Int))).setCell (p := ⟨b10, 2, none⟩) (by simp; omega) (.int .u64 (y2 : Int)))
        clear HN HX2 HT2 HV2 HR HE2 HG z0 z1 z2
        generalize ((wy.setCell ⟨b10, 0, none⟩ (.int .u64 (y0 : Int))).setCell ⟨b10, 1, none⟩ (.int .u64 (y1 : Int))).setCell ⟨b10, 2, none⟩ (.int .u64 (y2 : Int)) = W5 at *
        have HN := HN'
        have HX2 := HX'
        have HT2 := HT'
        have HV2 := HV'
        have HR := HR'
        have HE2 := HE'
        have HG := HG'
        clear HN' HX' HT' HV' HR' HE' HG'
        simp only [List.set] at HN
        go_wp2
        have z0 := HN.out.cell 0 (by simp)
        have z1 := HN.out.cell 1 (by simp)
        have z2 := HN.out.cell 2 (by simp)
        simp only [List.getD_cons_zero, List.getD_cons_succ] at z0 z1 z2
        have t0 := HT2.out.cell 0 rfl
        have t1 := HT2.out.cell 1 rfl
        have t2 := HT2.out.cell 2 rfl
        go_region_held3 (fun w' => w'.cell? ⟨b10, 0, none⟩ = some (.int .u64 (y0 : Nat)) ∧ w'.cell? ⟨b10, 1, none⟩ = some (.int .u64 (y1 : Nat)) ∧ w'.cell? ⟨b10, 2, none⟩ = some (.int .u64 (y2 : Nat)) ∧ w'.cell? ⟨w.heap.size + 1, 0, none⟩ = some (.int .i64 k) ∧ w'.cell? ⟨w.heap.size + 1, 1, none⟩ = some (.int .i64 l) ∧ w'.cell? ⟨w.heap.size + 1, 2, none⟩ = some (.int .i64 sc)) (first | (go_keep; done) | ((try go_split_ands); (repeat' apply And.intro) <;> ((try simp only [World.cell?_drew]); first | (with_reducible assumption) | (refine hb.keep ?_; (try simp only [World.cell?_drew]); first | (with_reducible assumption) | (simp [*, go_sem]; done)) | (simp [*, go_sem]; done)))) (first | (go_at_call 71; go_loud (with_reducible refine (greatest_any _ _ _ hl _).mono ?_; rintro e w6 ⟨rfl, hb⟩; have HX2' := Lib.hid (by first | exact (HX2.out.drewN _).gr hb | exact HX2.out.gr hb | exact HX2.out.drew.gr hb); clear HX2; have HX2 := HX2'; clear HX2'; have HT2' := Lib.hid (by first | exact (HT2.out.drewN _).gr hb | exact HT2.out.gr hb | exact HT2.out.drew.gr hb); clear HT2; have HT2 := HT2'; clear HT2'; have HV2' := Lib.hid (by first | exact (HV2.out.drewN _).gr hb | exact HV2.out.gr hb | exact HV2.out.drew.gr hb); clear HV2; have HV2 := HV2'; clear HV2'; have HN' := Lib.hid (by first | exact (HN.out.drewN _).gr hb | exact HN.out.gr hb | exact HN.out.drew.gr hb); clear HN; have HN := HN'; clear HN'; have HR' := Lib.hid (by first | exact (HR.out.drewN _).gr hb | exact HR.out.gr hb | exact HR.out.drew.gr hb); clear HR; have HR := HR'; clear HR'; have HE2' := Lib.hid (by first | exact (HE2.out.drewN _).gr hb | exact HE2.out.gr hb | exact HE2.out.drew.gr hb); clear HE2; have HE2 := HE2'; clear HE2'; have HG' := Lib.hid (by first | exact Gr.trans (HG.out.drewN _) hb | exact Gr.trans HG.out hb | exact Gr.trans HG.out.drew hb); clear HG; have HG := HG'; clear HG')) | (go_at_call 66; go_loud (with_reducible refine (hM _).mono ?_; rintro e w7 ⟨rfl, hb⟩; have HX2' := Lib.hid (by first | exact (HX2.out.drewN _).gr hb | exact HX2.out.gr hb | exact HX2.out.drew.gr hb); clear HX2; have HX2 := HX2'; clear HX2'; have HT2' := Lib.hid (by first | exact (HT2.out.drewN _).gr hb | exact HT2.out.gr hb | exact HT2.out.drew.gr hb); clear HT2; have HT2 := HT2'; clear HT2'; have HV2' := Lib.hid (by first | exact (HV2.out.drewN _).gr hb | exact HV2.out.gr hb | exact HV2.out.drew.gr hb); clear HV2; have HV2 := HV2'; clear HV2'; have HN' := Lib.hid (by first | exact (HN.out.drewN _).gr hb | exact HN.out.gr hb | exact HN.out.drew.gr hb); clear HN; have HN := HN'; clear HN'; have HR' := Lib.hid (by first | exact (HR.out.drewN _).gr hb | exact HR.out.gr hb | exact HR.out.drew.gr hb); clear HR; have HR := HR'; clear HR'; have HE2' := Lib.hid (by first | exact (HE2.out.drewN _).gr hb | exact HE2.out.gr hb | exact HE2.out.drew.gr hb); clear HE2; have HE2 := HE2'; clear HE2'; have HG' := Lib.hid (by first | exact Gr.trans (HG.out.drewN _) hb | exact Gr.trans HG.out hb | exact Gr.trans HG.out.drew hb); clear HG; have HG := HG'; clear HG')) | (go_at_call 70; go_loud (with_reducible refine (hC2' _).mono ?_; rintro e w8 ⟨rfl, hb⟩; have HX2' := Lib.hid (by first | exact (HX2.out.drewN _).gr hb | exact HX2.out.gr hb | exact HX2.out.drew.gr hb); clear HX2; have HX2 := HX2'; clear HX2'; have HT2' := Lib.hid (by first | exact (HT2.out.drewN _).gr hb | exact HT2.out.gr hb | exact HT2.out.drew.gr hb); clear HT2; have HT2 := HT2'; clear HT2'; have HV2' := Lib.hid (by first | exact (HV2.out.drewN _).gr hb | exact HV2.out.gr hb | exact HV2.out.drew.gr hb); clear HV2; have HV2 := HV2'; clear HV2'; have HN' := Lib.hid (by first | exact (HN.out.drewN _).gr hb | exact HN.out.gr hb | exact HN.out.drew.gr hb); clear HN; have HN := HN'; clear HN'; have HR' := Lib.hid (by first | exact (HR.out.drewN _).gr hb | exact HR.out.gr hb | exact HR.out.drew.gr hb); clear HR; have HR := HR'; clear HR'; have HE2' := Lib.hid (by first | exact (HE2.out.drewN _).gr hb | exact HE2.out.gr hb | exact HE2.out.drew.gr hb); clear HE2; have HE2 := HE2'; clear HE2'; have HG' := Lib.hid (by first | exact Gr.trans (HG.out.drewN _) hb | exact Gr.trans HG.out hb | exact Gr.trans HG.out.drew hb); clear HG; have HG := HG'; clear HG')))
        clear z0 z1 z2 t0 t1 t2
        have z0 := HN.out.cell 0 (by simp)
        simp only [List.getD_cons_zero] at z0
        have x0 := HX2.out.cell 0 rfl
        have v0 := HV2.out.cell 0 rfl
        have v1 := HV2.out.cell 1 rfl
        have f0 := HV2.out.frozen 0
        have f1 := HV2.out.frozen 1
        by_cases ho : 0 < cc2
        · go_wp2
          refine bodyPost_ret (v := .tuple #[.agg #[.int .i64 0, .string ⟨#[]⟩], .int .i64 19]) (by simp [results, Tryz.results35, go_sem, *]) rfl ⟨congrArg Ending.returned (by first | (rw [if_pos HF.out, if_pos HF.out]; simp [pres, ho]; done) | (simp [pres, ho]; done) | (have h := HF.out; simp [pres, ho, h]; done)), ?_⟩
          (repeat (first | with_reducible refine Gr.setCell ?_ (by simp <;> omega) _ | with_reducible refine Gr.drew ?_)); (with_reducible exact HG.out)
        · have hb18 := hy (by omega)
          cases b
          · go_wp2
            refine bodyPost_ret (v := .tuple #[.agg #[.int .i64 y0, .string ⟨#[]⟩], .int .i64 0]) (by simp [results, Tryz.results35, go_sem, *]) rfl ⟨congrArg Ending.returned (by first | (rw [if_pos HF.out, if_pos HF.out]; simp [pres, ho]; done) | (simp [pres, ho]; done) | (have h := HF.out; simp [pres, ho, h]; done)), ?_⟩
            (repeat (first | with_reducible refine Gr.setCell ?_ (by simp <;> omega) _ | with_reducible refine Gr.drew ?_)); (with_reducible exact HG.out)
          · go_wp2
            refine bodyPost_ret (v := .tuple #[.agg #[.int .i64 (-(y0 : Int)), .string ⟨#[]⟩], .int .i64 0]) (by simp [results, Tryz.results35, go_sem, *]) rfl ⟨congrArg Ending.returned (by first | (rw [if_pos HF.out, if_pos HF.out]; simp [pres, ho]; done) | (simp [pres, ho]; done) | (have h := HF.out; simp [pres, ho, h]; done)), ?_⟩
            (repeat (first | with_reducible refine Gr.setCell ?_ (by simp <;> omega) _ | with_reducible refine Gr.drew ?_)); (with_reducible exact HG.out)
    · have HF := Lib.hid (show ¬ (true = true ∧ 0 ≤ ch) by simp; omega)
      clear hP hH hY hC2 hy
      go_wp2
      have z0 := HN.out.cell 0 (by simp)
      have z1 := HN.out.cell 1 (by simp)
      have z2 := HN.out.cell 2 (by simp)
      simp only [List.getD_cons_zero, List.getD_cons_succ] at z0 z1 z2
      have t0 := HT2.out.cell 0 rfl
      have t1 := HT2.out.cell 1 rfl
      have t2 := HT2.out.cell 2 rfl
      go_region_held3 (fun w' => w'.cell? ⟨b10, 0, none⟩ = some (.int .u64 (q0 : Nat)) ∧ w'.cell? ⟨b10, 1, none⟩ = some (.int .u64 (q1 : Nat)) ∧ w'.cell? ⟨b10, 2, none⟩ = some (.int .u64 (q2 : Nat)) ∧ w'.cell? ⟨w.heap.size + 1, 0, none⟩ = some (.int .i64 k) ∧ w'.cell? ⟨w.heap.size + 1, 1, none⟩ = some (.int .i64 l) ∧ w'.cell? ⟨w.heap.size + 1, 2, none⟩ = some (.int .i64 sc)) (first | (go_keep; done) | ((try go_split_ands); (repeat' apply And.intro) <;> ((try simp only [World.cell?_drew]); first | (with_reducible assumption) | (refine hb.keep ?_; (try simp only [World.cell?_drew]); first | (with_reducible assumption) | (simp [*, go_sem]; done)) | (simp [*, go_sem]; done)))) (first | (go_at_call 71; go_loud (with_reducible refine (greatest_any _ _ _ hl _).mono ?_; rintro e w6 ⟨rfl, hb⟩; have HX2' := Lib.hid (by first | exact (HX2.out.drewN _).gr hb | exact HX2.out.gr hb | exact HX2.out.drew.gr hb); clear HX2; have HX2 := HX2'; clear HX2'; have HT2' := Lib.hid (by first | exact (HT2.out.drewN _).gr hb | exact HT2.out.gr hb | exact HT2.out.drew.gr hb); clear HT2; have HT2 := HT2'; clear HT2'; have HV2' := Lib.hid (by first | exact (HV2.out.drewN _).gr hb | exact HV2.out.gr hb | exact HV2.out.drew.gr hb); clear HV2; have HV2 := HV2'; clear HV2'; have HN' := Lib.hid (by first | exact (HN.out.drewN _).gr hb | exact HN.out.gr hb | exact HN.out.drew.gr hb); clear HN; have HN := HN'; clear HN'; have HR' := Lib.hid (by first | exact (HR.out.drewN _).gr hb | exact HR.out.gr hb | exact HR.out.drew.gr hb); clear HR; have HR := HR'; clear HR'; have HE2' := Lib.hid (by first | exact (HE2.out.drewN _).gr hb | exact HE2.out.gr hb | exact HE2.out.drew.gr hb); clear HE2; have HE2 := HE2'; clear HE2'; have HG' := Lib.hid (by first | exact Gr.trans (HG.out.drewN _) hb | exact Gr.trans HG.out hb | exact Gr.trans HG.out.drew hb); clear HG; have HG := HG'; clear HG')) | (go_at_call 66; go_loud (with_reducible refine (hM _).mono ?_; rintro e w7 ⟨rfl, hb⟩; have HX2' := Lib.hid (by first | exact (HX2.out.drewN _).gr hb | exact HX2.out.gr hb | exact HX2.out.drew.gr hb); clear HX2; have HX2 := HX2'; clear HX2'; have HT2' := Lib.hid (by first | exact (HT2.out.drewN _).gr hb | exact HT2.out.gr hb | exact HT2.out.drew.gr hb); clear HT2; have HT2 := HT2'; clear HT2'; have HV2' := Lib.hid (by first | exact (HV2.out.drewN _).gr hb | exact HV2.out.gr hb | exact HV2.out.drew.gr hb); clear HV2; have HV2 := HV2'; clear HV2'; have HN' := Lib.hid (by first | exact (HN.out.drewN _).gr hb | exact HN.out.gr hb | exact HN.out.drew.gr hb); clear HN; have HN := HN'; clear HN'; have HR' := Lib.hid (by first | exact (HR.out.drewN _).gr hb | exact HR.out.gr hb | exact HR.out.drew.gr hb); clear HR; have HR := HR'; clear HR'; have HE2' := Lib.hid (by first | exact (HE2.out.drewN _).gr hb | exact HE2.out.gr hb | exact HE2.out.drew.gr hb); clear HE2; have HE2 := HE2'; clear HE2'; have HG' := Lib.hid (by first | exact Gr.trans (HG.out.drewN _) hb | exact Gr.trans HG.out hb | exact Gr.trans HG.out.drew hb); clear HG; have HG := HG'; clear HG')) | (go_at_call 70; go_loud (with_reducible refine (hC1 _).mono ?_; rintro e w8 ⟨rfl, hb⟩; have HX2' := Lib.hid (by first | exact (HX2.out.drewN _).gr hb | exact HX2.out.gr hb | exact HX2.out.drew.gr hb); clear HX2; have HX2 := HX2'; clear HX2'; have HT2' := Lib.hid (by first | exact (HT2.out.drewN _).gr hb | exact HT2.out.gr hb | exact HT2.out.drew.gr hb); clear HT2; have HT2 := HT2'; clear HT2'; have HV2' := Lib.hid (by first | exact (HV2.out.drewN _).gr hb | exact HV2.out.gr hb | exact HV2.out.drew.gr hb); clear HV2; have HV2 := HV2'; clear HV2'; have HN' := Lib.hid (by first | exact (HN.out.drewN _).gr hb | exact HN.out.gr hb | exact HN.out.drew.gr hb); clear HN; have HN := HN'; clear HN'; have HR' := Lib.hid (by first | exact (HR.out.drewN _).gr hb | exact HR.out.gr hb | exact HR.out.drew.gr hb); clear HR; have HR := HR'; clear HR'; have HE2' := Lib.hid (by first | exact (HE2.out.drewN _).gr hb | exact HE2.out.gr hb | exact HE2.out.drew.gr hb); clear HE2; have HE2 := HE2'; clear HE2'; have HG' := Lib.hid (by first | exact Gr.trans (HG.out.drewN _) hb | exact Gr.trans HG.out hb | exact Gr.trans HG.out.drew hb); clear HG; have HG := HG'; clear HG')))
      clear z0 z1 z2 t0 t1 t2
      have z0 := HN.out.cell 0 (by simp)
      simp only [List.getD_cons_zero] at z0
      have x0 := HX2.out.cell 0 rfl
      have v0 := HV2.out.cell 0 rfl
      have v1 := HV2.out.cell 1 rfl
      have f0 := HV2.out.frozen 0
      have f1 := HV2.out.frozen 1
      by_cases ho : 0 < cc1
      · go_wp2
        refine bodyPost_ret (v := .tuple #[.agg #[.int .i64 0, .string ⟨#[]⟩], .int .i64 19]) (by simp [results, Tryz.results35, go_sem, *]) rfl ⟨congrArg Ending.returned (by first | (rw [if_neg HF.out, if_neg HF.out]; simp [pres, ho]; done) | (simp [pres, ho]; done) | (have h := HF.out; simp [pres, ho, h]; done)), ?_⟩
        (repeat (first | with_reducible refine Gr.setCell ?_ (by simp <;> omega) _ | with_reducible refine Gr.drew ?_)); (with_reducible exact HG.out)
      · have hb18 := hq (by omega)
        cases b
        · go_wp2
          refine bodyPost_ret (v := .tuple #[.agg #[.int .i64 q0, .string ⟨#[]⟩], .int .i64 0]) (by simp [results, Tryz.results35, go_sem, *]) rfl ⟨congrArg Ending.returned (by first | (rw [if_neg HF.out, if_neg HF.out]; simp [pres, ho]; done) | (simp [pres, ho]; done) | (have h := HF.out; simp [pres, ho, h]; done)), ?_⟩
          (repeat (first | with_reducible refine Gr.setCell ?_ (by simp <;> omega) _ | with_reducible refine Gr.drew ?_)); (with_reducible exact HG.out)
        · go_wp2
          refine bodyPost_ret (v := .tuple #[.agg #[.int .i64 (-(q0 : Int)), .string ⟨#[]⟩], .int .i64 0]) (by simp [results, Tryz.results35, go_sem, *]) rfl ⟨congrArg Ending.returned (by first | (rw [if_neg HF.out, if_neg HF.out]; simp [pres, ho]; done) | (simp [pres, ho]; done) | (have h := HF.out; simp [pres, ho, h]; done)), ?_⟩
          (repeat (first | with_reducible refine Gr.setCell ?_ (by simp <;> omega) _ | with_reducible refine Gr.drew ?_)); (with_reducible exact HG.out)
end Go.Proofs.YtnaflaokhldfnaaGreat
