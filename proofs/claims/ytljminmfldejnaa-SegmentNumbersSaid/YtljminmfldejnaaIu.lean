/- The program's way back: bytesBack, pagesBack, backTo. -/
import Derived.Test.YtljminmfldejnaaIc
namespace Go.Proofs.Ytljminmfldejnaa
set_option linter.unusedSimpArgs false
set_option linter.unusedVariables false
open Go.RowKit

/-- A slice of operations of the call's own. -/
def OpsR (l : List (Int × Int × Int × Int × ByteArray)) (w : World) (e : Ending) (w' : World) : Prop :=
  ∃ A c, e = .returned (.slice A l.length c) ∧ Sv w' A l.length c 5 (oc l) ∧ Gr w w'
theorem Sv.new5 (w : World) (a b c d e : Value) (t : TypeId) : Sv (w.alloc (.cells #[a, b, c, d, e] t)) (some ⟨w.heap.size, 0, none⟩) 1 1 5 [a, b, c, d, e] := by
  refine ⟨rfl, Nat.le_refl _, by unfold maxLen; omega, (fun e => by cases e), fun _ => ⟨w.heap.size, 0, rfl, by simp, fun j hj => ?_⟩⟩
  rw [Nat.zero_add, World.cell?_alloc_new]
  obtain rfl | rfl | rfl | rfl | rfl : j = 0 ∨ j = 1 ∨ j = 2 ∨ j = 3 ∨ j = 4 := by omega
  · rfl
  · rfl
  · rfl
  · rfl
  · rfl
/-- The operation that puts bytes back. -/
def bbL (m : Int) (x : ByteArray) (o : Nat) (d : ByteArray) : List (Int × Int × Int × Int × ByteArray) := if x.extract o (o + d.size) = d then [] else [(4, m, (o : Int), 0, x.extract o (o + d.size))]
/-- The operations that put pages back. -/
def pbL (m : Int) (x : ByteArray) (q : Nat) : List (Int × Int × Int × Int × ByteArray) := if pgs x - q = 0 then [] else (1, m, 0, pgs x - q, ⟨#[]⟩) :: bbL m x (32 * q) (zP (pgs x - q).toNat)

set_option maxHeartbeats 2000000 in
set_option maxRecDepth 100000 in
theorem bytesBack_any (m : Int) (x : ByteArray) (o : Nat) (O : Int) (hO : O = o) (d : ByteArray) (h : o + d.size ≤ x.size) (hx : x.size ≤ 100000) (w : World) :
    Calls Try.prog 70 #[.agg #[.int .i64 m, .string x], .int .i64 O, .string d] w (OpsR (bbL m x o d) w) := by
  have hadd : IntKind.i64.wrap (O + d.size) = O + d.size := IntWalk.i64_in _ (by omega)
  have hsl := cut_ij x O (O + d.size) o (o + d.size) hO (by omega) (by omega) h
  subst hO
  by_cases he : x.extract o (o + d.size) = d
  · have E := Lib.hid (show bbL m x o d = [] by rw [bbL, if_pos he])
    rw [he] at hsl
    clear he
    go_enter Try.func70, Try.ntmps70
    go_wp2
    go_ret
    rw [E.out]
    exact ⟨none, 0, rfl, Sv.nil _ _, (by repeat (first | (with_reducible exact Gr.refl _) | (with_reducible assumption) | (with_reducible refine Gr.alloc ?_ _) | (with_reducible refine Gr.drew ?_) | (with_reducible refine Gr.drewN ?_ _) | (with_reducible refine Gr.setCell ?_ (by simp <;> omega) _) | (with_reducible refine Gr.trans ?_ (by with_reducible assumption)) | exact Gr.refl _ | assumption | refine Gr.alloc ?_ _ | refine Gr.drew ?_ | refine Gr.drewN ?_ _ | refine Gr.setCell ?_ (by simp <;> omega) _ | refine Gr.trans ?_ (by assumption)))⟩
  · have E := Lib.hid (show bbL m x o d = [(4, m, (o : Int), 0, x.extract o (o + d.size))] by rw [bbL, if_neg he])
    have hne : ((x.extract o (o + d.size)).toList == d.toList) = false := beq_eq_false_iff_ne.2 fun e => he (toList_inj e)
    clear he
    generalize x.extract o (o + d.size) = y at *
    go_enter Try.func70, Try.ntmps70
    go_wp2
    go_ret
    rw [E.out]
    exact ⟨some ⟨w.heap.size + 1, 0, none⟩, 1, by simp, by have h := Sv.new5 (w.alloc (Obj.cells #[Value.int .i64 m, Value.string x] 71)) (.int .i64 4) (.int .i64 m) (.int .i64 o) (.int .i64 0) (.string y) 62; simp only [World.size_alloc] at h; exact h, (by repeat (first | (with_reducible exact Gr.refl _) | (with_reducible assumption) | (with_reducible refine Gr.alloc ?_ _) | (with_reducible refine Gr.drew ?_) | (with_reducible refine Gr.drewN ?_ _) | (with_reducible refine Gr.setCell ?_ (by simp <;> omega) _) | (with_reducible refine Gr.trans ?_ (by with_reducible assumption)) | exact Gr.refl _ | assumption | refine Gr.alloc ?_ _ | refine Gr.drew ?_ | refine Gr.drewN ?_ _ | refine Gr.setCell ?_ (by simp <;> omega) _ | refine Gr.trans ?_ (by assumption)))⟩

set_option maxHeartbeats 4000000 in
set_option maxRecDepth 100000 in
theorem pagesBack_any (m : Int) (x : ByteArray) (q : Nat) (h1 : (q : Int) ≤ pgs x) (hx : x.size ≤ 287) (h32 : x.size % 32 = 0) (w : World) :
    Calls Try.prog 69 #[.agg #[.int .i64 m, .string x], .int .i64 q] w (OpsR (pbL m x q) w) := by
  obtain ⟨i0, hi, iz0, iz1, iz2⟩ := info_parts infoOp
  have hp8 : 0 ≤ pgs x ∧ pgs x ≤ 8 := by unfold pgs; omega
  have hpp : pgs x = x.size / 32 := rfl
  have HPG := Lib.hid (fun W => pagesOf_any m x (by unfold maxLen; omega) W)
  have hsub : IntKind.i64.wrap (pgs x - q) = pgs x - q := IntWalk.i64_in _ (by omega)
  by_cases h0 : pgs x - q = 0
  · have E := Lib.hid (show pbL m x q = [] by rw [pbL, if_pos h0])
    have h0' : pgs x = q := by omega
    clear h0 hpp
    generalize pgs x = P at *
    subst h0'
    have hss : (q : Int) - q = 0 := by omega
    go_enter Try.func69, Try.ntmps69
    go_wp2_with ((go_at_call 45; (with_reducible refine (HPG.out _).mono ?_); rintro e w1 ⟨rfl, hb⟩; obtain ⟨hc, hf⟩ := gcells hb (w.heap.size + 1) (by first | exact hz | omega | (simp; done) | (simp; omega)); have hz : w.heap.size + 1 ≤ w1.heap.size := (by have h := hb.size; (try simp at h); omega); have hz0 : w.heap.size < w1.heap.size := (by omega)))
    go_ret
    rw [E.out]
    exact ⟨none, 0, rfl, Sv.nil _ _, (by repeat (first | (with_reducible exact Gr.refl _) | (with_reducible assumption) | (with_reducible refine Gr.alloc ?_ _) | (with_reducible refine Gr.drew ?_) | (with_reducible refine Gr.drewN ?_ _) | (with_reducible refine Gr.setCell ?_ (by simp <;> omega) _) | (with_reducible refine Gr.trans ?_ (by with_reducible assumption)) | exact Gr.refl _ | assumption | refine Gr.alloc ?_ _ | refine Gr.drew ?_ | refine Gr.drewN ?_ _ | refine Gr.setCell ?_ (by simp <;> omega) _ | refine Gr.trans ?_ (by assumption)))⟩
  · obtain ⟨r, hr⟩ := Int.eq_ofNat_of_zero_le (show 0 ≤ pgs x - q by omega)
    have hr0 : ((r : Int) == 0) = false := by simp; omega
    have E := Lib.hid (show pbL m x q = (1, m, 0, (r : Int), ⟨#[]⟩) :: bbL m x (32 * q) (zP r) by rw [pbL, if_neg h0, hr]; rfl)
    have hr8 : r ≤ 8 := by omega
    have hz := zP_size r
    have hwm : IntKind.i64.wrap ((q : Int) * 32) = (q : Int) * 32 := IntWalk.i64_in _ (by omega)
    have hBB := fun W => bytesBack_any m x (32 * q) ((q : Int) * 32) (by omega) (zP r) (by omega) (by omega) W
    have HBB := Lib.hid hBB
    have hlen : (bbL m x (32 * q) (zP r)).length ≤ 1 := by unfold bbL; split <;> simp
    rw [hr] at hsub
    clear h0 hz hBB
    have hsr : (pgs x : Int) - q = r := hr
    clear hr hpp
    generalize bbL m x (32 * q) (zP r) = bl at *
    generalize pgs x = P at *
    go_enter Try.func69, Try.ntmps69
    go_upto_region 5 with ((go_at_call 45; (with_reducible refine (HPG.out _).mono ?_); rintro e w1 ⟨rfl, hb⟩; obtain ⟨hc, hf⟩ := gcells hb (w.heap.size + 1) (by first | exact hz | omega | (simp; done) | (simp; omega)); have hz : w.heap.size + 1 ≤ w1.heap.size := (by have h := hb.size; (try simp at h); omega); have hz0 : w.heap.size < w1.heap.size := (by omega)))
    have b0 : w1.cell? ⟨w.heap.size, 0, none⟩ = some (.int .i64 m) := by simp [go_sem, *]
    have b1 : w1.cell? ⟨w.heap.size, 1, none⟩ = some (.string x) := by simp [go_sem, *]
    have G1 := Lib.hid (show Gr w (w1.alloc (.cells #[.int .i64 1, .int .i64 m, .int .i64 0, .int .i64 r, .string ⟨#[]⟩] 62)) from (by repeat (first | (with_reducible exact Gr.refl _) | (with_reducible assumption) | (with_reducible refine Gr.alloc ?_ _) | (with_reducible refine Gr.drew ?_) | (with_reducible refine Gr.drewN ?_ _) | (with_reducible refine Gr.setCell ?_ (by simp <;> omega) _) | (with_reducible refine Gr.trans ?_ (by with_reducible assumption)) | exact Gr.refl _ | assumption | refine Gr.alloc ?_ _ | refine Gr.drew ?_ | refine Gr.drewN ?_ _ | refine Gr.setCell ?_ (by simp <;> omega) _ | refine Gr.trans ?_ (by assumption))))
    have d0 := ((Gr.refl w1).alloc (.cells #[.int .i64 1, .int .i64 m, .int .i64 0, .int .i64 r, .string ⟨#[]⟩] 62)).keep b0
    have d1 := ((Gr.refl w1).alloc (.cells #[.int .i64 1, .int .i64 m, .int .i64 0, .int .i64 r, .string ⟨#[]⟩] 62)).keep b1
    have c0 : (w1.alloc (.cells #[.int .i64 1, .int .i64 m, .int .i64 0, .int .i64 r, .string ⟨#[]⟩] 62)).cell? ⟨w1.heap.size, 0, none⟩ = some (.int .i64 1) := by simp [go_sem]
    have c1 : (w1.alloc (.cells #[.int .i64 1, .int .i64 m, .int .i64 0, .int .i64 r, .string ⟨#[]⟩] 62)).cell? ⟨w1.heap.size, 1, none⟩ = some (.int .i64 m) := by simp [go_sem]
    have c2 : (w1.alloc (.cells #[.int .i64 1, .int .i64 m, .int .i64 0, .int .i64 r, .string ⟨#[]⟩] 62)).cell? ⟨w1.heap.size, 2, none⟩ = some (.int .i64 0) := by simp [go_sem]
    have c3 : (w1.alloc (.cells #[.int .i64 1, .int .i64 m, .int .i64 0, .int .i64 r, .string ⟨#[]⟩] 62)).cell? ⟨w1.heap.size, 3, none⟩ = some (.int .i64 r) := by simp [go_sem]
    have c4 : (w1.alloc (.cells #[.int .i64 1, .int .i64 m, .int .i64 0, .int .i64 r, .string ⟨#[]⟩] 62)).cell? ⟨w1.heap.size, 4, none⟩ = some (.string ⟨#[]⟩) := by simp [go_sem]
    have hs6 : w1.heap.size < (w1.alloc (.cells #[.int .i64 1, .int .i64 m, .int .i64 0, .int .i64 r, .string ⟨#[]⟩] 62)).heap.size := by simp
    have hs7 : w.heap.size < (w1.alloc (.cells #[.int .i64 1, .int .i64 m, .int .i64 0, .int .i64 r, .string ⟨#[]⟩] 62)).heap.size := by simp; omega
    clear hc hf hb b0 b1
    generalize w1.alloc (.cells #[.int .i64 1, .int .i64 m, .int .i64 0, .int .i64 r, .string ⟨#[]⟩] 62) = W1 at *
    generalize w1.heap.size = g6 at *
    go_region_held3 (fun w' => w'.cell? ⟨w.heap.size, 0, none⟩ = some (.int .i64 m) ∧ w'.cell? ⟨w.heap.size, 1, none⟩ = some (.string x) ∧ w'.cell? ⟨g6, 0, none⟩ = some (.int .i64 1) ∧ w'.cell? ⟨g6, 1, none⟩ = some (.int .i64 m) ∧ w'.cell? ⟨g6, 2, none⟩ = some (.int .i64 0) ∧ w'.cell? ⟨g6, 3, none⟩ = some (.int .i64 r) ∧ w'.cell? ⟨g6, 4, none⟩ = some (.string ⟨#[]⟩)) (((try go_split_ands); (repeat' apply And.intro) <;> ((try simp only [World.cell?_drew]); first | (with_reducible assumption) | (simp [go_sem]; done) | ((repeat (first | (refine keepFar ?_ (by first | (dsimp only; omega) | (simp; done) | (simp; omega))) | (refine (Gr.alloc (Gr.refl _) _).keep ?_))); (try simp only [World.cell?_drew]); first | (with_reducible assumption) | (refine hb.keep ?_; (try simp only [World.cell?_drew]); first | (with_reducible assumption) | (simp [go_sem]; done) | ((repeat (refine (Gr.alloc (Gr.refl _) _).keep ?_)); (try simp only [World.cell?_drew]); (with_reducible assumption))) | (simp [*, go_sem]; done)))))
      (first
        | (go_at_call 48; (with_reducible refine (zeroPages_any r (by omega) _).mono ?_); rintro e w3 ⟨rfl, hb⟩; have hG3 := Lib.hid (show Gr W1 w3 from Gr.trans (by repeat (first | (with_reducible exact Gr.refl _) | (with_reducible assumption) | (with_reducible refine Gr.alloc ?_ _) | (with_reducible refine Gr.drew ?_) | (with_reducible refine Gr.drewN ?_ _) | (with_reducible refine Gr.setCell ?_ (by simp <;> omega) _) | (with_reducible refine Gr.trans ?_ (by with_reducible assumption)) | exact Gr.refl _ | assumption | refine Gr.alloc ?_ _ | refine Gr.drew ?_ | refine Gr.drewN ?_ _ | refine Gr.setCell ?_ (by simp <;> omega) _ | refine Gr.trans ?_ (by assumption))) hb))
        | (go_at_call 70; (with_reducible refine (HBB.out _).mono ?_); rintro e w4 ⟨A4, c4, rfl, hV, hb4⟩; have HV := Lib.hid hV; clear hV; have hb := hb.trans (Gr.trans (by repeat (first | (with_reducible exact Gr.refl _) | (with_reducible assumption) | (with_reducible refine Gr.alloc ?_ _) | (with_reducible refine Gr.drew ?_) | (with_reducible refine Gr.drewN ?_ _) | (with_reducible refine Gr.setCell ?_ (by simp <;> omega) _) | (with_reducible refine Gr.trans ?_ (by with_reducible assumption)) | exact Gr.refl _ | assumption | refine Gr.alloc ?_ _ | refine Gr.drew ?_ | refine Gr.drewN ?_ _ | refine Gr.setCell ?_ (by simp <;> omega) _ | refine Gr.trans ?_ (by assumption))) hb4); have hG4 := Lib.hid (show Gr W1 w4 from hG3.out.trans (Gr.trans (by repeat (first | (with_reducible exact Gr.refl _) | (with_reducible assumption) | (with_reducible refine Gr.alloc ?_ _) | (with_reducible refine Gr.drew ?_) | (with_reducible refine Gr.drewN ?_ _) | (with_reducible refine Gr.setCell ?_ (by simp <;> omega) _) | (with_reducible refine Gr.trans ?_ (by with_reducible assumption)) | exact Gr.refl _ | assumption | refine Gr.alloc ?_ _ | refine Gr.drew ?_ | refine Gr.drewN ?_ _ | refine Gr.setCell ?_ (by simp <;> omega) _ | refine Gr.trans ?_ (by assumption))) hb4)))
        | (refine step_append_sv _ (by rfl) _ _ 55 62 (by rfl) i0 (.agg #[.int .i64 0, .int .i64 0, .int .i64 0, .int .i64 0, .string ⟨#[]⟩]) 5 48 Try.underlying55 hi iz0 iz1 iz2 rfl (by omega) W1.heap.size _ 1 [.int .i64 1, .int .i64 m, .int .i64 0, .int .i64 r, .string ⟨#[]⟩] (by rfl) (by first | exact (own_gr (World.ownsRow_lit W1.drew #[.int .i64 1, .int .i64 m, .int .i64 0, .int .i64 r, .string ⟨#[]⟩] 1 (Nat.le_refl _) (by unfold maxLen; omega) rfl) hb) | exact (own_gr (World.ownsRow_lit w3 #[.int .i64 1, .int .i64 m, .int .i64 0, .int .i64 r, .string ⟨#[]⟩] 1 (hG3.out.size) (by unfold maxLen; omega) rfl) hb4) | exact (World.ownsRow_lit w4 #[.int .i64 1, .int .i64 m, .int .i64 0, .int .i64 r, .string ⟨#[]⟩] 1 (hG4.out.size) (by unfold maxLen; omega) rfl)) A4 bl.length c4 (oc bl) (by rfl) (HV.out.gr (by repeat (first | (with_reducible exact Gr.refl _) | (with_reducible assumption) | (with_reducible refine Gr.alloc ?_ _) | (with_reducible refine Gr.drew ?_) | (with_reducible refine Gr.drewN ?_ _) | (with_reducible refine Gr.setCell ?_ (by simp <;> omega) _) | (with_reducible refine Gr.trans ?_ (by with_reducible assumption)) | exact Gr.refl _ | assumption | refine Gr.alloc ?_ _ | refine Gr.drew ?_ | refine Gr.drewN ?_ _ | refine Gr.setCell ?_ (by simp <;> omega) _ | refine Gr.trans ?_ (by assumption)))) (oc_one bl) (by unfold maxLen; omega) (by omega) (by have h := hG4.out.size; (try simp); omega) ?_; intro v6 w6 hO6 hB6 hG6; have hb := Gr.and_below (hG4.out.trans (by repeat (first | (with_reducible exact Gr.refl _) | (with_reducible assumption) | (with_reducible refine Gr.alloc ?_ _) | (with_reducible refine Gr.drew ?_) | (with_reducible refine Gr.drewN ?_ _) | (with_reducible refine Gr.setCell ?_ (by simp <;> omega) _) | (with_reducible refine Gr.trans ?_ (by with_reducible assumption)) | exact Gr.refl _ | assumption | refine Gr.alloc ?_ _ | refine Gr.drew ?_ | refine Gr.drewN ?_ _ | refine Gr.setCell ?_ (by simp <;> omega) _ | refine Gr.trans ?_ (by assumption)))) hB6 (Nat.le_refl _)))
    all_goals
      go_wp2
      go_ret
      obtain ⟨A', c', rfl, hW⟩ := wv_of_own hO6
      rw [E.out]
      have hl1 : ((1, m, (0 : Int), (r : Int), (⟨#[]⟩ : ByteArray)) :: bl).length = 1 + bl.length := by rw [List.length_cons]; omega
      unfold OpsR
      rw [hl1]
      exact ⟨A', c', rfl, hW.sv, G1.out.trans hb⟩
set_option maxHeartbeats 2000000 in
set_option maxRecDepth 100000 in
theorem backTo_2 (m : Int) (x : ByteArray) (sn o pg : Int) (b : ByteArray) (l : List (Int × Int × Int × Int × ByteArray))
    (HC : ∀ W, Calls Try.prog 69 #[.agg #[.int .i64 m, .string x], .int .i64 pg] W (OpsR l W)) (w : World) :
    Calls Try.prog 61 #[.agg #[.int .i64 m, .string x], .agg #[.int .i64 2, .int .i64 sn, .int .i64 o, .int .i64 pg, .string b]] w (OpsR l w) := by
  have HC' := Lib.hid HC
  clear HC
  go_enter Try.func61, Try.ntmps61
  go_wp2_with (go_at_call 69; (with_reducible refine (HC'.out _).mono ?_); rintro e w1 ⟨A1, c1, rfl, hV, hb⟩)
  go_ret
  exact ⟨A1, c1, rfl, hV, (by repeat (first | (with_reducible exact Gr.refl _) | (with_reducible assumption) | (with_reducible refine Gr.alloc ?_ _) | (with_reducible refine Gr.drew ?_) | (with_reducible refine Gr.drewN ?_ _) | (with_reducible refine Gr.setCell ?_ (by simp <;> omega) _) | (with_reducible refine Gr.trans ?_ (by with_reducible assumption)) | exact Gr.refl _ | assumption | refine Gr.alloc ?_ _ | refine Gr.drew ?_ | refine Gr.drewN ?_ _ | refine Gr.setCell ?_ (by simp <;> omega) _ | refine Gr.trans ?_ (by assumption)))⟩
set_option maxHeartbeats 2000000 in
set_option maxRecDepth 100000 in
theorem backTo_4 (m : Int) (x : ByteArray) (sn o pg : Int) (b : ByteArray) (l : List (Int × Int × Int × Int × ByteArray))
    (HC : ∀ W, Calls Try.prog 70 #[.agg #[.int .i64 m, .string x], .int .i64 o, .string b] W (OpsR l W)) (w : World) :
    Calls Try.prog 61 #[.agg #[.int .i64 m, .string x], .agg #[.int .i64 4, .int .i64 sn, .int .i64 o, .int .i64 pg, .string b]] w (OpsR l w) := by
  have HC' := Lib.hid HC
  clear HC
  go_enter Try.func61, Try.ntmps61
  go_wp2_with (go_at_call 70; (with_reducible refine (HC'.out _).mono ?_); rintro e w1 ⟨A1, c1, rfl, hV, hb⟩)
  go_ret
  exact ⟨A1, c1, rfl, hV, (by repeat (first | (with_reducible exact Gr.refl _) | (with_reducible assumption) | (with_reducible refine Gr.alloc ?_ _) | (with_reducible refine Gr.drew ?_) | (with_reducible refine Gr.drewN ?_ _) | (with_reducible refine Gr.setCell ?_ (by simp <;> omega) _) | (with_reducible refine Gr.trans ?_ (by with_reducible assumption)) | exact Gr.refl _ | assumption | refine Gr.alloc ?_ _ | refine Gr.drew ?_ | refine Gr.drewN ?_ _ | refine Gr.setCell ?_ (by simp <;> omega) _ | refine Gr.trans ?_ (by assumption)))⟩
set_option maxHeartbeats 2000000 in
set_option maxRecDepth 100000 in
theorem backTo_1 (m : Int) (x : ByteArray) (sn o pg : Int) (b : ByteArray) (hx : x.size ≤ maxLen) (w : World) :
    Calls Try.prog 61 #[.agg #[.int .i64 m, .string x], .agg #[.int .i64 1, .int .i64 sn, .int .i64 o, .int .i64 pg, .string b]] w (OpsR [(2, m, 0, pgs x, ⟨#[]⟩)] w) := by
  have HPG := Lib.hid (fun W => pagesOf_any m x hx W)
  clear hx
  generalize pgs x = P at *
  go_enter Try.func61, Try.ntmps61
  go_upto_region 3 with (fail)
  go_region_held3 (fun w' => w'.cell? ⟨w.heap.size, 0, none⟩ = some (.int .i64 m) ∧ w'.cell? ⟨w.heap.size, 1, none⟩ = some (.string x)) (((try go_split_ands); (repeat' apply And.intro) <;> ((try simp only [World.cell?_drew]); first | (with_reducible assumption) | (simp [go_sem]; done) | ((repeat (first | (refine keepFar ?_ (by first | (dsimp only; omega) | (simp; done) | (simp; omega))) | (refine (Gr.alloc (Gr.refl _) _).keep ?_))); (try simp only [World.cell?_drew]); first | (with_reducible assumption) | (refine hb.keep ?_; (try simp only [World.cell?_drew]); first | (with_reducible assumption) | (simp [go_sem]; done) | ((repeat (refine (Gr.alloc (Gr.refl _) _).keep ?_)); (try simp only [World.cell?_drew]); (with_reducible assumption))) | (simp [*, go_sem]; done)))))
    ((go_at_call 45; (with_reducible refine (HPG.out _).mono ?_); rintro e w1 ⟨rfl, hb⟩))
  all_goals
    go_wp2
    go_ret
    exact ⟨some ⟨w1.heap.size, 0, none⟩, 1, rfl, Sv.new5 w1 (.int .i64 2) (.int .i64 m) (.int .i64 0) (.int .i64 P) (.string ⟨#[]⟩) 62, (by repeat (first | (with_reducible exact Gr.refl _) | (with_reducible assumption) | (with_reducible refine Gr.alloc ?_ _) | (with_reducible refine Gr.drew ?_) | (with_reducible refine Gr.drewN ?_ _) | (with_reducible refine Gr.setCell ?_ (by simp <;> omega) _) | (with_reducible refine Gr.trans ?_ (by with_reducible assumption)) | exact Gr.refl _ | assumption | refine Gr.alloc ?_ _ | refine Gr.drew ?_ | refine Gr.drewN ?_ _ | refine Gr.setCell ?_ (by simp <;> omega) _ | refine Gr.trans ?_ (by assumption)))⟩
end Go.Proofs.Ytljminmfldejnaa
