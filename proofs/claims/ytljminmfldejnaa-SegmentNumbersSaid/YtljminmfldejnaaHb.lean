/- Stores: which are right (the program's CheckStore). -/
import Derived.Test.YtljminmfldejnaaHa
namespace Go.Proofs.Ytljminmfldejnaa
set_option linter.unusedSimpArgs false
set_option linter.unusedVariables false
open Go.RowKit

theorem isFromOne_any (n m : Int) (w : World) : Calls Try.prog 43 #[.int .i64 n, .int .i64 m] w fun e w' => e = .returned (.bool (wiB n 1 m)) ∧ w = w' := by
  by_cases h : 1 ≤ n
  · go_enter Try.func43, Try.ntmps43
    go_wp2
    go_ret
    exact ⟨ret_bool (by simp [wiB, h]), rfl⟩
  · go_enter Try.func43, Try.ntmps43
    go_wp2
    go_ret
    exact ⟨ret_bool (by simp [wiB]; omega), rfl⟩
theorem Within_any (n a b : Int) (w : World) : Calls Try.prog 42 #[.int .i64 n, .int .i64 a, .int .i64 b] w fun e w' => e = .returned (.bool (wiB n a b)) ∧ w = w' := by
  by_cases h : a ≤ n
  · go_enter Try.func42, Try.ntmps42
    go_wp2
    go_ret
    exact ⟨ret_bool (by simp [wiB, h]), rfl⟩
  · go_enter Try.func42, Try.ntmps42
    go_wp2
    go_ret
    exact ⟨ret_bool (by simp [wiB]; omega), rfl⟩
theorem isFromOne_is (n m : Int) (r : Bool) (h : wiB n 1 m = r) (w : World) : Calls Try.prog 43 #[.int .i64 n, .int .i64 m] w fun e w' => e = .returned (.bool r) ∧ w = w' := by
  subst h; exact isFromOne_any n m w
theorem Within_is (n a b : Int) (r : Bool) (h : wiB n a b = r) (w : World) : Calls Try.prog 42 #[.int .i64 n, .int .i64 a, .int .i64 b] w fun e w' => e = .returned (.bool r) ∧ w = w' := by
  subst h; exact Within_any n a b w

/-- Pages of a string. -/
def pgs (x : ByteArray) : Int := (x.size : Int) / 32
theorem pagesOf_any (n : Int) (x : ByteArray) (hx : x.size ≤ maxLen) (w : World) : Calls Try.prog 45 #[.agg #[.int .i64 n, .string x]] w fun e w' => e = .returned (.int .i64 (pgs x)) ∧ Gr w w' := by
  unfold maxLen at hx
  go_enter Try.func45, Try.ntmps45
  go_wp2
  go_ret
  exact ⟨rfl, (by repeat (first | (with_reducible exact Gr.refl _) | (with_reducible assumption) | (with_reducible refine Gr.alloc ?_ _) | (with_reducible refine Gr.drew ?_) | (with_reducible refine Gr.drewN ?_ _) | (with_reducible refine Gr.setCell ?_ (by simp <;> omega) _) | (with_reducible refine Gr.trans ?_ (by with_reducible assumption)) | exact Gr.refl _ | assumption | refine Gr.alloc ?_ _ | refine Gr.drew ?_ | refine Gr.drewN ?_ _ | refine Gr.setCell ?_ (by simp <;> omega) _ | refine Gr.trans ?_ (by assumption)))⟩
theorem Pages_any (x : ByteArray) (hx : x.size ≤ maxLen) (w : World) : Calls Try.prog 46 #[.string x] w fun e w' => e = .returned (.int .i64 (pgs x)) ∧ Gr w w' := by
  unfold maxLen at hx
  go_enter Try.func46, Try.ntmps46
  go_wp2
  go_ret
  exact ⟨rfl, (by repeat (first | (with_reducible exact Gr.refl _) | (with_reducible assumption) | (with_reducible refine Gr.alloc ?_ _) | (with_reducible refine Gr.drew ?_) | (with_reducible refine Gr.drewN ?_ _) | (with_reducible refine Gr.setCell ?_ (by simp <;> omega) _) | (with_reducible refine Gr.trans ?_ (by with_reducible assumption)) | exact Gr.refl _ | assumption | refine Gr.alloc ?_ _ | refine Gr.drew ?_ | refine Gr.drewN ?_ _ | refine Gr.setCell ?_ (by simp <;> omega) _ | refine Gr.trans ?_ (by assumption)))⟩

/-- The error of a segment behind the one with a number. -/
def sgE (nx bf : Int) (m : Int) (x : ByteArray) : Int :=
  if wiB m 1 (nx - 1) = false then 3 else if m ≤ bf then 14 else if ((x.size : Int) % 32 != 0) = true then 18 else if wiB (pgs x) 1 8 = false then 18 else 0

set_option maxRecDepth 100000 in
theorem checkSegment_any (m : Int) (x : ByteArray) (bf nx : Int) (hx : x.size ≤ maxLen) (h1 : 1 ≤ nx) (h2 : nx ≤ 1001) (w : World) :
    Calls Try.prog 44 #[.agg #[.int .i64 m, .string x], .int .i64 bf, .int .i64 nx] w fun e w' => e = .returned (.int .i64 (sgE nx bf m x)) ∧ Gr w w' := by
  have hx' := hx
  unfold maxLen at hx'
  rcases Bool.eq_false_or_eq_true (wiB m 1 (nx - 1)) with hA | hA
  rotate_left
  · go_enter Try.func44, Try.ntmps44
    go_wp2_with ((go_at_call 43; (with_reducible refine (isFromOne_is _ _ _ hA _).mono ?_); rintro e w1 ⟨rfl, rfl⟩))
    go_ret
    exact ⟨ret_int (by simp [sgE, hA]), (by repeat (first | (with_reducible exact Gr.refl _) | (with_reducible assumption) | (with_reducible refine Gr.alloc ?_ _) | (with_reducible refine Gr.drew ?_) | (with_reducible refine Gr.drewN ?_ _) | (with_reducible refine Gr.setCell ?_ (by simp <;> omega) _) | (with_reducible refine Gr.trans ?_ (by with_reducible assumption)) | exact Gr.refl _ | assumption | refine Gr.alloc ?_ _ | refine Gr.drew ?_ | refine Gr.drewN ?_ _ | refine Gr.setCell ?_ (by simp <;> omega) _ | refine Gr.trans ?_ (by assumption)))⟩
  by_cases hB : m ≤ bf
  · have HV := Lib.hid (show sgE nx bf m x = 14 by simp [sgE, hA, hB])
    go_enter Try.func44, Try.ntmps44
    go_wp2_with ((go_at_call 43; (with_reducible refine (isFromOne_is _ _ _ hA _).mono ?_); rintro e w1 ⟨rfl, rfl⟩))
    go_ret
    exact ⟨ret_int HV.out.symm, (by repeat (first | (with_reducible exact Gr.refl _) | (with_reducible assumption) | (with_reducible refine Gr.alloc ?_ _) | (with_reducible refine Gr.drew ?_) | (with_reducible refine Gr.drewN ?_ _) | (with_reducible refine Gr.setCell ?_ (by simp <;> omega) _) | (with_reducible refine Gr.trans ?_ (by with_reducible assumption)) | exact Gr.refl _ | assumption | refine Gr.alloc ?_ _ | refine Gr.drew ?_ | refine Gr.drewN ?_ _ | refine Gr.setCell ?_ (by simp <;> omega) _ | refine Gr.trans ?_ (by assumption)))⟩
  rcases Bool.eq_false_or_eq_true ((x.size : Int) % 32 != 0) with hC | hC
  · have HV := Lib.hid (show sgE nx bf m x = 18 by simp only [sgE, hA, if_neg hB, hC]; rfl)
    go_enter Try.func44, Try.ntmps44
    go_wp2_with ((go_at_call 43; (with_reducible refine (isFromOne_is _ _ _ hA _).mono ?_); rintro e w1 ⟨rfl, rfl⟩))
    go_ret
    exact ⟨ret_int HV.out.symm, (by repeat (first | (with_reducible exact Gr.refl _) | (with_reducible assumption) | (with_reducible refine Gr.alloc ?_ _) | (with_reducible refine Gr.drew ?_) | (with_reducible refine Gr.drewN ?_ _) | (with_reducible refine Gr.setCell ?_ (by simp <;> omega) _) | (with_reducible refine Gr.trans ?_ (by with_reducible assumption)) | exact Gr.refl _ | assumption | refine Gr.alloc ?_ _ | refine Gr.drew ?_ | refine Gr.drewN ?_ _ | refine Gr.setCell ?_ (by simp <;> omega) _ | refine Gr.trans ?_ (by assumption)))⟩
  rcases (show (wiB (pgs x) 1 8 = true ∧ sgE nx bf m x = 0) ∨ (wiB (pgs x) 1 8 = false ∧ sgE nx bf m x = 18) by
    rcases Bool.eq_false_or_eq_true (wiB (pgs x) 1 8) with hD | hD
    · exact .inl ⟨hD, by simp only [sgE, hA, if_neg hB, hC, hD]; rfl⟩
    · exact .inr ⟨hD, by simp only [sgE, hA, if_neg hB, hC, hD]; rfl⟩) with ⟨hD, hV⟩ | ⟨hD, hV⟩
  all_goals
    have HV := Lib.hid hV
    clear hV
    go_enter Try.func44, Try.ntmps44
    go_wp2_with (first | (go_at_call 43; (with_reducible refine (isFromOne_is _ _ _ hA _).mono ?_); rintro e w1 ⟨rfl, rfl⟩) | (go_at_call 43; (with_reducible refine (isFromOne_is _ _ _ hD _).mono ?_); rintro e w1 ⟨rfl, rfl⟩) | (go_at_call 45; (with_reducible refine (pagesOf_any _ _ hx _).mono ?_); rintro e w1 ⟨rfl, hb⟩; obtain ⟨hc, hf⟩ := gcells hb (w.heap.size + 1) (by first | exact hz | omega | (simp; done) | (simp; omega)); have hz : w.heap.size + 1 ≤ w1.heap.size := (by have h := hb.size; (try simp at h); omega); have hz0 : w.heap.size < w1.heap.size := (by omega)))
    go_ret
    exact ⟨ret_int HV.out.symm, (by repeat (first | (with_reducible exact Gr.refl _) | (with_reducible assumption) | (with_reducible refine Gr.alloc ?_ _) | (with_reducible refine Gr.drew ?_) | (with_reducible refine Gr.drewN ?_ _) | (with_reducible refine Gr.setCell ?_ (by simp <;> omega) _) | (with_reducible refine Gr.trans ?_ (by with_reducible assumption)) | exact Gr.refl _ | assumption | refine Gr.alloc ?_ _ | refine Gr.drew ?_ | refine Gr.drewN ?_ _ | refine Gr.setCell ?_ (by simp <;> omega) _ | refine Gr.trans ?_ (by assumption)))⟩

/-- The number before a segment. -/
def bfG (gs : List (Int × ByteArray)) (i : Nat) : Int := if i = 0 then 0 else nuG gs (i - 1)
def sgErr (nx : Int) (gs : List (Int × ByteArray)) (i : Nat) : Int := sgE nx (bfG gs i) (nuG gs i) (byG gs i)
def badG (nx : Int) (gs : List (Int × ByteArray)) (i : Nat) : Bool := sgErr nx gs i != 0
def badI (nx : Int) (gs : List (Int × ByteArray)) : Nat := fB (badG nx gs) gs.length 0
/-- CheckStore's error, and its index. -/
def stE (nx : Int) (gs : List (Int × ByteArray)) : Int :=
  if 10 < gs.length then 2 else if wiB nx 1 1001 = false then 3 else if badI nx gs < gs.length then sgErr nx gs (badI nx gs) else 0
def stI (nx : Int) (gs : List (Int × ByteArray)) : Int :=
  if 10 < gs.length then 0 else if wiB nx 1 1001 = false then 0 else if badI nx gs < gs.length then badI nx gs else 0
def CkR (nx : Int) (gs : List (Int × ByteArray)) (w : World) (e : Ending) (w' : World) : Prop := e = .returned (.tuple #[.int .i64 (stI nx gs), .int .i64 (stE nx gs)]) ∧ Gr w w'
theorem st_large {nx : Int} {gs : List (Int × ByteArray)} (h : 10 < gs.length) : stE nx gs = 2 ∧ stI nx gs = 0 := ⟨by rw [stE, if_pos h], by rw [stI, if_pos h]⟩
theorem st_range {nx : Int} {gs : List (Int × ByteArray)} (h : ¬ 10 < gs.length) (h1 : wiB nx 1 1001 = false) : stE nx gs = 3 ∧ stI nx gs = 0 := ⟨by rw [stE, if_neg h, if_pos h1], by rw [stI, if_neg h, if_pos h1]⟩
theorem st_bad {nx : Int} {gs : List (Int × ByteArray)} {q : Nat} {E : Int} (h : ¬ 10 < gs.length) (h1 : wiB nx 1 1001 = true) (hq : q < gs.length) (h2 : badI nx gs = q) (h3 : sgErr nx gs q = E) : stE nx gs = E ∧ stI nx gs = q := by
  refine ⟨?_, ?_⟩
  · rw [stE, if_neg h, if_neg (by simp [h1]), if_pos (by omega), h2, h3]
  · rw [stI, if_neg h, if_neg (by simp [h1]), if_pos (by omega), h2]
theorem st_good {nx : Int} {gs : List (Int × ByteArray)} (h : ¬ 10 < gs.length) (h1 : wiB nx 1 1001 = true) (h2 : badI nx gs = gs.length) : stE nx gs = 0 ∧ stI nx gs = 0 := by
  refine ⟨?_, ?_⟩
  · rw [stE, if_neg h, if_neg (by simp [h1]), if_neg (by omega)]
  · rw [stI, if_neg h, if_neg (by simp [h1]), if_neg (by omega)]
/-- All strings are short. -/
def Sh (gs : List (Int × ByteArray)) : Prop := ∀ i, i < gs.length → (byG gs i).size ≤ maxLen

set_option maxHeartbeats 2000000 in
set_option maxRecDepth 100000 in
theorem CheckStore_any (A : Option Addr) (n c : Nat) (gs : List (Int × ByteArray)) (nx : Int) (w : World) (hs : Sv w A n c 2 (sg gs)) (hb : Sh gs) :
    Calls Try.prog 14 #[.agg #[.slice A n c, .int .i64 nx]] w (CkR nx gs w) := by
  have hm := hs.max
  have hlen := hs.segs
  by_cases hL : 10 < gs.length
  · have hL' : (10 : Int) < n := by omega
    have E := Lib.hid (st_large (nx := nx) hL)
    clear hlen
    go_enter Try.func14, Try.ntmps14
    go_wp2
    go_ret2
    exact ⟨by rw [E.out.1, E.out.2]; rfl, (by repeat (first | (with_reducible exact Gr.refl _) | (with_reducible assumption) | (with_reducible refine Gr.alloc ?_ _) | (with_reducible refine Gr.drew ?_) | (with_reducible refine Gr.drewN ?_ _) | (with_reducible refine Gr.setCell ?_ (by simp <;> omega) _) | (with_reducible refine Gr.trans ?_ (by with_reducible assumption)) | exact Gr.refl _ | assumption | refine Gr.alloc ?_ _ | refine Gr.drew ?_ | refine Gr.drewN ?_ _ | refine Gr.setCell ?_ (by simp <;> omega) _ | refine Gr.trans ?_ (by assumption)))⟩
  have hL' : (n : Int) ≤ 10 := by omega
  rcases Bool.eq_false_or_eq_true (wiB nx 1 1001) with hR | hR
  rotate_left
  · have E := Lib.hid (st_range hL hR)
    clear hlen
    go_enter Try.func14, Try.ntmps14
    go_wp2_with ((go_at_call 43; (with_reducible refine (isFromOne_is _ _ _ hR _).mono ?_); rintro e w1 ⟨rfl, rfl⟩))
    go_ret2
    exact ⟨by rw [E.out.1, E.out.2]; rfl, (by repeat (first | (with_reducible exact Gr.refl _) | (with_reducible assumption) | (with_reducible refine Gr.alloc ?_ _) | (with_reducible refine Gr.drew ?_) | (with_reducible refine Gr.drewN ?_ _) | (with_reducible refine Gr.setCell ?_ (by simp <;> omega) _) | (with_reducible refine Gr.trans ?_ (by with_reducible assumption)) | exact Gr.refl _ | assumption | refine Gr.alloc ?_ _ | refine Gr.drew ?_ | refine Gr.drewN ?_ _ | refine Gr.setCell ?_ (by simp <;> omega) _ | refine Gr.trans ?_ (by assumption)))⟩
  have HN := Lib.hid hlen
  have HL := Lib.hid hL
  have HB := Lib.hid hb
  have hn1 := (wiB_iff.1 hR).1
  have hn2 := (wiB_iff.1 hR).2
  clear hlen hL hb
  rcases Nat.eq_zero_or_pos n with hn | hn
  · subst hn
    have E := Lib.hid (st_good (nx := nx) HL.out hR (by unfold badI; rw [HN.out]; rfl))
    go_enter Try.func14, Try.ntmps14
    go_wp2_with ((go_at_call 43; (with_reducible refine (isFromOne_is _ _ _ hR _).mono ?_); rintro e w1 ⟨rfl, rfl⟩))
    go_loop [4, 19] (fun b i => b = .int .i64 0 ∧ i = .int .i64 0) (fun _ _ => 0)
    case atStart => exact ⟨rfl, rfl⟩
    case round =>
      obtain ⟨rfl, rfl⟩ := hrel
      go_wp2
      go_ret2
      exact ⟨by rw [E.out.1, E.out.2]; rfl, (by repeat (first | (with_reducible exact Gr.refl _) | (with_reducible assumption) | (with_reducible refine Gr.alloc ?_ _) | (with_reducible refine Gr.drew ?_) | (with_reducible refine Gr.drewN ?_ _) | (with_reducible refine Gr.setCell ?_ (by simp <;> omega) _) | (with_reducible refine Gr.trans ?_ (by with_reducible assumption)) | exact Gr.refl _ | assumption | refine Gr.alloc ?_ _ | refine Gr.drew ?_ | refine Gr.drewN ?_ _ | refine Gr.setCell ?_ (by simp <;> omega) _ | refine Gr.trans ?_ (by assumption)))⟩
  · obtain ⟨b, o, rfl, hb, -⟩ := hs.at_ hn
    have HS := Lib.hid hs
    clear hs
    go_enter Try.func14, Try.ntmps14
    go_wp2_with ((go_at_call 43; (with_reducible refine (isFromOne_is _ _ _ hR _).mono ?_); rintro e w1 ⟨rfl, rfl⟩))
    go_loopw [4, 19] (fun bf i wr => ∃ q : Nat, q ≤ n ∧ i = .int .i64 q ∧ bf = .int .i64 (bfG gs q) ∧ Hid (fB (badG nx gs) (n - q) q = badI nx gs) ∧ Hid (Gr (w.alloc (.cells #[.slice (some ⟨b, o, none⟩) n c, .int .i64 nx] 24)) wr)) (fun _ i _ => n - (intOf i).toNat)
    case atStart => exact ⟨0, Nat.zero_le _, rfl, rfl, by show _ = _; unfold badI; rw [HN.out]; rfl, Gr.refl _⟩
    case round =>
      obtain ⟨q, hq, rfl, rfl, hF, hG⟩ := hrel
      have c0 := hG.out.keep (p := ⟨w.heap.size, 0, none⟩) (v := .slice (some ⟨b, o, none⟩) n c) (by simp)
      have c1 := hG.out.keep (p := ⟨w.heap.size, 1, none⟩) (v := .int .i64 nx) (by simp)
      have hz : w.heap.size + 1 ≤ wr.heap.size := by have := hG.out.size; simpa using this
      have hz0 : w.heap.size < wr.heap.size := by omega
      by_cases hlt : q < n
      · obtain ⟨k0, k1⟩ := (HS.out.gr (((Gr.refl w).alloc _).trans hG.out)).seg hlt
        have hx := HB.out q (by rw [HN.out]; exact hlt)
        obtain ⟨E0, hE0⟩ : ∃ E, sgErr nx gs q = E := ⟨_, rfl⟩
        have HE0 := Lib.hid hE0
        have hck : ∀ W, Calls Try.prog 44 #[.agg #[.int .i64 (nuG gs q), .string (byG gs q)], .int .i64 (bfG gs q), .int .i64 nx] W fun e w' => e = .returned (.int .i64 E0) ∧ Gr W w' := fun W => by
          rw [← HE0.out]; exact checkSegment_any _ _ _ _ hx hn1 hn2 W
        have HC := Lib.hid hck
        have HBF := Lib.hid (show bfG gs (q + 1) = nuG gs q by simp [bfG])
        clear hck hx hE0
        generalize nuG gs q = m at *
        generalize byG gs q = x at *
        rcases Bool.eq_false_or_eq_true (E0 != 0) with he | he
        · have E := Lib.hid (st_bad (nx := nx) HL.out hR (by rw [HN.out]; exact hlt) (by rw [← hF.out]; exact fB_yes (by omega) (by unfold badG; rw [HE0.out]; exact he)) HE0.out)
          go_wp2_with ((go_at_call 44; (with_reducible refine (HC.out _).mono ?_); rintro e w1 ⟨rfl, hb⟩; obtain ⟨hc, hf⟩ := gcells hb (wr.heap.size + 1) (by first | (simp; done) | (simp; omega)); have hy : wr.heap.size + 1 ≤ w1.heap.size := (by have h := hb.size; (try simp at h); omega); have hy0 : wr.heap.size < w1.heap.size := (by omega); have hy1 : w.heap.size < wr.heap.size + 1 := (by omega); have hy2 : w.heap.size < w1.heap.size := (by omega)))
          go_ret2
          exact ⟨by rw [E.out.1, E.out.2]; rfl, by exact (((Gr.refl _).alloc _).trans hG.out).trans (by repeat (first | (with_reducible exact Gr.refl _) | (with_reducible assumption) | (with_reducible refine Gr.alloc ?_ _) | (with_reducible refine Gr.drew ?_) | (with_reducible refine Gr.drewN ?_ _) | (with_reducible refine Gr.setCell ?_ (by simp <;> omega) _) | (with_reducible refine Gr.trans ?_ (by with_reducible assumption)) | exact Gr.refl _ | assumption | refine Gr.alloc ?_ _ | refine Gr.drew ?_ | refine Gr.drewN ?_ _ | refine Gr.setCell ?_ (by simp <;> omega) _ | refine Gr.trans ?_ (by assumption)))⟩
        · have F := Lib.hid (show badG nx gs q = false by unfold badG; rw [HE0.out]; exact he)
          go_wp2_with ((go_at_call 44; (with_reducible refine (HC.out _).mono ?_); rintro e w1 ⟨rfl, hb⟩; obtain ⟨hc, hf⟩ := gcells hb (wr.heap.size + 1) (by first | (simp; done) | (simp; omega)); have hy : wr.heap.size + 1 ≤ w1.heap.size := (by have h := hb.size; (try simp at h); omega); have hy0 : wr.heap.size < w1.heap.size := (by omega); have hy1 : w.heap.size < wr.heap.size + 1 := (by omega); have hy2 : w.heap.size < w1.heap.size := (by omega)))
          go_roundw
          case rel => exact ⟨q + 1, by omega, by go_num, by rw [HBF.out], by show _ = _; rw [← fB_no hlt F.out]; exact hF.out, Lib.hid (by exact hG.out.trans (by repeat (first | (with_reducible exact Gr.refl _) | (with_reducible assumption) | (with_reducible refine Gr.alloc ?_ _) | (with_reducible refine Gr.drew ?_) | (with_reducible refine Gr.drewN ?_ _) | (with_reducible refine Gr.setCell ?_ (by simp <;> omega) _) | (with_reducible refine Gr.trans ?_ (by with_reducible assumption)) | exact Gr.refl _ | assumption | refine Gr.alloc ?_ _ | refine Gr.drew ?_ | refine Gr.drewN ?_ _ | refine Gr.setCell ?_ (by simp <;> omega) _ | refine Gr.trans ?_ (by assumption))))⟩
          case measure => simp [intOf]; omega
      · have hqn := Lib.hid (show q = n by omega)
        have E := Lib.hid (st_good (nx := nx) HL.out hR (by rw [← hF.out, hqn.out, HN.out]; simp [fB]))
        go_wp2
        go_ret2
        exact ⟨by rw [E.out.1, E.out.2]; rfl, ((Gr.refl _).alloc _).trans hG.out⟩
end Go.Proofs.Ytljminmfldejnaa
