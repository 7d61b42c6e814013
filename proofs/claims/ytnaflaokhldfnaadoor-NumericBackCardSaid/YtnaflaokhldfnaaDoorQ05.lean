/- Texts of the walks, merged. -/
import Derived.Test.YtnaflaokhldfnaaDoorQ04
namespace Go.Proofs.YtnaflaokhldfnaaDoor
set_option linter.unusedSimpArgs false
set_option linter.unusedVariables false
open Go.RowKit

/-- What is wrong with a text is told. -/
def CkR (x : ByteArray) (w : World) (e : Ending) (w' : World) : Prop := e = .returned (.tuple #[.int .i64 ((ckT (tAt x) x.size).1 : Nat), .int .i64 (ckT (tAt x) x.size).2]) ∧ w = w'
theorem ckR_mk {x : ByteArray} {w : World} {a : Nat} {e A : Int} (h : ckT (tAt x) x.size = (a, e)) (hA : A = a) : CkR x w (.returned (.tuple #[.int .i64 A, .int .i64 e])) w := by
  subst hA; unfold CkR; rw [h]; exact ⟨rfl, rfl⟩
theorem sgnT_1 {f : Nat → Int} (h : f 0 = 45) : sgnT f = 1 := by unfold sgnT; rw [if_pos h]
theorem sgnT_0 {f : Nat → Int} (h : f 0 ≠ 45) : sgnT f = 0 := by unfold sgnT; rw [if_neg h]
theorem checkDecimals_is (x : ByteArray) (a : Nat) (A : Int) (hA : A = a) (ha : a ≤ x.size) (hx : x.size ≤ 40) (r : Nat) (e : Int)
    (h : (if dE (tAt x) x.size a = a ∨ dE (tAt x) x.size a < x.size then (dE (tAt x) x.size a, stp x.size (dE (tAt x) x.size a)) else (0, 0)) = (r, e)) (w : World) :
    Calls Tryd.prog 57 #[.string x, .int .i64 A] w fun en w' => en = .returned (.tuple #[.int .i64 (r : Nat), .int .i64 e]) ∧ w = w' := by
  refine (checkDecimals_any x a A hA ha hx w).mono fun en w' ⟨h1, h2⟩ => ⟨?_, h2⟩
  rw [h1]
  by_cases hc : dE (tAt x) x.size a = a ∨ dE (tAt x) x.size a < x.size
  · rw [if_pos hc] at h ⊢
    injection h with h3 h4
    rw [h3, ← h4, h3]
  · rw [if_neg hc] at h ⊢
    injection h with h3 h4
    rw [← h3, ← h4]; rfl

set_option maxHeartbeats 1000000 in
theorem checkText_0 (x : ByteArray) (hx0 : 0 ≤ x.size) (hx1 : 0 < x.size) (hx : x.size ≤ 40) (h45 : tAt x 0 ≠ 45) (w : World) :
    Calls Tryd.prog 30 #[.string x] w (CkR x w) := by
  have hS := sgnT_0 h45
  have hb : (tAt x 0 == 45) = false := by simp [h45]
  have hby := tAt_eq x 0 hx1
  have hc := digitsEnd_any x 0 0 rfl hx0 hx
  have hE := dE_le (tAt x) hx0
  have hs := stopOf_any x 0 0 rfl hx0 hx
  have hd : True := trivial
  have hck : ckT (tAt x) x.size = _ := rfl
  unfold ckT at hck
  rw [hS] at hck
  generalize hEe : dE (tAt x) x.size 0 = E at *
  by_cases h1 : E = 0
  · rw [if_pos h1] at hck
    have hr : ckT (tAt x) x.size = (0, stp x.size 0) := by unfold ckT; rw [hS, hEe, if_pos h1]
    have HR := Lib.hid hr
    have b1 : ((E : Int) == 0) = true := by simp [h1]
    generalize stp x.size 0 = T at *
    clear hr hck hEe h45 hS
    go_enter Tryd.func30, Tryd.ntmps30
    go_wp2_with (first | (go_at_call 55; (with_reducible refine (hc _).mono ?_); rintro e w1 ⟨rfl, rfl⟩) | (go_at_call 56; (with_reducible refine (hs _).mono ?_); rintro e w1 ⟨rfl, rfl⟩) | (go_at_call 57; (with_reducible refine (hd _).mono ?_); rintro e w1 ⟨rfl, rfl⟩))
    go_ret2
    exact ckR_mk HR.out (by omega)
  · have b1 : ((E : Int) == 0) = false := by simp; omega
    have hlt : 0 < x.size := by omega
    have hbS := tAt_eq x 0 hlt
    clear hck
    by_cases h48 : tAt x 0 = 48
    · have hW : wE (tAt x) x.size = 1 := by unfold wE; rw [hS, if_pos h48]
      have b2 : (tAt x 0 == 48) = true := by simp [h48]
      have hWl : 1 ≤ x.size := by omega
      by_cases h2 : 1 = x.size
      · have HR := Lib.hid (show ckT (tAt x) x.size = (0, 0) by unfold ckT; rw [hS, hEe, if_neg h1, hW, if_pos h2])
        have b3 : (1 == (x.size : Int)) = true := by simp; omega
        clear hEe h45 hS hW h48 h1
        go_enter Tryd.func30, Tryd.ntmps30
        go_wp2_with (first | (go_at_call 55; (with_reducible refine (hc _).mono ?_); rintro e w1 ⟨rfl, rfl⟩) | (go_at_call 56; (with_reducible refine (hs _).mono ?_); rintro e w1 ⟨rfl, rfl⟩) | (go_at_call 57; (with_reducible refine (hd _).mono ?_); rintro e w1 ⟨rfl, rfl⟩))
        go_ret2
        exact ckR_mk HR.out (by rfl)
      · have b3 : (1 == (x.size : Int)) = false := by simp; omega
        have hlt2 : 1 < x.size := by omega
        have hbW := tAt_eq x (1) hlt2
        by_cases h46 : tAt x (1) = 46
        · have b4 : (tAt x (1) != 46) = false := by simp [h46]
          obtain ⟨r, ee, hre⟩ : ∃ r ee, (if dE (tAt x) x.size (1 + 1) = 1 + 1 ∨ dE (tAt x) x.size (1 + 1) < x.size then (dE (tAt x) x.size (1 + 1), stp x.size (dE (tAt x) x.size (1 + 1))) else (0, 0)) = (r, ee) := ⟨_, _, rfl⟩
          have HR := Lib.hid (show ckT (tAt x) x.size = (r, ee) by unfold ckT; rw [hS, hEe, if_neg h1, hW, if_neg h2, if_pos h46]; exact hre)
          have hd := checkDecimals_is x (1 + 1) (2) (by simp) (by omega) hx r ee hre
          clear hEe h45 hS hW h48 h1 h2 h46 hre
          go_enter Tryd.func30, Tryd.ntmps30
          go_wp2_with (first | (go_at_call 55; (with_reducible refine (hc _).mono ?_); rintro e w1 ⟨rfl, rfl⟩) | (go_at_call 56; (with_reducible refine (hs _).mono ?_); rintro e w1 ⟨rfl, rfl⟩) | (go_at_call 57; (with_reducible refine (hd _).mono ?_); rintro e w1 ⟨rfl, rfl⟩))
          go_ret2
          exact ckR_mk HR.out rfl
        · have b4 : (tAt x (1) != 46) = true := by simp [h46]
          have HR := Lib.hid (show ckT (tAt x) x.size = (1, 8) by unfold ckT; rw [hS, hEe, if_neg h1, hW, if_neg h2, if_neg h46])
          clear hEe h45 hS hW h48 h1 h2 h46
          go_enter Tryd.func30, Tryd.ntmps30
          go_wp2_with (first | (go_at_call 55; (with_reducible refine (hc _).mono ?_); rintro e w1 ⟨rfl, rfl⟩) | (go_at_call 56; (with_reducible refine (hs _).mono ?_); rintro e w1 ⟨rfl, rfl⟩) | (go_at_call 57; (with_reducible refine (hd _).mono ?_); rintro e w1 ⟨rfl, rfl⟩))
          go_ret2
          exact ckR_mk HR.out (by rfl)
    · have hW : wE (tAt x) x.size = E := by unfold wE; rw [hS, if_neg h48, hEe]
      have b2 : (tAt x 0 == 48) = false := by simp [h48]
      have hWl : E ≤ x.size := by omega
      by_cases h2 : E = x.size
      · have HR := Lib.hid (show ckT (tAt x) x.size = (0, 0) by unfold ckT; rw [hS, hEe, if_neg h1, hW, if_pos h2])
        have b3 : ((E : Int) == (x.size : Int)) = true := by simp; omega
        clear hEe h45 hS hW h48 h1
        go_enter Tryd.func30, Tryd.ntmps30
        go_wp2_with (first | (go_at_call 55; (with_reducible refine (hc _).mono ?_); rintro e w1 ⟨rfl, rfl⟩) | (go_at_call 56; (with_reducible refine (hs _).mono ?_); rintro e w1 ⟨rfl, rfl⟩) | (go_at_call 57; (with_reducible refine (hd _).mono ?_); rintro e w1 ⟨rfl, rfl⟩))
        go_ret2
        exact ckR_mk HR.out (by rfl)
      · have b3 : ((E : Int) == (x.size : Int)) = false := by simp; omega
        have hlt2 : E < x.size := by omega
        have hbW := tAt_eq x (E) hlt2
        by_cases h46 : tAt x (E) = 46
        · have b4 : (tAt x (E) != 46) = false := by simp [h46]
          obtain ⟨r, ee, hre⟩ : ∃ r ee, (if dE (tAt x) x.size (E + 1) = E + 1 ∨ dE (tAt x) x.size (E + 1) < x.size then (dE (tAt x) x.size (E + 1), stp x.size (dE (tAt x) x.size (E + 1))) else (0, 0)) = (r, ee) := ⟨_, _, rfl⟩
          have HR := Lib.hid (show ckT (tAt x) x.size = (r, ee) by unfold ckT; rw [hS, hEe, if_neg h1, hW, if_neg h2, if_pos h46]; exact hre)
          have hd := checkDecimals_is x (E + 1) ((E : Int) + 1) (by simp) (by omega) hx r ee hre
          clear hEe h45 hS hW h48 h1 h2 h46 hre
          go_enter Tryd.func30, Tryd.ntmps30
          go_wp2_with (first | (go_at_call 55; (with_reducible refine (hc _).mono ?_); rintro e w1 ⟨rfl, rfl⟩) | (go_at_call 56; (with_reducible refine (hs _).mono ?_); rintro e w1 ⟨rfl, rfl⟩) | (go_at_call 57; (with_reducible refine (hd _).mono ?_); rintro e w1 ⟨rfl, rfl⟩))
          go_ret2
          exact ckR_mk HR.out rfl
        · have b4 : (tAt x (E) != 46) = true := by simp [h46]
          have HR := Lib.hid (show ckT (tAt x) x.size = (E, 8) by unfold ckT; rw [hS, hEe, if_neg h1, hW, if_neg h2, if_neg h46])
          clear hEe h45 hS hW h48 h1 h2 h46
          go_enter Tryd.func30, Tryd.ntmps30
          go_wp2_with (first | (go_at_call 55; (with_reducible refine (hc _).mono ?_); rintro e w1 ⟨rfl, rfl⟩) | (go_at_call 56; (with_reducible refine (hs _).mono ?_); rintro e w1 ⟨rfl, rfl⟩) | (go_at_call 57; (with_reducible refine (hd _).mono ?_); rintro e w1 ⟨rfl, rfl⟩))
          go_ret2
          exact ckR_mk HR.out (by rfl)
set_option maxHeartbeats 1000000 in
theorem checkText_1 (x : ByteArray) (hx0 : 1 ≤ x.size) (hx1 : 0 < x.size) (hx : x.size ≤ 40) (h45 : tAt x 0 = 45) (w : World) :
    Calls Tryd.prog 30 #[.string x] w (CkR x w) := by
  have hS := sgnT_1 h45
  have hb : (tAt x 0 == 45) = true := by simp [h45]
  have hby := tAt_eq x 0 hx1
  have hc := digitsEnd_any x 1 1 rfl hx0 hx
  have hE := dE_le (tAt x) hx0
  have hs := stopOf_any x 1 1 rfl hx0 hx
  have hd : True := trivial
  have hck : ckT (tAt x) x.size = _ := rfl
  unfold ckT at hck
  rw [hS] at hck
  generalize hEe : dE (tAt x) x.size 1 = E at *
  by_cases h1 : E = 1
  · rw [if_pos h1] at hck
    have hr : ckT (tAt x) x.size = (1, stp x.size 1) := by unfold ckT; rw [hS, hEe, if_pos h1]
    have HR := Lib.hid hr
    have b1 : ((E : Int) == 1) = true := by simp [h1]
    generalize stp x.size 1 = T at *
    clear hr hck hEe h45 hS
    go_enter Tryd.func30, Tryd.ntmps30
    go_wp2_with (first | (go_at_call 55; (with_reducible refine (hc _).mono ?_); rintro e w1 ⟨rfl, rfl⟩) | (go_at_call 56; (with_reducible refine (hs _).mono ?_); rintro e w1 ⟨rfl, rfl⟩) | (go_at_call 57; (with_reducible refine (hd _).mono ?_); rintro e w1 ⟨rfl, rfl⟩))
    go_ret2
    exact ckR_mk HR.out (by omega)
  · have b1 : ((E : Int) == 1) = false := by simp; omega
    have hlt : 1 < x.size := by omega
    have hbS := tAt_eq x 1 hlt
    clear hck
    by_cases h48 : tAt x 1 = 48
    · have hW : wE (tAt x) x.size = 2 := by unfold wE; rw [hS, if_pos h48]
      have b2 : (tAt x 1 == 48) = true := by simp [h48]
      have hWl : 2 ≤ x.size := by omega
      by_cases h2 : 2 = x.size
      · have HR := Lib.hid (show ckT (tAt x) x.size = (0, 0) by unfold ckT; rw [hS, hEe, if_neg h1, hW, if_pos h2])
        have b3 : (2 == (x.size : Int)) = true := by simp; omega
        clear hEe h45 hS hW h48 h1
        go_enter Tryd.func30, Tryd.ntmps30
        go_wp2_with (first | (go_at_call 55; (with_reducible refine (hc _).mono ?_); rintro e w1 ⟨rfl, rfl⟩) | (go_at_call 56; (with_reducible refine (hs _).mono ?_); rintro e w1 ⟨rfl, rfl⟩) | (go_at_call 57; (with_reducible refine (hd _).mono ?_); rintro e w1 ⟨rfl, rfl⟩))
        go_ret2
        exact ckR_mk HR.out (by rfl)
      · have b3 : (2 == (x.size : Int)) = false := by simp; omega
        have hlt2 : 2 < x.size := by omega
        have hbW := tAt_eq x (2) hlt2
        by_cases h46 : tAt x (2) = 46
        · have b4 : (tAt x (2) != 46) = false := by simp [h46]
          obtain ⟨r, ee, hre⟩ : ∃ r ee, (if dE (tAt x) x.size (2 + 1) = 2 + 1 ∨ dE (tAt x) x.size (2 + 1) < x.size then (dE (tAt x) x.size (2 + 1), stp x.size (dE (tAt x) x.size (2 + 1))) else (0, 0)) = (r, ee) := ⟨_, _, rfl⟩
          have HR := Lib.hid (show ckT (tAt x) x.size = (r, ee) by unfold ckT; rw [hS, hEe, if_neg h1, hW, if_neg h2, if_pos h46]; exact hre)
          have hd := checkDecimals_is x (2 + 1) (3) (by simp) (by omega) hx r ee hre
          clear hEe h45 hS hW h48 h1 h2 h46 hre
          go_enter Tryd.func30, Tryd.ntmps30
          go_wp2_with (first | (go_at_call 55; (with_reducible refine (hc _).mono ?_); rintro e w1 ⟨rfl, rfl⟩) | (go_at_call 56; (with_reducible refine (hs _).mono ?_); rintro e w1 ⟨rfl, rfl⟩) | (go_at_call 57; (with_reducible refine (hd _).mono ?_); rintro e w1 ⟨rfl, rfl⟩))
          go_ret2
          exact ckR_mk HR.out rfl
        · have b4 : (tAt x (2) != 46) = true := by simp [h46]
          have HR := Lib.hid (show ckT (tAt x) x.size = (2, 8) by unfold ckT; rw [hS, hEe, if_neg h1, hW, if_neg h2, if_neg h46])
          clear hEe h45 hS hW h48 h1 h2 h46
          go_enter Tryd.func30, Tryd.ntmps30
          go_wp2_with (first | (go_at_call 55; (with_reducible refine (hc _).mono ?_); rintro e w1 ⟨rfl, rfl⟩) | (go_at_call 56; (with_reducible refine (hs _).mono ?_); rintro e w1 ⟨rfl, rfl⟩) | (go_at_call 57; (with_reducible refine (hd _).mono ?_); rintro e w1 ⟨rfl, rfl⟩))
          go_ret2
          exact ckR_mk HR.out (by rfl)
    · have hW : wE (tAt x) x.size = E := by unfold wE; rw [hS, if_neg h48, hEe]
      have b2 : (tAt x 1 == 48) = false := by simp [h48]
      have hWl : E ≤ x.size := by omega
      by_cases h2 : E = x.size
      · have HR := Lib.hid (show ckT (tAt x) x.size = (0, 0) by unfold ckT; rw [hS, hEe, if_neg h1, hW, if_pos h2])
        have b3 : ((E : Int) == (x.size : Int)) = true := by simp; omega
        clear hEe h45 hS hW h48 h1
        go_enter Tryd.func30, Tryd.ntmps30
        go_wp2_with (first | (go_at_call 55; (with_reducible refine (hc _).mono ?_); rintro e w1 ⟨rfl, rfl⟩) | (go_at_call 56; (with_reducible refine (hs _).mono ?_); rintro e w1 ⟨rfl, rfl⟩) | (go_at_call 57; (with_reducible refine (hd _).mono ?_); rintro e w1 ⟨rfl, rfl⟩))
        go_ret2
        exact ckR_mk HR.out (by rfl)
      · have b3 : ((E : Int) == (x.size : Int)) = false := by simp; omega
        have hlt2 : E < x.size := by omega
        have hbW := tAt_eq x (E) hlt2
        by_cases h46 : tAt x (E) = 46
        · have b4 : (tAt x (E) != 46) = false := by simp [h46]
          obtain ⟨r, ee, hre⟩ : ∃ r ee, (if dE (tAt x) x.size (E + 1) = E + 1 ∨ dE (tAt x) x.size (E + 1) < x.size then (dE (tAt x) x.size (E + 1), stp x.size (dE (tAt x) x.size (E + 1))) else (0, 0)) = (r, ee) := ⟨_, _, rfl⟩
          have HR := Lib.hid (show ckT (tAt x) x.size = (r, ee) by unfold ckT; rw [hS, hEe, if_neg h1, hW, if_neg h2, if_pos h46]; exact hre)
          have hd := checkDecimals_is x (E + 1) ((E : Int) + 1) (by simp) (by omega) hx r ee hre
          clear hEe h45 hS hW h48 h1 h2 h46 hre
          go_enter Tryd.func30, Tryd.ntmps30
          go_wp2_with (first | (go_at_call 55; (with_reducible refine (hc _).mono ?_); rintro e w1 ⟨rfl, rfl⟩) | (go_at_call 56; (with_reducible refine (hs _).mono ?_); rintro e w1 ⟨rfl, rfl⟩) | (go_at_call 57; (with_reducible refine (hd _).mono ?_); rintro e w1 ⟨rfl, rfl⟩))
          go_ret2
          exact ckR_mk HR.out rfl
        · have b4 : (tAt x (E) != 46) = true := by simp [h46]
          have HR := Lib.hid (show ckT (tAt x) x.size = (E, 8) by unfold ckT; rw [hS, hEe, if_neg h1, hW, if_neg h2, if_neg h46])
          clear hEe h45 hS hW h48 h1 h2 h46
          go_enter Tryd.func30, Tryd.ntmps30
          go_wp2_with (first | (go_at_call 55; (with_reducible refine (hc _).mono ?_); rintro e w1 ⟨rfl, rfl⟩) | (go_at_call 56; (with_reducible refine (hs _).mono ?_); rintro e w1 ⟨rfl, rfl⟩) | (go_at_call 57; (with_reducible refine (hd _).mono ?_); rintro e w1 ⟨rfl, rfl⟩))
          go_ret2
          exact ckR_mk HR.out (by rfl)
theorem checkText_any (x : ByteArray) (hx1 : 0 < x.size) (hx : x.size ≤ 40) (w : World) : Calls Tryd.prog 30 #[.string x] w (CkR x w) := by
  by_cases h45 : tAt x 0 = 45
  · exact checkText_1 x (by omega) hx1 hx h45 w
  · exact checkText_0 x (by omega) hx1 hx h45 w
end Go.Proofs.YtnaflaokhldfnaaDoor
