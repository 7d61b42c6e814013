/- The reference's digit lists in slices: trim, Small. -/
import Derived.Test.YtmejhccdiimmlaaSa
import Derived.Test.YtmejhccdiimmlaaEa
namespace Go.Proofs.Ytmejhccdiimmlaa
set_option linter.unusedSimpArgs false
set_option linter.unusedVariables false
open Go.RowKit

/-- The cells of a list of numbers in a slice's block. -/
def At (w : World) (b : Nat) (xs : List Int) : Prop := ∀ i, i < xs.length → w.cell? ⟨b, i, none⟩ = some (.int .i64 (xs.getD i 0))
/-- How many numbers are left without the zeros at the end. -/
def tN (xs : List Int) : Nat → Nat
  | 0 => 0
  | k + 1 => if xs.getD k 0 = 0 then tN xs k else k + 1
theorem tN_le (xs : List Int) : ∀ k, tN xs k ≤ k
  | 0 => Nat.le_refl _
  | k + 1 => by unfold tN; have := tN_le xs k; split <;> omega
theorem tN_zero {xs : List Int} {k : Nat} (h : xs.getD k 0 = 0) : tN xs (k + 1) = tN xs k := if_pos h
theorem tN_some {xs : List Int} {k : Nat} (h : xs.getD k 0 ≠ 0) : tN xs (k + 1) = k + 1 := if_neg h
def lenOf : Value → Nat
  | .slice _ k _ => k
  | _ => 0

theorem trim_nil (cap : Nat) (w : World) :
    Calls Try.prog 128 #[.slice none 0 cap] w fun e w' => e = .returned (.slice none 0 cap) ∧ w = w' := by
  go_enter Try.func128, Try.ntmps128
  go_wp2
  go_loop [0] (fun i => i = .slice none 0 cap) (fun _ => 0)
  case atStart => rfl
  case round =>
    subst hrel
    go_wp2
    go_ret
    exact ⟨rfl, rfl⟩

set_option maxRecDepth 100000 in
theorem trim_any (b n cap : Nat) (xs : List Int) (hn : xs.length = n) (hc : n ≤ cap) (hm : cap ≤ maxLen) (w : World) (hcell : At w b xs) :
    Calls Try.prog 128 #[.slice (some ⟨b, 0, none⟩) n cap] w fun e w' => e = .returned (.slice (some ⟨b, 0, none⟩) (tN xs n) cap) ∧ w = w' := by
  unfold maxLen at hm
  have H := Lib.hid hn
  have HC := Lib.hid hcell
  clear hn hcell
  go_enter Try.func128, Try.ntmps128
  go_wp2
  go_loop [0] (fun i => ∃ k : Nat, k ≤ n ∧ i = .slice (some ⟨b, 0, none⟩) k cap ∧ Hid (tN xs k = tN xs n)) (fun i => lenOf i)
  case atStart => exact ⟨n, Nat.le_refl _, rfl, rfl⟩
  case round =>
    obtain ⟨k, hk, rfl, hr⟩ := hrel
    match k, hk, hr with
    | 0, hk, hr =>
      have hk0 : decide (0 < (0 : Nat)) = false := rfl
      go_wp2
      go_ret
      exact ⟨by rw [← hr.out]; rfl, rfl⟩
    | k + 1, hk, hr =>
      have hc1 := HC.out k (by rw [H.out]; omega)
      by_cases hz : xs.getD k 0 = 0
      · have hz' := Lib.hid hz
        rw [hz] at hc1
        clear hz
        go_wp2
        go_round
        case rel => exact ⟨k, by omega, by go_num, (tN_zero hz'.out).symm.trans hr.out⟩
        case measure => simp [lenOf]
      · obtain ⟨x, hx⟩ : ∃ x, xs.getD k 0 = x := ⟨_, rfl⟩
        rw [hx] at hc1 hz
        have hx' := Lib.hid hx
        clear hx
        go_wp2
        go_ret
        exact ⟨by rw [← hr.out, tN_some (by rw [hx'.out]; exact hz)]; rfl, rfl⟩

set_option maxRecDepth 100000 in
theorem Small_any (c : Bool) (b n cap : Nat) (xs : List Int) (hn : xs.length = n) (hm : n ≤ 18) (hd : Dg xs) (w : World) (hb : b < w.heap.size) (hcell : At w b xs) :
    Calls Try.prog 109 #[.agg #[.bool c, .slice (some ⟨b, 0, none⟩) n cap]] w fun e w' => e = .returned (.int .i64 (if c then -(vl xs) else vl xs)) ∧ Gr w w' := by
  have H := Lib.hid hn
  have HC := Lib.hid hcell
  have HD := Lib.hid hd
  have hbd := hd.bd
  clear hn hcell hd
  go_enter Try.func109, Try.ntmps109
  go_wp2
  go_loop [3, 4] (fun i j => ∃ k : Nat, k ≤ n ∧ j = .int .i64 ((k : Int) - 1) ∧ i = .int .i64 (vl (xs.drop k))) (fun _ j => (intOf j + 1).toNat)
  case atStart => exact ⟨n, Nat.le_refl _, rfl, by rw [← H.out, List.drop_length]; rfl⟩
  case round =>
    obtain ⟨k, hk, rfl, rfl⟩ := hrel
    match k, hk with
    | 0, hk =>
      have e0 : xs.drop 0 = xs := rfl
      rw [e0]
      have hv : vl xs < 1000000000000000000 := by
        have := ten_mono hm; rw [← H.out] at this; omega
      obtain ⟨z, hz⟩ : ∃ z, vl xs = z := ⟨_, rfl⟩
      rw [hz] at hv hbd ⊢
      have hz0 := hbd.1
      have hz' := Lib.hid hz
      clear hbd hz e0
      cases c
      all_goals (go_wp2; go_ret; exact ⟨ret_int (by simp [hz'.out]), (by repeat (first | exact Gr.refl _ | assumption | refine Gr.alloc ?_ _ | refine Gr.drew ?_ | refine Gr.drewN ?_ _ | refine Gr.setCell ?_ (by simp <;> omega) _ | refine Gr.trans ?_ (by assumption)))⟩)
    | k + 1, hk =>
      have hc1 := HC.out k (by rw [H.out]; omega)
      have hs := Lib.hid (vl_drop xs (i := k) (by rw [H.out]; omega))
      have hg := HD.out.getD k
      have hv := (HD.out.drop (k + 1)).bd
      have hv' : vl (xs.drop (k + 1)) < 100000000000000000 := by
        have := ten_mono (m := (xs.drop (k + 1)).length) (n := 17) (by rw [List.length_drop, H.out]; omega); omega
      obtain ⟨z, hz⟩ : ∃ z, vl (xs.drop (k + 1)) = z := ⟨_, rfl⟩
      obtain ⟨x, hx⟩ : ∃ x, xs.getD k 0 = x := ⟨_, rfl⟩
      rw [hz] at hv hv' hs ⊢
      rw [hx] at hc1 hg hs
      have hz0 := hv.1
      clear hv hbd hz hx
      go_wp2
      go_round
      case rel => exact ⟨k, by omega, by go_num, by rw [hs.out]; go_num⟩
      case measure => simp [intOf]

def sg (b : Bool) (n : Nat) : Int := if b then -(n : Int) else n
def ordI (a b : Int) : Int := if a = b then 0 else if b < a then 1 else -1
theorem ordI_lt {a b : Int} (h : a < b) : ordI a b = -1 := by unfold ordI; rw [if_neg (by omega), if_neg (by omega)]
theorem ordI_gt {a b : Int} (h : b < a) : ordI a b = 1 := by unfold ordI; rw [if_neg (by omega), if_pos h]
theorem ordI_eq (a : Int) : ordI a a = 0 := if_pos rfl

theorem Count_same (b : Bool) (w : World) : Calls Try.prog 46 #[.bool b] w fun e w' => e = .returned (.int .i64 (countI b)) ∧ w' = w :=
  (Count_any b w).mono fun _ _ h => ⟨h.1, h.2.1.symm⟩
set_option maxRecDepth 100000 in
/-- Lists of different lengths. -/
theorem order_len (p q : Option Addr) (m n c d : Nat) (xs ys : List Int) (hx : xs.length = m) (hy : ys.length = n) (cx : Cn xs) (cy : Cn ys) (hm : m ≤ 100000) (hn : n ≤ 100000) (hmn : m ≠ n) (w : World) :
    Calls Try.prog 126 #[.slice p m c, .slice q n d] w fun e w' => e = .returned (.int .i64 (ordI (vl xs) (vl ys))) ∧ w = w' := by
  have hr : ordI (vl xs) (vl ys) = 2 * countI (decide (n < m)) - 1 := by
    by_cases h : m < n
    · rw [ordI_lt (lt_len cx cy (by omega)), decide_eq_false (by omega)]; rfl
    · rw [ordI_gt (lt_len cy cx (by omega)), decide_eq_true (by omega)]; rfl
  have HR := Lib.hid hr
  clear hr
  go_enter Try.func126, Try.ntmps126
  go_wp2_with (go_at_call 46; refine (Count_any _ _).mono ?_; rintro e w1 ⟨rfl, rfl, hc0, hc1⟩)
  go_ret
  exact ⟨ret_int (by rw [HR.out]), rfl⟩

set_option maxRecDepth 100000 in
/-- Lists of one length. -/
theorem order_eq (p q n c d : Nat) (xs ys : List Int) (hx : xs.length = n) (hy : ys.length = n) (dx : Dg xs) (dy : Dg ys) (hn : n ≤ 100000) (w : World) (hcx : At w p xs) (hcy : At w q ys) :
    Calls Try.prog 126 #[.slice (some ⟨p, 0, none⟩) n c, .slice (some ⟨q, 0, none⟩) n d] w fun e w' => e = .returned (.int .i64 (ordI (vl xs) (vl ys))) ∧ Gr w w' := by
  have HX := Lib.hid hx
  have HY := Lib.hid hy
  have HCX := Lib.hid hcx
  have HCY := Lib.hid hcy
  have DX := Lib.hid dx
  have DY := Lib.hid dy
  clear hx hy hcx hcy dx dy
  go_enter Try.func126, Try.ntmps126
  go_wp2
  go_loopw [5] (fun j wr => ∃ k : Nat, k ≤ n ∧ j = .int .i64 ((k : Int) - 1) ∧ Hid (vl (xs.drop k) = vl (ys.drop k)) ∧ Hid (Gr w wr)) (fun j _ => (intOf j + 1).toNat)
  case atStart => exact ⟨n, Nat.le_refl _, rfl, (by show _ = _; rw [← HX.out, List.drop_length, HX.out, ← HY.out, List.drop_length]), Gr.refl _⟩
  case round =>
    obtain ⟨k, hk, rfl, hr, hG⟩ := hrel
    match k, hk, hr with
    | 0, hk, hr =>
      go_wp2
      go_ret
      exact ⟨ret_int (by have h : vl xs = vl ys := hr.out; rw [h, ordI_eq]), hG.out⟩
    | k + 1, hk, hr =>
      have hc1 := hG.out.keep (HCX.out k (by rw [HX.out]; omega))
      have hc2 := hG.out.keep (HCY.out k (by rw [HY.out]; omega))
      have s1 := Lib.hid (vl_drop xs (i := k) (by rw [HX.out]; omega))
      have s2 := Lib.hid (vl_drop ys (i := k) (by rw [HY.out]; omega))
      obtain ⟨x, ex⟩ : ∃ x, xs.getD k 0 = x := ⟨_, rfl⟩
      obtain ⟨y, ey⟩ : ∃ y, ys.getD k 0 = y := ⟨_, rfl⟩
      by_cases hxy : x = y
      · subst hxy
        rw [ex] at hc1 s1
        rw [ey] at hc2 s2
        clear ex ey
        go_wp2
        go_quiet (fail)
        go_wp2
        go_round
        case rel => exact ⟨k, by omega, by go_num, (by show _ = _; rw [s1.out, s2.out, hr.out]), hG.out.drewN _⟩
        case measure => simp [intOf]
      · have hne := bne_iff_ne.2 hxy
        have hl : ordI (vl xs) (vl ys) = 2 * countI (decide (y < x)) - 1 := by
          by_cases h : x < y
          · rw [ordI_lt (drop_lt DX.out DY.out (by rw [HX.out, HY.out]) (show k < n by omega) HX.out.symm hr.out (by rw [ex, ey]; exact h)), decide_eq_false (by omega)]; rfl
          · rw [ordI_gt (drop_lt DY.out DX.out (by rw [HX.out, HY.out]) (show k < n by omega) HY.out.symm hr.out.symm (by rw [ex, ey]; omega)), decide_eq_true (by omega)]; rfl
        have HL := Lib.hid hl
        rw [ex] at hc1
        rw [ey] at hc2
        clear ex ey s1 s2 hl
        go_wp2
        go_quiet (fail)
        go_wp2
        have hcb := countI_bd (decide (y < x))
        have hkn : k < n := by omega
        have hkn' : (k : Int) < n := by omega
        have d1 : (wr.drewN nq).cell? ⟨p, k, none⟩ = some (.int .i64 x) := by simpa using hc1
        have d2 : (wr.drewN nq).cell? ⟨q, k, none⟩ = some (.int .i64 y) := by simpa using hc2
        have G1 := Lib.hid (hG.out.drewN nq)
        clear hc1 hc2
        generalize wr.drewN nq = wz at d1 d2 G1 ⊢
        go_quiet ((go_at_call 46; exact Calls.quiet_of_same (Count_same _ _)))
        go_wp2
        go_ret
        exact ⟨ret_int (by rw [HL.out]), G1.out.drewN _⟩
end Go.Proofs.Ytmejhccdiimmlaa
