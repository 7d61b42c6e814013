/- Texts of the walks, merged. -/
import Derived.Test.YtnaflaokhldfnaaGreatQ13
import Derived.Test.YtnaflaokhldfnaaGreatQ01
import Derived.Test.YtnaflaokhldfnaaGreatQ12
import Derived.Test.YtnaflaokhldfnaaGreatQ11
namespace Go.Proofs.YtnaflaokhldfnaaGreat
set_option linter.unusedSimpArgs false
set_option linter.unusedVariables false
open Go.RowKit

/-- The digits' number. -/
def numOf (h : Nat → Int) : Nat → Int
  | 0 => 0
  | n + 1 => 10 * numOf h n + h n
theorem numOf_bd (h : Nat → Int) : ∀ n, (∀ i, i < n → 0 ≤ h i ∧ h i ≤ 9) → 0 ≤ numOf h n ∧ numOf h n < 10 ^ n
  | 0, _ => by simp [numOf]
  | n + 1, hh => by
    have ih := numOf_bd h n (fun i hi => hh i (by omega))
    have := hh n (by omega)
    rw [numOf, Int.pow_succ]; omega
/-- The first digit that is wrong. -/
def badAt (h m : Nat → Int) : Nat → Option Nat
  | 0 => none
  | n + 1 => match badAt h m n with
    | some i => some i
    | none => if m n < h n then some n else none
theorem badAt_none {h m : Nat → Int} : ∀ n, (∀ i, i < n → h i ≤ m i) → badAt h m n = none
  | 0, _ => rfl
  | n + 1, hh => by
    rw [badAt, badAt_none n (fun i hi => hh i (by omega))]
    have := hh n (by omega)
    simp; omega
theorem badAt_some {h m : Nat → Int} {i : Nat} (hi : m i < h i) (hl : ∀ j, j < i → h j ≤ m j) : ∀ n, i < n → badAt h m n = some i
  | 0, hn => by omega
  | n + 1, hn => by
    by_cases e : i = n
    · subst e; rw [badAt, badAt_none i hl]; simp [hi]
    · rw [badAt, badAt_some hi hl n (by omega)]
def isNegB (x : Int) : Bool := decide (x = 11) || decide (x = 13)
/-- What a decimal number is read az: N, the offset, the error. -/
def rdN (h m : Nat → Int) (n : Nat) (hs : Int) : Int := if badAt h m n ≠ none ∨ hs < 10 then 0 else if isNegB hs then - numOf h n else numOf h n
def rdAt (h m a : Nat → Int) (n : Nat) (hs az : Int) : Int := match badAt h m n with | some i => a i | none => if hs < 10 then az else 0
def rdErr (h m : Nat → Int) (n : Nat) (hs : Int) : Int := if badAt h m n ≠ none ∨ hs < 10 then 21 else 0

theorem isNegative_any (x : Int) (w : World) :
    Calls Tryz.prog 58 #[.int .u8 x] w fun e w' => e = .returned (.bool (isNegB x)) ∧ w = w' := by
  go_enter Tryz.func58, Tryz.ntmps58
  go_wp2
  all_goals (go_ret; exact ⟨ret_bool (by grind [isNegB]), rfl⟩)

set_option maxHeartbeats 2000000 in
set_option maxRecDepth 100000 in
theorem readDecimal_any (b n cap : Nat) (h m a : Nat → Int) (hs ms az : Int) (hn : n ≤ 18) (hb9 : ∀ i, i < n → 0 ≤ h i ∧ m i ≤ 9) (w : World) (hbw : b < w.heap.size)
    (hc : ∀ i, i < n → w.cell? ⟨b, i * 3, none⟩ = some (.int .u8 (h i)) ∧ w.cell? ⟨b, i * 3 + 1, none⟩ = some (.int .u8 (m i)) ∧ w.cell? ⟨b, i * 3 + 2, none⟩ = some (.int .i64 (a i))) :
    Calls Tryz.prog 25 #[.slice (some ⟨b, 0, none⟩) n cap, .agg #[.int .u8 hs, .int .u8 ms, .int .i64 az]] w fun e w' =>
      e = .returned (.tuple #[.agg #[.int .i64 (rdN h m n hs), .string ⟨#[]⟩], .int .i64 (rdAt h m a n hs az), .int .i64 (rdErr h m n hs)]) ∧ Gr w w' := by
  have HC := Lib.hid hc
  have H9 := Lib.hid hb9
  clear hc hb9
  go_enter Tryz.func25, Tryz.ntmps25
  go_wp2
  go_outline
  go_loopw [7, 12] (fun r i wr => ∃ q : Nat, q ≤ n ∧ i = .int .i64 q ∧ r = .int .i64 (numOf h q) ∧ Hid (∀ j, j < q → h j ≤ m j) ∧ Hid (Below (w.heap.size + 2) ((w.alloc (.cells #[.int .u8 hs, .int .u8 ms, .int .i64 az] 60)).alloc (.cells #[.int .i64 0, .string ⟨#[]⟩] 38)) wr)) (fun _ i _ => n - (intOf i).toNat)
  case atStart => exact ⟨0, by omega, rfl, rfl, Lib.hid (fun j hj => by omega), Below.refl _ _⟩
  case round =>
    obtain ⟨q, hq, rfl, rfl, hle, hB⟩ := hrel
    have hbs : w.heap.size + 1 < wr.heap.size := by have := hB.out.size; simp at this; omega
    have hbs0 : w.heap.size < wr.heap.size := by omega
    have z0 : wr.cell? ⟨w.heap.size, 0, none⟩ = some (.int .u8 hs) := keepc hB.out (by simp <;> omega) (by first | (simp; done) | (simp [go_sem]; done))
    have z2 : wr.cell? ⟨w.heap.size, 2, none⟩ = some (.int .i64 az) := keepc hB.out (by simp <;> omega) (by first | (simp; done) | (simp [go_sem]; done))
    have v0 : wr.cell? ⟨w.heap.size + 1, 0, none⟩ = some (.int .i64 0) := keepc hB.out (by simp) (by first | (simp; done) | (simp [go_sem]; done))
    have v1 : wr.cell? ⟨w.heap.size + 1, 1, none⟩ = some (.string ⟨#[]⟩) := keepc hB.out (by simp) (by first | (simp; done) | (simp [go_sem]; done))
    have f0 : wr.frozen? ⟨w.heap.size + 1, 0, none⟩ = false := by rw [Below.frozen hB.out (p := ⟨w.heap.size + 1, 0, none⟩) (by simp)] <;> first | (simp; done) | (simp [go_sem]; done)
    have f1 : wr.frozen? ⟨w.heap.size + 1, 1, none⟩ = false := by rw [Below.frozen hB.out (p := ⟨w.heap.size + 1, 1, none⟩) (by simp)] <;> first | (simp; done) | (simp [go_sem]; done)
    have hnb := numOf_bd h q (fun i hi => ⟨(H9.out i (by omega)).1, Int.le_trans (hle.out i hi) (H9.out i (by omega)).2⟩)
    have hpb := pow_bd q (by omega)
    obtain ⟨N, hN⟩ : ∃ N, numOf h q = N := ⟨_, rfl⟩
    rw [hN] at hnb ⊢
    have HN := Lib.hid hN
    clear hN
    by_cases hlt : q < n
    · obtain ⟨x0, x1, x2⟩ := HC.out q hlt
      have hg : Gr w wr := Gr.trans (((Gr.refl w).alloc _).alloc _) (hB.out.mono (by simp))
      have y0 := hg.keep x0
      have y1 := hg.keep x1
      have y2 := hg.keep x2
      have HG := Lib.hid hg
      have h9 := H9.out q hlt
      clear x0 x1 x2 hg
      by_cases hbad : m q < h q
      · go_wp2
        go_region
        go_wp2
        have HR := Lib.hid (badAt_some hbad hle.out n hlt)
        refine bodyPost_ret (v := .tuple #[.agg #[.int .i64 0, .string ⟨#[]⟩], .int .i64 (a q), .int .i64 21]) ?_ rfl ⟨?_, ?_⟩
        · simp [results, Tryz.results25, go_sem, *]
        · simp [rdN, rdAt, rdErr, HR.out]
        · exact (((HG.out.setCell (by show w.heap.size ≤ w.heap.size + 1; omega) _).setCell (by show w.heap.size ≤ w.heap.size + 1; omega) _).alloc _).drew
      · have hp1 := pow_bd (q + 1) (by omega)
        rw [Int.pow_succ] at hp1
        go_wp2
        go_roundw
        case rel =>
          refine ⟨q + 1, by omega, by go_num, ?_, Lib.hid (fun j hj => ?_), Lib.hid ?_⟩
          · rw [numOf, HN.out]
          · by_cases e : j = q
            · subst e; omega
            · exact hle.out j (by omega)
          · exact hB.out.alloc (by omega) _
        case measure => simp [intOf]; omega
    · have hqn := Lib.hid (show q = n by omega)
      have HR := Lib.hid (badAt_none (h := h) (m := m) n (fun j hj => hle.out j (by have := hqn.out; omega)))
      have hg := Lib.hid (show Gr w wr from Gr.trans (((Gr.refl w).alloc _).alloc _) (hB.out.mono (by simp)))
      by_cases hs10 : hs < 10
      · go_wp2
        go_region
        go_wp2
        refine bodyPost_ret (v := .tuple #[.agg #[.int .i64 0, .string ⟨#[]⟩], .int .i64 az, .int .i64 21]) ?_ rfl ⟨?_, ?_⟩
        · simp [results, Tryz.results25, go_sem, *]
        · simp [rdN, rdAt, rdErr, HR.out, hs10]
        · exact (((hg.out.drew).setCell (by show w.heap.size ≤ w.heap.size + 1; omega) _).setCell (by show w.heap.size ≤ w.heap.size + 1; omega) _)
      · by_cases hng : isNegB hs = true
        · go_wp2_with (go_at_call 58; refine (isNegative_any _ _).mono ?_; rintro e w1 ⟨rfl, rfl⟩)
          refine bodyPost_ret (v := .tuple #[.agg #[.int .i64 (-N), .string ⟨#[]⟩], .int .i64 0, .int .i64 0]) ?_ rfl ⟨?_, ?_⟩
          · simp [results, Tryz.results25, go_sem, *]
          · have e := HN.out; rw [hqn.out] at e; simp [rdN, rdAt, rdErr, HR.out, eq_false (show ¬ hs < 10 by omega), hng, e]
          · exact ((hg.out.setCell (by show w.heap.size ≤ w.heap.size + 1; omega) _).setCell (by show w.heap.size ≤ w.heap.size + 1; omega) _)
        · go_wp2_with (go_at_call 58; refine (isNegative_any _ _).mono ?_; rintro e w1 ⟨rfl, rfl⟩)
          refine bodyPost_ret (v := .tuple #[.agg #[.int .i64 N, .string ⟨#[]⟩], .int .i64 0, .int .i64 0]) ?_ rfl ⟨?_, ?_⟩
          · simp [results, Tryz.results25, go_sem, *]
          · have e := HN.out; rw [hqn.out] at e; simp [rdN, rdAt, rdErr, HR.out, eq_false (show ¬ hs < 10 by omega), hng, e]
          · exact ((hg.out.setCell (by show w.heap.size ≤ w.heap.size + 1; omega) _).setCell (by show w.heap.size ≤ w.heap.size + 1; omega) _)

end Go.Proofs.YtnaflaokhldfnaaGreat
namespace Go.Proofs.YtnaflaokhldfnaaGreat
set_option linter.unusedSimpArgs false
set_option linter.unusedVariables false
open Go.RowKit

/-- The cells of a list of numbers in a slice's block. -/
def At (w : World) (b : Nat) (xs : List Int) : Prop := ∀ i, i < xs.length → w.cell? ⟨b, i, none⟩ = some (.int .i64 (xs.getD i 0))
/-- How many numbers are left without the zeros at the end. -/
def tN (xs : List Int) : Nat → Nat
  | 0 => 0
  | k + 1 => if xs.getD k 0 = 0 then tN xs k else k + 1
theorem tN_le (xs : List Int) : ∀ k, tN xs k ≤ k
  | 0 => Nat.le_refl _
  | k + 1 => by unfold tN; have := tN_le xs k; split <;> omega
theorem tN_zero {xs : List Int} {k : Nat} (h : xs.getD k 0 = 0) : tN xs (k + 1) = tN xs k := if_pos h
theorem tN_some {xs : List Int} {k : Nat} (h : xs.getD k 0 ≠ 0) : tN xs (k + 1) = k + 1 := if_neg h
def lenOf : Value → Nat
  | .slice _ k _ => k
  | _ => 0

theorem trim_nil (cap : Nat) (w : World) :
    Calls Tryz.prog 93 #[.slice none 0 cap] w fun e w' => e = .returned (.slice none 0 cap) ∧ w = w' := by
  go_enter Tryz.func93, Tryz.ntmps93
  go_wp2
  go_loop [0] (fun i => i = .slice none 0 cap) (fun _ => 0)
  case atStart => rfl
  case round =>
    subst hrel
    go_wp2
    go_ret
    exact ⟨rfl, rfl⟩

set_option maxRecDepth 100000 in
theorem trim_any (b n cap : Nat) (xs : List Int) (hn : xs.length = n) (hc : n ≤ cap) (hm : cap ≤ maxLen) (w : World) (hcell : At w b xs) :
    Calls Tryz.prog 93 #[.slice (some ⟨b, 0, none⟩) n cap] w fun e w' => e = .returned (.slice (some ⟨b, 0, none⟩) (tN xs n) cap) ∧ w = w' := by
  unfold maxLen at hm
  have H := Lib.hid hn
  have HC := Lib.hid hcell
  clear hn hcell
  go_enter Tryz.func93, Tryz.ntmps93
  go_wp2
  go_loop [0] (fun i => ∃ k : Nat, k ≤ n ∧ i = .slice (some ⟨b, 0, none⟩) k cap ∧ Hid (tN xs k = tN xs n)) (fun i => lenOf i)
  case atStart => exact ⟨n, Nat.le_refl _, rfl, rfl⟩
  case round =>
    obtain ⟨k, hk, rfl, hr⟩ := hrel
    match k, hk, hr with
    | 0, hk, hr =>
      have hk0 : decide (0 < (0 : Nat)) = false := rfl
      go_wp2
      go_ret
      exact ⟨by rw [← hr.out]; rfl, rfl⟩
    | k + 1, hk, hr =>
      have hc1 := HC.out k (by rw [H.out]; omega)
      by_cases hz : xs.getD k 0 = 0
      · have hz' := Lib.hid hz
        rw [hz] at hc1
        clear hz
        go_wp2
        go_round
        case rel => exact ⟨k, by omega, by go_num, (tN_zero hz'.out).symm.trans hr.out⟩
        case measure => simp [lenOf]
      · obtain ⟨x, hx⟩ : ∃ x, xs.getD k 0 = x := ⟨_, rfl⟩
        rw [hx] at hc1 hz
        have hx' := Lib.hid hx
        clear hx
        go_wp2
        go_ret
        exact ⟨by rw [← hr.out, tN_some (by rw [hx'.out]; exact hz)]; rfl, rfl⟩

set_option maxRecDepth 100000 in
theorem Small_any (c : Bool) (b n cap : Nat) (xs : List Int) (hn : xs.length = n) (hm : n ≤ 18) (hd : Dg xs) (w : World) (hb : b < w.heap.size) (hcell : At w b xs) :
    Calls Tryz.prog 75 #[.agg #[.bool c, .slice (some ⟨b, 0, none⟩) n cap]] w fun e w' => e = .returned (.int .i64 (if c then -(vl xs) else vl xs)) ∧ Gr w w' := by
  have H := Lib.hid hn
  have HC := Lib.hid hcell
  have HD := Lib.hid hd
  have hbd := hd.bd
  clear hn hcell hd
  go_enter Tryz.func75, Tryz.ntmps75
  go_wp2
  go_loop [3, 4] (fun i j => ∃ k : Nat, k ≤ n ∧ j = .int .i64 ((k : Int) - 1) ∧ i = .int .i64 (vl (xs.drop k))) (fun _ j => (intOf j + 1).toNat)
  case atStart => exact ⟨n, Nat.le_refl _, rfl, by rw [← H.out, List.drop_length]; rfl⟩
  case round =>
    obtain ⟨k, hk, rfl, rfl⟩ := hrel
    match k, hk with
    | 0, hk =>
      have e0 : xs.drop 0 = xs := rfl
      rw [e0]
      have hv : vl xs < 1000000000000000000 := by
        have := ten_mono hm; rw [← H.out] at this; omega
      obtain ⟨z, hz⟩ : ∃ z, vl xs = z := ⟨_, rfl⟩
      rw [hz] at hv hbd ⊢
      have hz0 := hbd.1
      have hz' := Lib.hid hz
      clear hbd hz e0
      cases c
      all_goals (go_wp2; go_ret; exact ⟨ret_int (by simp [hz'.out]), (by repeat (first | (with_reducible exact Gr.refl _) | (with_reducible assumption) | (with_reducible refine Gr.alloc ?_ _) | (with_reducible refine Gr.drew ?_) | (with_reducible refine Gr.drewN ?_ _) | (with_reducible refine Gr.setCell ?_ (by simp <;> omega) _) | (with_reducible refine Gr.trans ?_ (by with_reducible assumption)) | exact Gr.refl _ | assumption | refine Gr.alloc ?_ _ | refine Gr.drew ?_ | refine Gr.drewN ?_ _ | refine Gr.setCell ?_ (by simp <;> omega) _ | refine Gr.trans ?_ (by assumption)))⟩)
    | k + 1, hk =>
      have hc1 := HC.out k (by rw [H.out]; omega)
      have hs := Lib.hid (vl_drop xs (i := k) (by rw [H.out]; omega))
      have hg := HD.out.getD k
      have hv := (HD.out.drop (k + 1)).bd
      have hv' : vl (xs.drop (k + 1)) < 100000000000000000 := by
        have := ten_mono (m := (xs.drop (k + 1)).length) (n := 17) (by rw [List.length_drop, H.out]; omega); omega
      obtain ⟨z, hz⟩ : ∃ z, vl (xs.drop (k + 1)) = z := ⟨_, rfl⟩
      obtain ⟨x, hx⟩ : ∃ x, xs.getD k 0 = x := ⟨_, rfl⟩
      rw [hz] at hv hv' hs ⊢
      rw [hx] at hc1 hg hs
      have hz0 := hv.1
      clear hv hbd hz hx
      go_wp2
      go_round
      case rel => exact ⟨k, by omega, by go_num, by rw [hs.out]; go_num⟩
      case measure => simp [intOf]

def sg (b : Bool) (n : Nat) : Int := if b then -(n : Int) else n
def ordI (a b : Int) : Int := if a = b then 0 else if b < a then 1 else -1
theorem ordI_lt {a b : Int} (h : a < b) : ordI a b = -1 := by unfold ordI; rw [if_neg (by omega), if_neg (by omega)]
theorem ordI_gt {a b : Int} (h : b < a) : ordI a b = 1 := by unfold ordI; rw [if_neg (by omega), if_pos h]
theorem ordI_eq (a : Int) : ordI a a = 0 := if_pos rfl

theorem Count_same (b : Bool) (w : World) : Calls Tryz.prog 38 #[.bool b] w fun e w' => e = .returned (.int .i64 (countI b)) ∧ w' = w :=
  (Count_any b w).mono fun _ _ h => ⟨h.1, h.2.1.symm⟩
set_option maxRecDepth 100000 in
/-- Lists of different lengths. -/
theorem order_len (p q : Option Addr) (m n c d : Nat) (xs ys : List Int) (hx : xs.length = m) (hy : ys.length = n) (cx : Cn xs) (cy : Cn ys) (hm : m ≤ 100000) (hn : n ≤ 100000) (hmn : m ≠ n) (w : World) :
    Calls Tryz.prog 94 #[.slice p m c, .slice q n d] w fun e w' => e = .returned (.int .i64 (ordI (vl xs) (vl ys))) ∧ w = w' := by
  have hr : ordI (vl xs) (vl ys) = 2 * countI (decide (n < m)) - 1 := by
    by_cases h : m < n
    · rw [ordI_lt (lt_len cx cy (by omega)), decide_eq_false (by omega)]; rfl
    · rw [ordI_gt (lt_len cy cx (by omega)), decide_eq_true (by omega)]; rfl
  have HR := Lib.hid hr
  clear hr
  go_enter Tryz.func94, Tryz.ntmps94
  go_wp2_with (go_at_call 38; refine (Count_any _ _).mono ?_; rintro e w1 ⟨rfl, rfl, hc0, hc1⟩)
  go_ret
  exact ⟨ret_int (by rw [HR.out]), rfl⟩

set_option maxRecDepth 100000 in
/-- Lists of one length. -/
theorem order_eq (p q n c d : Nat) (xs ys : List Int) (hx : xs.length = n) (hy : ys.length = n) (dx : Dg xs) (dy : Dg ys) (hn : n ≤ 100000) (w : World) (hcx : At w p xs) (hcy : At w q ys) :
    Calls Tryz.prog 94 #[.slice (some ⟨p, 0, none⟩) n c, .slice (some ⟨q, 0, none⟩) n d] w fun e w' => e = .returned (.int .i64 (ordI (vl xs) (vl ys))) ∧ Gr w w' := by
  have HX := Lib.hid hx
  have HY := Lib.hid hy
  have HCX := Lib.hid hcx
  have HCY := Lib.hid hcy
  have DX := Lib.hid dx
  have DY := Lib.hid dy
  clear hx hy hcx hcy dx dy
  go_enter Tryz.func94, Tryz.ntmps94
  go_wp2
  go_loopw [5] (fun j wr => ∃ k : Nat, k ≤ n ∧ j = .int .i64 ((k : Int) - 1) ∧ Hid (vl (xs.drop k) = vl (ys.drop k)) ∧ Hid (Gr w wr)) (fun j _ => (intOf j + 1).toNat)
  case atStart => exact ⟨n, Nat.le_refl _, rfl, (by show _ = _; rw [← HX.out, List.drop_length, HX.out, ← HY.out, List.drop_length]), Gr.refl _⟩
  case round =>
    obtain ⟨k, hk, rfl, hr, hG⟩ := hrel
    match k, hk, hr with
    | 0, hk, hr =>
      go_wp2
      go_ret
      exact ⟨ret_int (by have h : vl xs = vl ys := hr.out; rw [h, ordI_eq]), hG.out⟩
    | k + 1, hk, hr =>
      have hc1 := hG.out.keep (HCX.out k (by rw [HX.out]; omega))
      have hc2 := hG.out.keep (HCY.out k (by rw [HY.out]; omega))
      have s1 := Lib.hid (vl_drop xs (i := k) (by rw [HX.out]; omega))
      have s2 := Lib.hid (vl_drop ys (i := k) (by rw [HY.out]; omega))
      obtain ⟨x, ex⟩ : ∃ x, xs.getD k 0 = x := ⟨_, rfl⟩
      obtain ⟨y, ey⟩ : ∃ y, ys.getD k 0 = y := ⟨_, rfl⟩
      by_cases hxy : x = y
      · subst hxy
        rw [ex] at hc1 s1
        rw [ey] at hc2 s2
        clear ex ey
        go_wp2
        go_quiet (fail)
        go_wp2
        go_round
        case rel => exact ⟨k, by omega, by go_num, (by show _ = _; rw [s1.out, s2.out, hr.out]), hG.out.drewN _⟩
        case measure => simp [intOf]
      · have hne := bne_iff_ne.2 hxy
        have hl : ordI (vl xs) (vl ys) = 2 * countI (decide (y < x)) - 1 := by
          by_cases h : x < y
          · rw [ordI_lt (drop_lt DX.out DY.out (by rw [HX.out, HY.out]) (show k < n by omega) HX.out.symm hr.out (by rw [ex, ey]; exact h)), decide_eq_false (by omega)]; rfl
          · rw [ordI_gt (drop_lt DY.out DX.out (by rw [HX.out, HY.out]) (show k < n by omega) HY.out.symm hr.out.symm (by rw [ex, ey]; omega)), decide_eq_true (by omega)]; rfl
        have HL := Lib.hid hl
        rw [ex] at hc1
        rw [ey] at hc2
        clear ex ey s1 s2 hl
        go_wp2
        go_quiet (fail)
        go_wp2
        have hcb := countI_bd (decide (y < x))
        have hkn : k < n := by omega
        have hkn' : (k : Int) < n := by omega
        have d1 : (wr.drewN nq).cell? ⟨p, k, none⟩ = some (.int .i64 x) := by simpa using hc1
        have d2 : (wr.drewN nq).cell? ⟨q, k, none⟩ = some (.int .i64 y) := by simpa using hc2
        have G1 := Lib.hid (hG.out.drewN nq)
        clear hc1 hc2
        generalize wr.drewN nq = wz at d1 d2 G1 ⊢
        go_quiet ((go_at_call 38; exact Calls.quiet_of_same (Count_same _ _)))
        go_wp2
        go_ret
        exact ⟨ret_int (by rw [HL.out]), G1.out.drewN _⟩
end Go.Proofs.YtnaflaokhldfnaaGreat
namespace Go.Proofs.YtnaflaokhldfnaaGreat
set_option linter.unusedSimpArgs false
set_option linter.unusedVariables false
open Go.RowKit

/-- What trim leaves has the same value, and is canonical. -/
theorem tN_vl (xs : List Int) : ∀ k, vl (xs.take (tN xs k)) = vl (xs.take k)
  | 0 => rfl
  | k + 1 => by
    by_cases h : xs.getD k 0 = 0
    · rw [tN_zero h, tN_vl xs k, trim_step h]
    · rw [tN_some h]
theorem tN_last (xs : List Int) : ∀ k, 0 < tN xs k → xs.getD (tN xs k - 1) 0 ≠ 0
  | 0, h => absurd h (Nat.lt_irrefl 0)
  | k + 1, h => by
    by_cases e : xs.getD k 0 = 0
    · rw [tN_zero e] at h ⊢; exact tN_last xs k h
    · rw [tN_some e]; simpa using e
theorem tN_cn {xs : List Int} (h : Dg xs) : Cn (xs.take (tN xs xs.length)) := by
  have hl : (xs.take (tN xs xs.length)).length = tN xs xs.length := by rw [List.length_take]; exact Nat.min_eq_left (tN_le xs _)
  refine Cn.of_last (h.take _) ?_
  rw [hl]
  intro h0
  have := tN_last xs xs.length h0
  rw [List.getD_eq_getElem?_getD] at this ⊢
  rw [List.getElem?_take_of_lt (by omega)]
  exact this
theorem At.take {w : World} {b : Nat} {xs : List Int} (h : At w b xs) (n : Nat) : At w b (xs.take n) := by
  intro i hi
  rw [List.length_take] at hi
  rw [h i (by omega), List.getD_eq_getElem?_getD, List.getD_eq_getElem?_getD, List.getElem?_take_of_lt (by omega)]
theorem At.gr {a w : World} {b : Nat} {xs : List Int} (h : At a b xs) (g : Gr a w) : At w b xs := fun i hi => g.keep (h i hi)

set_option maxRecDepth 100000 in
theorem power_any (n : Nat) (N : Int) (hN : N = n) (hb : n ≤ 1000) (w : World) :
    Calls Tryz.prog 77 #[.int .i64 N] w fun e w' => ∃ g cap, e = .returned (.slice (some ⟨g, 0, none⟩) (n + 1) cap) ∧ Own w' w.heap.size .i64 3 (.slice (some ⟨g, 0, none⟩) (n + 1) cap) (List.replicate n 0 ++ [1]) ∧ Gr w w' := by
  obtain ⟨i0, hi, hz0, hz1, hz2⟩ := info_parts info3
  have hmk := mk_ints N n hN (by omega)
  have hO := Lib.hid (Own.of_arr (B := w.heap.size) (n := n) (m := n) (Arr.made w .i64 3 n) (Nat.le_refl _) (by unfold maxLen; simp; omega) (by simp) (by simp))
  clear hN
  go_enter Tryz.func77, Tryz.ntmps77
  go_wp2_with (at_builtin; go_loud (refine wp_append_ints _ rfl (.tmp 4) (.tmp 5) 84 3 rfl .i64 i0 8 Tryz.underlying84 hi hz0 hz1 hz2 (by decide) w.heap.size _ (List.replicate n 0) rfl (hO.out.alloc _) (n + 1) (w.heap.size + 1) 1 1 [1] (by first | rfl | simp) rfl (by omega) (fun j hj => by first | exact one_cell _ _ _ _ j hj | simpa using one_cell (w.alloc (.cells (mkz .i64 n) 3)) .i64 3 1 j hj) (by first | rfl | simp) (by omega) (by simp <;> omega) ?_); intro g1 cap1 w2 hO2 hB2 hgr2 hg1 hg1l)
  refine bodyPost_ret (v := .slice (some ⟨g1, 0, none⟩) (n + 1) cap1) (by simp [results, Tryz.results77, go_sem, *]) rfl ⟨g1, cap1, rfl, hO2, Below.trans (((Gr.refl w).alloc _).alloc _) hB2⟩
end Go.Proofs.YtnaflaokhldfnaaGreat
namespace Go.Proofs.YtnaflaokhldfnaaGreat
set_option linter.unusedSimpArgs false
set_option linter.unusedVariables false
open Go.RowKit

/-- The digits of an amount behind so many zeros: so many of them. -/
def ld (z : Nat) (a : Int) (q : Nat) : List Int := List.replicate z 0 ++ fl q (dig a)
theorem ld_length (z : Nat) (a : Int) (q : Nat) : (ld z a q).length = z + q := by unfold ld; simp [fl_length]
theorem ld_succ (z : Nat) (a : Int) (q : Nat) : ld z a q ++ [dig a q] = ld z a (q + 1) := by
  unfold ld fl; rw [List.append_assoc, List.range_succ, List.map_append]; rfl
theorem fl_dg (a : Int) (q : Nat) : Dg (fl q (dig a)) := by
  intro d hd
  unfold fl at hd
  obtain ⟨i, _, rfl⟩ := List.mem_map.1 hd
  exact dig_bd a i
theorem ld_dg (z : Nat) (a : Int) (q : Nat) : Dg (ld z a q) := (Dg.zeros z).append (fl_dg a q)
theorem fl_vl (a : Int) (h : 0 ≤ a) : ∀ q, vl (fl q (dig a)) + 10 ^ q * (a / 10 ^ q) = a
  | 0 => by simp [fl, vl]
  | q + 1 => by
    have e : fl (q + 1) (dig a) = fl q (dig a) ++ [dig a q] := by unfold fl; rw [List.range_succ, List.map_append]; rfl
    have ih := fl_vl a h q
    rw [e, vl_snoc, fl_length, ← div_step]
    rw [show dig a q = a / 10 ^ q % 10 from rfl]
    have := Int.mul_ediv_add_emod (a / 10 ^ q) 10
    generalize a / 10 ^ q = x at *
    rw [Int.pow_succ]
    generalize (10 : Int) ^ q = P at *
    have e2 : P * x = P * (10 * (x / 10)) + P * (x % 10) := by rw [← Int.mul_add, this]
    rw [Int.mul_assoc]
    omega
theorem ld_vl {z : Nat} {a : Int} {q : Nat} (h : 0 ≤ a) (hq : a / 10 ^ q = 0) : vl (ld z a q) = a * 10 ^ z := by
  unfold ld
  have := fl_vl a h q
  rw [hq] at this
  rw [vl_append, vl_zeros, List.length_replicate, Int.mul_comm a]
  simp at this
  rw [this]; simp
end Go.Proofs.YtnaflaokhldfnaaGreat
namespace Go.Proofs.YtnaflaokhldfnaaGreat
set_option linter.unusedSimpArgs false
set_option linter.unusedVariables false
open Go.RowKit

theorem Own.cap {w : World} {B g n cap : Nat} {k e} {xs : List Int} (h : Own w B k e (.slice (some ⟨g, 0, none⟩) n cap) xs) : xs.length ≤ cap ∧ cap ≤ maxLen := by
  rcases h.2 with ⟨h', _⟩ | ⟨g', cap', cur, h', _, hg, h1, h2, _⟩
  · simp at h'
  · simp only [Value.slice.injEq, Option.some.injEq, Addr.mk.injEq, and_true, true_and] at h'
    obtain ⟨rfl, rfl, rfl⟩ := h'
    exact ⟨h1, h2⟩
theorem Own.at_ {w : World} {B g n cap : Nat} {e} {xs : List Int} (h : Own w B .i64 e (.slice (some ⟨g, 0, none⟩) n cap) xs) : At w g xs := fun i hi => h.cell i hi

set_option maxHeartbeats 2000000 in
set_option maxRecDepth 100000 in
theorem LongOf_any (n : Int) (z : Nat) (Z : Int) (hZ : Z = z) (hz : z ≤ 100) (h : -1000000000000000000 ≤ n) (h' : n ≤ 1000000000000000000) (w : World) :
    Calls Tryz.prog 76 #[.int .i64 n, .int .i64 Z] w fun e w' => ∃ g cap xs k, e = .returned (.agg #[.bool (decide (n < 0)), .slice (some ⟨g, 0, none⟩) k cap]) ∧ xs.length = k ∧ k ≤ cap ∧ cap ≤ maxLen ∧ w.heap.size ≤ g ∧ At w' g xs ∧ Cn xs ∧ vl xs = absI n * 10 ^ z ∧ Gr w w' := by
  obtain ⟨i0, hi, hz0, hz1, hz2⟩ := info_parts info3
  have ha : 0 ≤ absI n ∧ absI n ≤ 1000000000000000000 := by unfold absI; split <;> omega
  have hmk := mk_ints Z z hZ (by omega)
  clear hZ
  go_enter Tryz.func76, Tryz.ntmps76
  go_wp2_with (first | (go_at_call 51; refine (Amount_any _ h h' _).mono ?_; rintro e w1 ⟨rfl, rfl⟩))
  have HA := Lib.hid ha
  have hO0 := Lib.hid (Own.of_arr (B := w.heap.size + 1) (n := z) (m := z) (Arr.made (w.alloc (.cells #[.bool false, .slice none 0 0] 86)) .i64 3 z) (by simp) (by unfold maxLen; simp; omega) (by simp) (by simp))
  go_loopw [5, 6] (fun l x wr => ∃ q g cap : Nat, q ≤ 19 ∧ l = .slice (some ⟨g, 0, none⟩) (z + q) cap ∧ x = .int .i64 (absI n / 10 ^ q) ∧ Hid (w.heap.size + 1 ≤ g) ∧ Hid (Own wr (w.heap.size + 1) .i64 3 (.slice (some ⟨g, 0, none⟩) (z + q) cap) (ld z (absI n) q)) ∧ Hid (Below (w.heap.size + 1) (w.alloc (.cells #[.bool false, .slice none 0 0] 86)) wr)) (fun _ x _ => (intOf x).toNat)
  case atStart =>
    refine ⟨0, w.heap.size + 1, z, by omega, rfl, by simp, Nat.le_refl _, Lib.hid ?_, (Below.refl _ _).alloc (by simp) _⟩
    have := hO0.out
    simp only [World.size_alloc] at this
    simpa [ld, fl] using this
  case round =>
    obtain ⟨q, g, cap, hq, rfl, rfl, hg, hO, hB⟩ := hrel
    obtain ⟨r, hr⟩ : ∃ r, absI n / 10 ^ q = r := ⟨_, rfl⟩
    have hrb := div_bd (absI n) q HA.out.1
    have hst := Lib.hid (div_step (absI n) q)
    have hq19 : 0 < r → q < 19 := by
      intro h0
      rcases Nat.lt_or_ge q 19 with k | k
      · exact k
      · exfalso
        have : (10 : Int) ^ 19 ≤ 10 ^ q := ten_mono k
        have h1 : absI n / 10 ^ q = 0 := Int.ediv_eq_zero_of_lt HA.out.1 (by have := HA.out.2; omega)
        omega
    rw [hr] at hrb hst ⊢
    have ha2 := HA.out.2
    have hsz := hB.size
    simp at hsz
    have hr' := Lib.hid hr
    clear hr ha
    by_cases hlt : 0 < r
    · have hq2 := hq19 hlt
      clear hq19
      go_wp2_with (at_builtin; go_loud (refine wp_append_ints _ rfl (.tmp 15) (.tmp 18) 84 3 rfl .i64 i0 8 Tryz.underlying84 hi hz0 hz1 hz2 (by decide) (w.heap.size + 1) _ (ld z (absI n) q) rfl (hO.out.alloc _) (z + q + 1) wr.heap.size 1 1 [r % 10] (by first | rfl | simp) rfl (by omega) (fun j hj => one_cell _ _ _ _ j hj) (by rw [ld_length]) (by omega) (by simp <;> omega) ?_); intro g1 cap1 w2 hO2 hB2 hgr2 hg1 hg1l)
      go_roundw
      case rel =>
        refine ⟨q + 1, g1, cap1, by omega, rfl, (by have e := hst.out; go_num), Lib.hid hg1, Lib.hid ?_, Lib.hid (Below.trans (Below.alloc hB.out (by omega) _) hB2)⟩
        rw [← ld_succ, show dig (absI n) q = r % 10 by unfold dig; rw [hr'.out]]
        exact hO2
      case measure => simp [intOf]; omega
    · have hr0 : r = 0 := by omega
      subst hr0
      have c0 : wr.cell? ⟨w.heap.size, 0, none⟩ = some (.bool false) := keepc hB.out (by simp) (by first | (simp; done) | (simp [go_sem]; done))
      have c1 : wr.cell? ⟨w.heap.size, 1, none⟩ = some (.slice none 0 0) := keepc hB.out (by simp) (by first | (simp; done) | (simp [go_sem]; done))
      have f0 : wr.frozen? ⟨w.heap.size, 0, none⟩ = false := (Below.frozen hB.out (p := ⟨w.heap.size, 0, none⟩) (by simp)).trans (by simp [go_sem])
      have f1 : wr.frozen? ⟨w.heap.size, 1, none⟩ = false := (Below.frozen hB.out (p := ⟨w.heap.size, 1, none⟩) (by simp)).trans (by simp [go_sem])
      have hT := trim_any g (z + q) cap (ld z (absI n) q) (ld_length _ _ _) (by have := hO.out.cap.1; rw [ld_length] at this; exact this) hO.out.cap.2 wr hO.out.at_
      obtain ⟨t, ht⟩ : ∃ t, tN (ld z (absI n) q) (z + q) = t := ⟨_, rfl⟩
      rw [ht] at hT
      have HT := Lib.hid ht
      clear ht hst
      go_wp2_with (go_at_call 93; refine (hT).mono ?_; rintro e w1 ⟨rfl, rfl⟩)
      have hat : At ((wr.setCell ⟨w.heap.size, 0, none⟩ (.bool (decide (n < 0)))).setCell ⟨w.heap.size, 1, none⟩ (.slice (some ⟨g, 0, none⟩) t cap)) g ((ld z (absI n) q).take t) := by
        intro i hi
        have h1 := (hO.out.at_.take t) i hi
        have hne : g ≠ w.heap.size := by have := hg.out; omega
        have hne' : w.heap.size ≠ g := fun k => hne k.symm
        simp [go_sem, hne, hne', h1]
      have hcn := tN_cn (ld_dg z (absI n) q)
      have hvl := tN_vl (ld z (absI n) q) (z + q)
      have hle := tN_le (ld z (absI n) q) (z + q)
      rw [ld_length, HT.out] at hcn
      have hv2 : vl ((ld z (absI n) q).take (z + q)) = absI n * 10 ^ z := by rw [List.take_of_length_le (by rw [ld_length]; exact Nat.le_refl _), ld_vl HA.out.1 hr'.out]
      rw [HT.out, hv2] at hvl
      rw [HT.out] at hle
      have hG : Gr w wr := Below.mono (Below.trans (Below.alloc (Below.refl w.heap.size w) (Nat.le_refl _) _) (Below.mono hB.out (Nat.le_succ _))) (Nat.le_refl _)
      refine bodyPost_ret (v := .agg #[.bool (decide (n < 0)), .slice (some ⟨g, 0, none⟩) t cap]) (by simp [results, Tryz.results76, go_sem, *]) rfl ⟨g, cap, (ld z (absI n) q).take t, t, rfl, by rw [List.length_take, ld_length]; exact Nat.min_eq_left hle, (by have := hO.out.cap.1; rw [ld_length] at this; omega), hO.out.cap.2, by have := hg.out; omega, hat, hcn, hvl, Gr.setCell (Gr.setCell hG (Nat.le_refl _) _) (Nat.le_refl _) _⟩
end Go.Proofs.YtnaflaokhldfnaaGreat
