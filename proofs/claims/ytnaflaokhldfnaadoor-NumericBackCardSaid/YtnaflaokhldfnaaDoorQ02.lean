/- Texts of the walks, merged. -/
import Derived.Test.YtnaflaokhldfnaaDoorQ01
namespace Go.Proofs.YtnaflaokhldfnaaDoor
set_option linter.unusedSimpArgs false
set_option linter.unusedVariables false
open Go.RowKit

theorem info5 : (Tryd.prog.info? 5).map (fun i => (i.zero, i.size, i.bytes)) = some (some (.int .u8 0), 1, 1) := by kernel_rfl
theorem info3 : (Tryd.prog.info? 3).map (fun i => (i.zero, i.size, i.bytes)) = some (some (.int .i64 0), 1, 8) := by kernel_rfl

/-- make([]byte, n), make([]int, n) -/
theorem mk_bytes (N : Int) (n : Nat) (hN : N = n) (hb : n ≤ 100000) (w : World) :
    (Instr.makeSlice 88 (.int .i64 N) (.int .i64 N)).run Tryd.prog w = .ok (.slice (some ⟨w.heap.size, 0, none⟩) n n) (w.alloc (.cells (mkz .u8 n) 5)) := by
  obtain ⟨i0, hi, hz0, hz1, hz2⟩ := info_parts info5
  exact run_mkz Tryd.underlying88 hi hz0 hz1 hz2 N n hN (by omega) (by unfold maxLen; omega) w
theorem mk_ints (N : Int) (n : Nat) (hN : N = n) (hb : n ≤ 100000) (w : World) :
    (Instr.makeSlice 97 (.int .i64 N) (.int .i64 N)).run Tryd.prog w = .ok (.slice (some ⟨w.heap.size, 0, none⟩) n n) (w.alloc (.cells (mkz .i64 n) 3)) := by
  obtain ⟨i0, hi, hz0, hz1, hz2⟩ := info_parts info3
  exact run_mkz Tryd.underlying97 hi hz0 hz1 hz2 N n hN (by omega) (by unfold maxLen; omega) w
/-- string(bytes) -/
theorem str_of {w : World} {b n cap : Nat} {t : TypeId} {xs : List Int} (h : Arr w b .u8 t xs) (hn : xs.length = n) :
    (convert 88 9 (.slice (some ⟨b, 0, none⟩) n cap)).run Tryd.prog w = .ok (.string (strOfNums xs)) w :=
  run_convert_bytes_arg w 88 5 Tryd.underlying88 Tryd.underlying5 b 0 n cap xs hn (fun i hi => by rw [Nat.zero_add]; exact h.cell i (by omega)) 9 Tryd.underlying9

theorem u8_or4 (x y : Int) (h0 : 0 ≤ x) (h1 : x % 16 = 0) (h2 : x < 256) (h3 : 0 ≤ y) (h4 : y < 16) : bits .or .u8 x y = x + y :=
  bits_join .u8 8 (by decide) wraps_u8 4 x y h0 h1 h2 h3 h4 (by omega)

/-- Digit number i of an amount, from the lowest one on. -/
def dig (a : Int) (i : Nat) : Int := a / 10 ^ i % 10
theorem dig_bd (a : Int) (i : Nat) : 0 ≤ dig a i ∧ dig a i ≤ 9 := by unfold dig; omega
theorem div_step (a : Int) (k : Nat) : a / 10 ^ k / 10 = a / 10 ^ (k + 1) := by
  rw [Int.pow_succ, Int.ediv_ediv_of_nonneg (Int.le_of_lt (Int.pow_pos (by omega)))]
theorem div_bd (a : Int) (k : Nat) (h : 0 ≤ a) : 0 ≤ a / 10 ^ k ∧ a / 10 ^ k ≤ a := by
  have hp : (0 : Int) < 10 ^ k := Int.pow_pos (by omega)
  exact ⟨Int.ediv_nonneg h (by omega), Int.ediv_le_self _ h⟩

def sizeI (k l : Int) : Int := if k = 1 then l / 2 + 1 else if k = 3 then (if l = 4 then 2 else 4) else if k = 4 then 16 else l
theorem sizeOf_any (k l s : Int) (h0 : 0 ≤ l) (h1 : l ≤ 256) (w : World) :
    Calls Tryd.prog 33 #[.agg #[.int .i64 k, .int .i64 l, .int .i64 s]] w fun e w' => e = .returned (.int .i64 (sizeI k l)) ∧ Gr w w' := by
  go_enter Tryd.func33, Tryd.ntmps33
  go_wp2
  all_goals (go_ret; exact ⟨ret_int (by grind [sizeI]), (by repeat (first | (with_reducible exact Gr.refl _) | (with_reducible assumption) | (with_reducible refine Gr.alloc ?_ _) | (with_reducible refine Gr.drew ?_) | (with_reducible refine Gr.drewN ?_ _) | (with_reducible refine Gr.setCell ?_ (by simp <;> omega) _) | (with_reducible refine Gr.trans ?_ (by with_reducible assumption)) | exact Gr.refl _ | assumption | refine Gr.alloc ?_ _ | refine Gr.drew ?_ | refine Gr.drewN ?_ _ | refine Gr.setCell ?_ (by simp <;> omega) _ | refine Gr.trans ?_ (by assumption)))⟩)

def absI (n : Int) : Int := if n < 0 then -n else n
theorem amountIn_any (n : Int) (h : -1000000000000000000 ≤ n) (h' : n ≤ 1000000000000000000) (w : World) :
    Calls Tryd.prog 23 #[.int .i64 n] w fun e w' => e = .returned (.int .i64 (absI n)) ∧ w = w' := by
  go_enter Tryd.func23, Tryd.ntmps23
  go_wp2
  all_goals (go_ret; exact ⟨ret_int (by grind [absI]), rfl⟩)

def signI (n : Int) : Int := if n < 0 then 13 else 15
theorem signOf_any (n : Int) (w : World) :
    Calls Tryd.prog 87 #[.int .i64 n] w fun e w' => e = .returned (.int .u8 (signI n)) ∧ w = w' := by
  go_enter Tryd.func87, Tryd.ntmps87
  go_wp2
  all_goals (go_ret; exact ⟨by simp [signI, *], rfl⟩)

/-- The bytes of a zoned number. -/
def znB (n : Int) (L : Nat) : List Int := fl L (fun j => if j = L - 1 then 16 * signI n + dig (absI n) 0 else 240 + dig (absI n) (L - 1 - j))

set_option maxHeartbeats 1000000 in
theorem zonedBytes_any (k s n : Int) (L : Nat) (h0 : 1 ≤ L) (h1 : L ≤ 256) (hn : -1000000000000000000 ≤ n) (hn' : n ≤ 1000000000000000000) (w : World) :
    Calls Tryd.prog 65 #[.agg #[.int .i64 k, .int .i64 (L : Int), .int .i64 s], .int .i64 n] w fun e w' => e = .returned (.string (strOfNums (znB n L))) ∧ Gr w w' := by
  have hmk := mk_bytes L L rfl (by omega)
  go_enter Tryd.func65, Tryd.ntmps65
  go_wp2_with (go_at_call 23; refine (amountIn_any _ hn hn' _).mono ?_; rintro e w1 ⟨rfl, rfl⟩)
  have hL : L ≠ 0 := by omega
  have ha := Lib.hid (show 0 ≤ absI n ∧ absI n ≤ 1000000000000000000 by unfold absI; split <;> omega)
  have hA0 := Lib.hid (((Arr.made (w.alloc (.cells #[.int .i64 k, .int .i64 L, .int .i64 s] 37)) .u8 5 L)))
  go_loopw [7, 19] (fun r i wr => ∃ q : Nat, q ≤ L ∧ i = .int .i64 q ∧ r = .int .i64 (absI n / 10 ^ q) ∧ Hid (Arr wr (w.heap.size + 1) .u8 5 (fl L (fun j => if L - q ≤ j then 240 + dig (absI n) (L - 1 - j) else 0))) ∧ Hid (Gr w wr)) (fun _ i _ => L - (intOf i).toNat)
  case atStart =>
    refine ⟨0, by omega, rfl, by simp, ?_, ((Gr.refl _).alloc _).alloc _⟩
    have := hA0.out
    simp only [World.size_alloc] at this
    rw [fl_zero] at this
    rw [fl_congr (g := fun _ => 0)]
    · exact this
    · intro i hi; rw [if_neg (by omega)]
  case round =>
    obtain ⟨q, hq, rfl, rfl, hA, hG⟩ := hrel
    obtain ⟨r, hr⟩ : ∃ r, absI n / 10 ^ q = r := ⟨_, rfl⟩
    have hrb := div_bd (absI n) q ha.out.1
    have hst := Lib.hid (div_step (absI n) q)
    rw [hr] at hrb hst ⊢
    have ha2 := ha.out.2
    have hr' := Lib.hid hr
    clear hr
    by_cases hlt : q < L
    · obtain ⟨v0, hv0⟩ : ∃ v, wr.cell? ⟨w.heap.size + 1, L - 1 - q, none⟩ = some v := ⟨_, hA.out.cell (L - 1 - q) (by rw [fl_length]; omega)⟩
      have hf0 := hA.out.frozen (L - 1 - q)
      have hor : bits .or .u8 240 (r % 10) = 240 + r % 10 := u8_or4 240 (r % 10) (by omega) (by omega) (by omega) (by omega) (by omega)
      go_wp2
      go_roundw
      case rel =>
        refine ⟨q + 1, by omega, by go_num, by rw [← hst.out], Lib.hid ?_, Lib.hid (hG.out.setCell (by simp) _)⟩
        have h1 := hA.out.set (L - 1 - q) (240 + r % 10)
        rw [fl_set] at h1
        rw [fl_congr (g := fun j => if j = L - 1 - q then 240 + r % 10 else if L - q ≤ j then 240 + dig (absI n) (L - 1 - j) else 0)]
        · exact h1
        · intro j hj
          by_cases e : j = L - 1 - q
          · subst e
            rw [if_pos (by omega), if_pos rfl, show L - 1 - (L - 1 - q) = q from by omega]
            unfold dig
            rw [hr'.out]
          · rw [if_neg e]
            by_cases e2 : L - q ≤ j
            · rw [if_pos e2, if_pos (by omega)]
            · rw [if_neg e2, if_neg (by omega)]
      case measure => simp [intOf]; omega
    · have hqL := Lib.hid (show q = L by omega)
      have hc := hA.out.cell (L - 1) (by rw [fl_length]; omega)
      have hd := dig_bd (absI n) 0
      rw [fl_getD (by omega), hqL.out, if_pos (by omega), Nat.sub_self] at hc
      have hf0 := hA.out.frozen (L - 1)
      go_wp2
      go_cut [] (fun wx => Arr wx (w.heap.size + 1) .u8 5 ((fl L (fun j => if L - q ≤ j then 240 + dig (absI n) (L - 1 - j) else 0)).set (L - 1) (16 * signI n + dig (absI n) 0)) ∧ Gr w wx)
      case first =>
        have hand := u8_and15 (240 + dig (absI n) 0) (by omega) (by omega)
        have hd15 : (240 + dig (absI n) 0) % 16 = dig (absI n) 0 := by omega
        have hsg : signI n = 13 ∨ signI n = 15 := by unfold signI; split <;> simp
        have ho1 := u8_or4 208 (dig (absI n) 0) (by omega) (by omega) (by omega) (by omega) (by omega)
        have ho2 := u8_or4 240 (dig (absI n) 0) (by omega) (by omega) (by omega) (by omega) (by omega)
        rcases hsg with hsg | hsg
        all_goals
          go_region_with (go_at_call 87; refine (signOf_any _ _).mono ?_; rintro e w1 ⟨rfl, rfl⟩)
          all_goals
            go_wp2
            go_meet
            refine ⟨?_, (hG.out.setCell (by simp) _).drew⟩
            have h := fun v => (hA.out.set (L - 1) v).drew
            rw [hsg]
            first
              | exact h (208 + dig (absI n) 0)
              | exact h (240 + dig (absI n) 0)
              | (rw [show IntKind.u8.wrap 208 = 208 from by decide, ho1]; exact h _)
              | (rw [show IntKind.u8.wrap 240 = 240 from by decide, ho2]; exact h _)
      case rest =>
        obtain ⟨h1, h2⟩ := hcut
        have hL1 := Lib.hid h1
        have hs := str_of (n := L) (cap := L) h1 (by simp [fl_length])
        clear h1
        go_wp2
        go_ret
        refine ⟨ret_str ?_, h2⟩
        rw [fl_set, fl_congr]
        · rfl
        · intro i hi
          by_cases e : i = L - 1
          · simp [e]
          · have := hqL.out
            simp [e]
end Go.Proofs.YtnaflaokhldfnaaDoor
