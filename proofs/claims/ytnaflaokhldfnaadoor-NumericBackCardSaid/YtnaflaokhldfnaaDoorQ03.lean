/- Texts of the walks, merged. -/
import Derived.Test.YtnaflaokhldfnaaDoorQ02
import Derived.Test.YtnaflaokhldfnaaDoorQ01
namespace Go.Proofs.YtnaflaokhldfnaaDoor
set_option linter.unusedSimpArgs false
set_option linter.unusedVariables false
open Go.RowKit

/-- The bytes of a number in the two's complement, the highest one first. -/
def bnB (n : Int) (L : Nat) : List Int := fl L (fun j => n / 2 ^ (8 * (L - 1 - j)) % 256)

set_option maxHeartbeats 1000000 in
theorem binaryBytes_any (l s n : Int) (S : Nat) (hS : sizeI 3 l = S) (h0 : 0 ≤ l) (h1 : l ≤ 256) (hs1 : 1 ≤ S) (hs4 : S ≤ 4) (w : World) :
    Calls Tryd.prog 66 #[.agg #[.int .i64 3, .int .i64 l, .int .i64 s], .int .i64 n] w fun e w' => e = .returned (.string (strOfNums (bnB n S))) ∧ Gr w w' := by
  have hmk := mk_bytes S S rfl (by omega)
  have HS := Lib.hid hS
  clear hS
  go_enter Tryd.func66, Tryd.ntmps66
  go_wp2_with (go_at_call 33; refine (sizeOf_any _ _ _ h0 h1 _).mono ?_; rintro e w1 ⟨rfl, hb⟩; rw [HS.out]; have hz : w.heap.size < w1.heap.size := by have h := hb.size; simp at h; omega)
  have hA0 := Lib.hid (Arr.made_fl w1 .u8 5 S (fun j => if S - 0 ≤ j then n / 2 ^ (8 * (S - 1 - j)) % 256 else 0) (fun i hi => by rw [if_neg (by omega)]))
  have hb' := Lib.hid hb
  clear hb
  go_loopw [12] (fun i wr => ∃ q : Nat, q ≤ S ∧ i = .int .i64 q ∧ Hid (Arr wr w1.heap.size .u8 5 (fl S (fun j => if S - q ≤ j then n / 2 ^ (8 * (S - 1 - j)) % 256 else 0))) ∧ Hid (Gr w wr)) (fun i _ => S - (intOf i).toNat)
  case atStart => exact ⟨0, by omega, rfl, hA0, ((Gr.trans ((Gr.refl _).alloc _) hb'.out).alloc _)⟩
  case round =>
    obtain ⟨q, hq, rfl, hA, hG⟩ := hrel
    by_cases hlt : q < S
    · obtain ⟨v0, hv0⟩ := hA.out.has (S - 1 - q) (by omega)
      have hf0 := hA.out.frozen (S - 1 - q)
      go_wp2
      go_roundw
      case rel =>
        refine ⟨q + 1, by omega, by go_num, Lib.hid (hA.out.set_fl _ _ fun i hi => ?_), Lib.hid (hG.out.setCell (by simp; omega) _)⟩
        by_cases e : i = S - 1 - q
        · rw [if_pos (by omega), if_pos e, show S - 1 - i = q from by omega]
        · rw [if_neg e]; by_cases e2 : S - q ≤ i
          · rw [if_pos e2, if_pos (by omega)]
          · rw [if_neg e2, if_neg (by omega)]
      case measure => simp [intOf]; omega
    · have hqS := Lib.hid (show q = S by omega)
      have hs := str_of (n := S) (cap := S) hA.out (fl_length _ _)
      go_wp2
      go_ret
      refine ⟨ret_str (congrArg strOfNums (fl_congr fun i hi => ?_)), hG.out⟩
      have := hqS.out
      simp [show S - q ≤ i by omega]

/-- The half bytes of a packed number. -/
def pkH (n : Int) (S : Nat) : List Int := fl (2 * S) (fun j => if j = 2 * S - 1 then signI n else dig (absI n) (2 * S - 2 - j))
def pkB (n : Int) (S : Nat) : List Int := fl S (fun i => 16 * (pkH n S).getD (2 * i) 0 + (pkH n S).getD (2 * i + 1) 0)

theorem signI_bd (n : Int) : signI n = 13 ∨ signI n = 15 := by unfold signI; split <;> simp
theorem pkH_bd (n : Int) (S i : Nat) : 0 ≤ (pkH n S).getD i 0 ∧ (pkH n S).getD i 0 ≤ 15 := by
  by_cases h : i < 2 * S
  · unfold pkH
    rw [fl_getD h]
    have h1 := signI_bd n
    have h2 := dig_bd (absI n) (2 * S - 2 - i)
    split <;> omega
  · have : (pkH n S).getD i 0 = 0 := by rw [List.getD_eq_getElem?_getD, List.getElem?_eq_none (by unfold pkH; rw [fl_length]; omega)]; rfl
    omega

set_option maxHeartbeats 2000000 in
theorem packedBytes_any (l s n : Int) (S : Nat) (hS : sizeI 1 l = S) (h0 : 0 ≤ l) (h1 : l ≤ 256) (hn : -1000000000000000000 ≤ n) (hn' : n ≤ 1000000000000000000) (w : World) :
    Calls Tryd.prog 64 #[.agg #[.int .i64 1, .int .i64 l, .int .i64 s], .int .i64 n] w fun e w' => e = .returned (.string (strOfNums (pkB n S))) ∧ Gr w w' := by
  have hS1 : 1 ≤ S ∧ S ≤ 129 := by unfold sizeI at hS; simp at hS; omega
  have hmk := mk_bytes (2 * (S : Int)) (2 * S) (by omega) (by omega)
  have hmk2 := mk_bytes S S rfl (by omega)
  have hmz := mkz_get .u8 (2 * S) (2 * S - 1) (by omega)
  have HS := Lib.hid hS
  clear hS
  go_enter Tryd.func64, Tryd.ntmps64
  go_wp2_with (first | (go_at_call 33; refine (sizeOf_any _ _ _ h0 h1 _).mono ?_; rintro e w1 ⟨rfl, hb⟩; rw [HS.out]; have hz : w.heap.size < w1.heap.size := by have h := hb.size; simp at h; omega) | (go_at_call 23; refine (amountIn_any _ hn hn' _).mono ?_; rintro e w1 ⟨rfl, rfl⟩) | (go_at_call 87; refine (signOf_any _ _).mono ?_; rintro e w1 ⟨rfl, rfl⟩))
  have hA0 := Lib.hid (Arr.made_set_fl w1 .u8 5 (2 * S) (2 * S - 1) (signI n) (fun j => if j = 2 * S - 1 then signI n else if 2 * S - 1 - 0 ≤ j then dig (absI n) (2 * S - 2 - j) else 0) (fun i hi => by by_cases e : i = 2 * S - 1 <;> simp [e]; omega))
  have hb' := Lib.hid hb
  have ha := Lib.hid (show 0 ≤ absI n ∧ absI n ≤ 1000000000000000000 by unfold absI; split <;> omega)
  clear hb
  go_loopw [7, 26] (fun r i wr => ∃ q : Nat, q ≤ 2 * S - 1 ∧ i = .int .i64 q ∧ r = .int .i64 (absI n / 10 ^ q) ∧ Hid (Arr wr w1.heap.size .u8 5 (fl (2 * S) (fun j => if j = 2 * S - 1 then signI n else if 2 * S - 1 - q ≤ j then dig (absI n) (2 * S - 2 - j) else 0))) ∧ Hid (Below w1.heap.size w1 wr)) (fun _ i _ => 2 * S - 1 - (intOf i).toNat)
  case atStart => exact ⟨0, by omega, rfl, by simp, hA0, (Below.refl _ _).alloc (Nat.le_refl _) _⟩
  case round =>
    obtain ⟨q, hq, rfl, rfl, hA, hG⟩ := hrel
    obtain ⟨r, hr⟩ : ∃ r, absI n / 10 ^ q = r := ⟨_, rfl⟩
    have hrb := div_bd (absI n) q ha.out.1
    have hst := Lib.hid (div_step (absI n) q)
    rw [hr] at hrb hst ⊢
    have ha2 := ha.out.2
    have hr' := Lib.hid hr
    clear hr
    by_cases hlt : q < 2 * S - 1
    · obtain ⟨v0, hv0⟩ := hA.out.has (2 * S - 1 - 1 - q) (by omega)
      have hf0 := hA.out.frozen (2 * S - 1 - 1 - q)
      go_wp2
      go_roundw
      case rel =>
        refine ⟨q + 1, by omega, by go_num, by rw [← hst.out], Lib.hid (hA.out.set_fl _ _ fun i hi => ?_), Lib.hid (hG.out.setCell (by simp) _)⟩
        by_cases e : i = 2 * S - 1 - 1 - q
        · rw [if_neg (by omega), if_pos (by omega), if_pos e, show 2 * S - 2 - i = q from by omega]; unfold dig; rw [hr'.out]
        · rw [if_neg e]; by_cases e2 : 2 * S - 1 - q ≤ i
          · rw [if_pos e2, if_pos (show 2 * S - 1 - (q + 1) ≤ i by omega)]
          · rw [if_neg e2, if_neg (show ¬ 2 * S - 1 - (q + 1) ≤ i by omega)]
      case measure => simp [intOf]; omega
    · have hqS := Lib.hid (show q = 2 * S - 1 by omega)
      have hc0 := (Lib.hid hb'.out.cells.1)
      have hb0 : ∀ o, w1.cell? ⟨w.heap.size, o, none⟩ = #[Value.int .i64 1, .int .i64 l, .int .i64 s][o]? := fun o => by rw [hc0.out _ _ (by simp)]; simp
      have c0 : wr.cell? ⟨w.heap.size, 0, none⟩ = some (.int .i64 1) := by rw [hG.out.cell (by exact hz), hb0]; rfl
      have c1 : wr.cell? ⟨w.heap.size, 1, none⟩ = some (.int .i64 l) := by rw [hG.out.cell (by exact hz), hb0]; rfl
      have c2 : wr.cell? ⟨w.heap.size, 2, none⟩ = some (.int .i64 s) := by rw [hG.out.cell (by exact hz), hb0]; rfl
      clear hb0
      have hH : Hid (Arr wr w1.heap.size .u8 5 (pkH n S)) := by
        have := hA.out
        rw [fl_congr (g := fun j => if j = 2 * S - 1 then signI n else dig (absI n) (2 * S - 2 - j))] at this
        · exact this
        · intro i hi; have := hqS.out; by_cases e : i = 2 * S - 1 <;> simp [e]; omega
      go_wp2_with (go_at_call 33; refine (sizeOf_any _ _ _ h0 h1 _).mono ?_; rintro e w2 ⟨rfl, hb2⟩; rw [HS.out]; have hz2 := hb2.size)
      have hB0 := Lib.hid (Arr.made_fl w2 .u8 5 S (fun j => if j < 0 then 16 * (pkH n S).getD (2 * j) 0 + (pkH n S).getD (2 * j + 1) 0 else 0) (fun i hi => by rw [if_neg (by omega)]))
      have hH2 := Lib.hid ((hH.out.gr hb2).alloc (.cells (mkz .u8 S) 5))
      have hG2 := Lib.hid ((((((Gr.refl w).alloc _).trans hb'.out).trans (hG.out.mono (Nat.le_refl _))).trans hb2).alloc (.cells (mkz .u8 S) 5))
      have hlt1 := hH.out.lt
      go_loopw [46] (fun i wx => ∃ p : Nat, p ≤ S ∧ i = .int .i64 p ∧ Hid (Arr wx w1.heap.size .u8 5 (pkH n S)) ∧ Hid (Arr wx w2.heap.size .u8 5 (fl S (fun j => if j < p then 16 * (pkH n S).getD (2 * j) 0 + (pkH n S).getD (2 * j + 1) 0 else 0))) ∧ Hid (Gr w wx)) (fun i _ => S - (intOf i).toNat)
      case atStart => exact ⟨0, by omega, rfl, hH2, hB0, hG2⟩
      case round =>
        obtain ⟨p, hp, rfl, hX, hY, hG3⟩ := hrel
        by_cases hlt : p < S
        · have cx0 := hX.out.cell (2 * p) (by unfold pkH; rw [fl_length]; omega)
          have cx1 := hX.out.cell (2 * p + 1) (by unfold pkH; rw [fl_length]; omega)
          have hbd := pkH_bd n S
          obtain ⟨x, hx⟩ : ∃ x, (pkH n S).getD (2 * p) 0 = x := ⟨_, rfl⟩
          obtain ⟨y, hy⟩ : ∃ y, (pkH n S).getD (2 * p + 1) 0 = y := ⟨_, rfl⟩
          have hx0 := hbd (2 * p)
          have hy0 := hbd (2 * p + 1)
          rw [hx] at cx0 hx0
          rw [hy] at cx1 hy0
          have HX := Lib.hid hx
          have HY := Lib.hid hy
          clear hx hy hbd
          obtain ⟨v0, hv0⟩ := hY.out.has p hlt
          have hf0 := hY.out.frozen p
          have hor := u8_or4 (16 * x) y (by omega) (by omega) (by omega) (by omega) (by omega)
          have hp0 : (0 : Int) ≤ p := by omega
          have hp1 : (p : Int) < S := by omega
          go_wp2
          go_region
          go_wp2
          go_roundw
          case rel =>
            refine ⟨p + 1, by omega, by go_num, Lib.hid (hX.out.drew.set_other _ _ (by simp; omega)), Lib.hid ?_, Lib.hid (hG3.out.drew.setCell (by simp; omega) _)⟩
            rw [show x * 16 = 16 * x by omega, hor]
            refine (hY.out.set_fl p (16 * x + y) fun i hi => ?_).drew
            by_cases e : i = p
            · subst e; rw [if_pos (by omega), if_pos rfl, HX.out, HY.out]
            · rw [if_neg e]; by_cases e2 : i < p
              · rw [if_pos e2, if_pos (by omega)]
              · rw [if_neg e2, if_neg (by omega)]
          case measure => simp [intOf]; omega
        · have hpS := Lib.hid (show p = S by omega)
          have hs := str_of (n := S) (cap := S) hY.out (fl_length _ _)
          go_wp2
          go_ret
          refine ⟨ret_str (congrArg strOfNums (fl_congr fun i hi => ?_)), hG3.out⟩
          have := hpS.out
          simp [show i < p by omega]

def strB (k l n : Int) (x : ByteArray) : ByteArray :=
  if k = 1 then strOfNums (pkB n (sizeI 1 l).toNat) else if k = 2 then strOfNums (znB n l.toNat) else if k = 3 then strOfNums (bnB n (sizeI 3 l).toNat) else x

set_option maxHeartbeats 1000000 in
theorem bytesOf_any (k l s n : Int) (x : ByteArray) (h0 : 1 ≤ l) (h1 : l ≤ 256) (hn : -1000000000000000000 ≤ n) (hn' : n ≤ 1000000000000000000) (w : World) :
    Calls Tryd.prog 38 #[.agg #[.int .i64 k, .int .i64 l, .int .i64 s], .agg #[.int .i64 n, .string x]] w fun e w' => e = .returned (.string (strB k l n x)) ∧ Gr w w' := by
  by_cases k1 : k = 1
  · subst k1
    have HS := Lib.hid (show sizeI 1 l = ((sizeI 1 l).toNat : Int) by unfold sizeI; simp; omega)
    go_enter Tryd.func38, Tryd.ntmps38
    go_wp2_with (go_at_call 64; refine (packedBytes_any _ _ _ _ HS.out (by omega) h1 hn hn' _).mono ?_; rintro e w1 ⟨rfl, hb⟩; obtain ⟨hc, hf⟩ := hb.cells; have hz : w.heap.size + 1 < w1.heap.size := (by have h := hb.size; (try simp at h); omega); have hz0 : w.heap.size < w1.heap.size := by omega)
    go_ret
    exact ⟨ret_str (by simp [strB]), (by repeat (first | (with_reducible exact Gr.refl _) | (with_reducible assumption) | (with_reducible refine Gr.alloc ?_ _) | (with_reducible refine Gr.drew ?_) | (with_reducible refine Gr.drewN ?_ _) | (with_reducible refine Gr.setCell ?_ (by simp <;> omega) _) | (with_reducible refine Gr.trans ?_ (by with_reducible assumption)) | exact Gr.refl _ | assumption | refine Gr.alloc ?_ _ | refine Gr.drew ?_ | refine Gr.drewN ?_ _ | refine Gr.setCell ?_ (by simp <;> omega) _ | refine Gr.trans ?_ (by assumption)))⟩
  by_cases k2 : k = 2
  · subst k2
    obtain ⟨L, rfl⟩ := Int.eq_ofNat_of_zero_le (show 0 ≤ l by omega)
    go_enter Tryd.func38, Tryd.ntmps38
    go_wp2_with (go_at_call 65; refine (zonedBytes_any _ _ _ _ (by omega) (by omega) hn hn' _).mono ?_; rintro e w1 ⟨rfl, hb⟩; obtain ⟨hc, hf⟩ := hb.cells; have hz : w.heap.size + 1 < w1.heap.size := (by have h := hb.size; (try simp at h); omega); have hz0 : w.heap.size < w1.heap.size := by omega)
    go_ret
    exact ⟨ret_str (by simp [strB]), (by repeat (first | (with_reducible exact Gr.refl _) | (with_reducible assumption) | (with_reducible refine Gr.alloc ?_ _) | (with_reducible refine Gr.drew ?_) | (with_reducible refine Gr.drewN ?_ _) | (with_reducible refine Gr.setCell ?_ (by simp <;> omega) _) | (with_reducible refine Gr.trans ?_ (by with_reducible assumption)) | exact Gr.refl _ | assumption | refine Gr.alloc ?_ _ | refine Gr.drew ?_ | refine Gr.drewN ?_ _ | refine Gr.setCell ?_ (by simp <;> omega) _ | refine Gr.trans ?_ (by assumption)))⟩
  by_cases k3 : k = 3
  · subst k3
    have HS := Lib.hid (show sizeI 3 l = ((sizeI 3 l).toNat : Int) by unfold sizeI; simp; split <;> omega)
    have hS1 : 1 ≤ (sizeI 3 l).toNat ∧ (sizeI 3 l).toNat ≤ 4 := by unfold sizeI; simp; split <;> omega
    go_enter Tryd.func38, Tryd.ntmps38
    go_wp2_with (go_at_call 66; refine (binaryBytes_any _ _ _ _ HS.out (by omega) h1 hS1.1 hS1.2 _).mono ?_; rintro e w1 ⟨rfl, hb⟩; obtain ⟨hc, hf⟩ := hb.cells; have hz : w.heap.size + 1 < w1.heap.size := (by have h := hb.size; (try simp at h); omega); have hz0 : w.heap.size < w1.heap.size := by omega)
    go_ret
    exact ⟨ret_str (by simp [strB]), (by repeat (first | (with_reducible exact Gr.refl _) | (with_reducible assumption) | (with_reducible refine Gr.alloc ?_ _) | (with_reducible refine Gr.drew ?_) | (with_reducible refine Gr.drewN ?_ _) | (with_reducible refine Gr.setCell ?_ (by simp <;> omega) _) | (with_reducible refine Gr.trans ?_ (by with_reducible assumption)) | exact Gr.refl _ | assumption | refine Gr.alloc ?_ _ | refine Gr.drew ?_ | refine Gr.drewN ?_ _ | refine Gr.setCell ?_ (by simp <;> omega) _ | refine Gr.trans ?_ (by assumption)))⟩
  · go_enter Tryd.func38, Tryd.ntmps38
    go_wp2
    go_ret
    exact ⟨ret_str (by simp [strB, *]), (by repeat (first | (with_reducible exact Gr.refl _) | (with_reducible assumption) | (with_reducible refine Gr.alloc ?_ _) | (with_reducible refine Gr.drew ?_) | (with_reducible refine Gr.drewN ?_ _) | (with_reducible refine Gr.setCell ?_ (by simp <;> omega) _) | (with_reducible refine Gr.trans ?_ (by with_reducible assumption)) | exact Gr.refl _ | assumption | refine Gr.alloc ?_ _ | refine Gr.drew ?_ | refine Gr.drewN ?_ _ | refine Gr.setCell ?_ (by simp <;> omega) _ | refine Gr.trans ?_ (by assumption)))⟩

/-- CheckValue's error. -/
def valErr (k l s n : Int) (x : ByteArray) : Int :=
  if typeErr k l s ≠ 0 then typeErr k l s else if k = 4 then 17 else if k = 0 then first0 [pick (n != 0) 5, pick ((x.size : Int) != l) 18]
  else if x.size ≠ 0 then 5 else if fitsB n l then 0 else 19

theorem typeErr_len {k l s : Int} (h : typeErr k l s = 0) (hk : k ≠ 4) : 1 ≤ l ∧ l ≤ 256 ∧ (k ≠ 0 → l ≤ 15) ∧ 0 ≤ k ∧ k < 5 := by
  have h' : rightLen k l = true := by unfold typeErr at h; by_cases e : rightLen k l <;> simp_all; split at h <;> omega
  have h2 : 0 ≤ k ∧ k < 5 := by unfold typeErr at h; split at h <;> omega
  unfold rightLen at h'
  by_cases a : k = 0
  · simp [a] at h'; omega
  · by_cases b : k = 3
    · simp [b] at h'; omega
    · simp [a, b, hk] at h'; omega

theorem isEmpty_size (x : ByteArray) : x.toList.isEmpty = decide (x.size = 0) := by
  rw [ByteArray.toList_eq]
  show x.data.toList.isEmpty = decide (x.data.size = 0)
  rw [← Array.length_toList]
  cases x.data.toList <;> simp

set_option maxHeartbeats 1000000 in
set_option maxRecDepth 100000 in
theorem CheckValue_any (k l s n : Int) (x : ByteArray) (w : World) :
    Calls Tryd.prog 15 #[.agg #[.int .i64 k, .int .i64 l, .int .i64 s], .agg #[.int .i64 n, .string x]] w fun e w' => e = .returned (.int .i64 (valErr k l s n x)) ∧ Gr w w' := by
  by_cases he : first0 [typeErr k l s, pick (k == 4) 17] = 0
  · have hb0 : (first0 [typeErr k l s, pick (k == 4) 17] != 0) = false := by simp [he]
    have h1 : typeErr k l s = 0 := by by_cases h : typeErr k l s = 0; exact h; simp [first0, h] at he
    have h2 : k ≠ 4 := by intro h; subst h; simp [first0, pick, h1] at he
    obtain ⟨l0, l1, l2, _, _⟩ := typeErr_len h1 h2
    have H1 := Lib.hid h1
    have hx := isEmpty_size x
    have HX := Lib.hid hx
    clear he h1 hx
    by_cases k0 : k = 0
    · subst k0
      have hb1 : (first0 [typeErr 0 l s, pick false 17] != 0) = false := hb0
      clear l2 h2 hb0
      go_enter Tryd.func15, Tryd.ntmps15
      go_wp2_with (first | (go_at_call 32; refine (checkValued_any _ _ _ _).mono ?_; rintro e w1 ⟨rfl, hb⟩; obtain ⟨hc, hf⟩ := hb.cells; have hz : w.heap.size + 1 < w1.heap.size := (by have h := hb.size; (try simp at h); omega); have hz0 : w.heap.size < w1.heap.size := by omega) | (go_at_call 39; refine (checkString_any _ _ _ _ _ _).mono ?_; rintro e w1 ⟨rfl, hb⟩; obtain ⟨hc, hf⟩ := hb.cells; have hz : w.heap.size + 1 < w1.heap.size := (by have h := hb.size; (try simp at h); omega); have hz0 : w.heap.size < w1.heap.size := by omega))
      go_ret
      exact ⟨ret_int (by have e1 := H1.out; simp [valErr, e1]), (by repeat (first | (with_reducible exact Gr.refl _) | (with_reducible assumption) | (with_reducible refine Gr.alloc ?_ _) | (with_reducible refine Gr.drew ?_) | (with_reducible refine Gr.drewN ?_ _) | (with_reducible refine Gr.setCell ?_ (by simp <;> omega) _) | (with_reducible refine Gr.trans ?_ (by with_reducible assumption)) | exact Gr.refl _ | assumption | refine Gr.alloc ?_ _ | refine Gr.drew ?_ | refine Gr.drewN ?_ _ | refine Gr.setCell ?_ (by simp <;> omega) _ | refine Gr.trans ?_ (by assumption)))⟩
    · have hk : (k == 0) = false := by simp [k0]
      have H0 := Lib.hid k0
      have H2 := Lib.hid h2
      have L2 := l2 k0
      clear k0 h2 l2
      go_enter Tryd.func15, Tryd.ntmps15
      go_wp2_with (first | (go_at_call 32; refine (checkValued_any _ _ _ _).mono ?_; rintro e w1 ⟨rfl, hb⟩; obtain ⟨hc, hf⟩ := hb.cells; have hz : w.heap.size + 1 < w1.heap.size := (by have h := hb.size; (try simp at h); omega); have hz0 : w.heap.size < w1.heap.size := by omega) | (go_at_call 40; refine (fits_any _ _ _ _ (by omega) _).mono ?_; rintro e w1 ⟨rfl, hb⟩; obtain ⟨hc, hf⟩ := hb.cells; have hz : w.heap.size + 1 < w1.heap.size := (by have h := hb.size; (try simp at h); omega); have hz0 : w.heap.size < w1.heap.size := by omega))
      all_goals (go_ret; exact ⟨ret_int (by have e1 := H1.out; have e2 := HX.out; have e3 := H2.out; have e4 := H0.out; grind [valErr]), (by repeat (first | (with_reducible exact Gr.refl _) | (with_reducible assumption) | (with_reducible refine Gr.alloc ?_ _) | (with_reducible refine Gr.drew ?_) | (with_reducible refine Gr.drewN ?_ _) | (with_reducible refine Gr.setCell ?_ (by simp <;> omega) _) | (with_reducible refine Gr.trans ?_ (by with_reducible assumption)) | exact Gr.refl _ | assumption | refine Gr.alloc ?_ _ | refine Gr.drew ?_ | refine Gr.drewN ?_ _ | refine Gr.setCell ?_ (by simp <;> omega) _ | refine Gr.trans ?_ (by assumption)))⟩)
  · have hb0 : (first0 [typeErr k l s, pick (k == 4) 17] != 0) = true := by simp [he]
    have HE := Lib.hid he
    clear he
    go_enter Tryd.func15, Tryd.ntmps15
    go_wp2_with (go_at_call 32; refine (checkValued_any _ _ _ _).mono ?_; rintro e w1 ⟨rfl, hb⟩; obtain ⟨hc, hf⟩ := hb.cells; have hz : w.heap.size + 1 < w1.heap.size := (by have h := hb.size; (try simp at h); omega); have hz0 : w.heap.size < w1.heap.size := by omega)
    go_ret
    exact ⟨ret_int (by have e1 := HE.out; grind [valErr, first0, pick]), (by repeat (first | (with_reducible exact Gr.refl _) | (with_reducible assumption) | (with_reducible refine Gr.alloc ?_ _) | (with_reducible refine Gr.drew ?_) | (with_reducible refine Gr.drewN ?_ _) | (with_reducible refine Gr.setCell ?_ (by simp <;> omega) _) | (with_reducible refine Gr.trans ?_ (by with_reducible assumption)) | exact Gr.refl _ | assumption | refine Gr.alloc ?_ _ | refine Gr.drew ?_ | refine Gr.drewN ?_ _ | refine Gr.setCell ?_ (by simp <;> omega) _ | refine Gr.trans ?_ (by assumption)))⟩

theorem valErr_ok {k l s n : Int} {x : ByteArray} (h : valErr k l s n x = 0) : typeErr k l s = 0 ∧ k ≠ 4 ∧ 1 ≤ l ∧ l ≤ 256 ∧ -1000000000000000000 ≤ n ∧ n ≤ 1000000000000000000 := by
  have h1 : typeErr k l s = 0 := by unfold valErr at h; split at h <;> omega
  have h2 : k ≠ 4 := by intro e; subst e; simp [valErr, h1] at h
  obtain ⟨l0, l1, l2, _, _⟩ := typeErr_len h1 h2
  refine ⟨h1, h2, l0, l1, ?_⟩
  by_cases k0 : k = 0
  · subst k0
    have : n = 0 := by
      by_cases hn : n = 0
      · exact hn
      · simp [valErr, h1, first0, pick, hn] at h
    omega
  · have h3 : fitsB n l = true := by
      by_cases hf : fitsB n l = true
      · exact hf
      · by_cases hx : x.size = 0 <;> simp [valErr, h1, h2, k0, hf, hx] at h
    have := p10_bd l (by omega)
    simp only [fitsB, decide_eq_true_eq] at h3
    unfold most at h3
    omega

theorem Encode_any (k l s n : Int) (x : ByteArray) (w : World) :
    Calls Tryd.prog 14 #[.agg #[.int .i64 k, .int .i64 l, .int .i64 s], .agg #[.int .i64 n, .string x]] w fun e w' => e = .returned (.tuple #[.string (if valErr k l s n x = 0 then strB k l n x else ⟨#[]⟩), .int .i64 (valErr k l s n x)]) ∧ Gr w w' := by
  by_cases he : valErr k l s n x = 0
  · obtain ⟨-, -, h0, h1, hn, hn'⟩ := valErr_ok he
    have hb0 : (valErr k l s n x != 0) = false := by simp [he]
    have HE := Lib.hid he
    clear he
    go_enter Tryd.func14, Tryd.ntmps14
    go_wp2_with (first | (go_at_call 15; refine (CheckValue_any _ _ _ _ _ _).mono ?_; rintro e w1 ⟨rfl, hb⟩; obtain ⟨hc, hf⟩ := hb.cells; have hz : w.heap.size + 1 < w1.heap.size := (by have h := hb.size; (try simp at h); omega); have hz0 : w.heap.size < w1.heap.size := by omega) | (go_at_call 38; refine (bytesOf_any _ _ _ _ _ h0 h1 hn hn' _).mono ?_; rintro e w1 ⟨rfl, hb⟩; obtain ⟨hc, hf⟩ := hb.cells; have hz : w.heap.size + 1 < w1.heap.size := (by have h := hb.size; (try simp at h); omega); have hz0 : w.heap.size < w1.heap.size := by omega))
    go_ret2
    exact ⟨by simp [HE.out], (by repeat (first | (with_reducible exact Gr.refl _) | (with_reducible assumption) | (with_reducible refine Gr.alloc ?_ _) | (with_reducible refine Gr.drew ?_) | (with_reducible refine Gr.drewN ?_ _) | (with_reducible refine Gr.setCell ?_ (by simp <;> omega) _) | (with_reducible refine Gr.trans ?_ (by with_reducible assumption)) | exact Gr.refl _ | assumption | refine Gr.alloc ?_ _ | refine Gr.drew ?_ | refine Gr.drewN ?_ _ | refine Gr.setCell ?_ (by simp <;> omega) _ | refine Gr.trans ?_ (by assumption)))⟩
  · have hb0 : (valErr k l s n x != 0) = true := by simp [he]
    have HE := Lib.hid he
    clear he
    go_enter Tryd.func14, Tryd.ntmps14
    go_wp2_with (go_at_call 15; refine (CheckValue_any _ _ _ _ _ _).mono ?_; rintro e w1 ⟨rfl, hb⟩; obtain ⟨hc, hf⟩ := hb.cells; have hz : w.heap.size + 1 < w1.heap.size := (by have h := hb.size; (try simp at h); omega); have hz0 : w.heap.size < w1.heap.size := by omega)
    go_ret2
    exact ⟨by simp [HE.out], (by repeat (first | (with_reducible exact Gr.refl _) | (with_reducible assumption) | (with_reducible refine Gr.alloc ?_ _) | (with_reducible refine Gr.drew ?_) | (with_reducible refine Gr.drewN ?_ _) | (with_reducible refine Gr.setCell ?_ (by simp <;> omega) _) | (with_reducible refine Gr.trans ?_ (by with_reducible assumption)) | exact Gr.refl _ | assumption | refine Gr.alloc ?_ _ | refine Gr.drew ?_ | refine Gr.drewN ?_ _ | refine Gr.setCell ?_ (by simp <;> omega) _ | refine Gr.trans ?_ (by assumption)))⟩
end Go.Proofs.YtnaflaokhldfnaaDoor
namespace Go.Proofs.YtnaflaokhldfnaaDoor
set_option linter.unusedSimpArgs false
set_option linter.unusedVariables false
open Go.RowKit

def withinB (a b c : Int) : Bool := decide (b ≤ a) && decide (a ≤ c)
theorem Within_any (a b c : Int) (w : World) :
    Calls Tryd.prog 26 #[.int .i64 a, .int .i64 b, .int .i64 c] w fun e w' => e = .returned (.bool (withinB a b c)) ∧ w = w' := by
  go_enter Tryd.func26, Tryd.ntmps26
  go_wp2
  all_goals (go_ret; exact ⟨ret_bool (by grind [withinB]), rfl⟩)

def countI (b : Bool) : Int := if b then 1 else 0
theorem countI_bd (b : Bool) : 0 ≤ countI b ∧ countI b ≤ 1 := by unfold countI; split <;> omega
theorem Count_any (b : Bool) (w : World) :
    Calls Tryd.prog 27 #[.bool b] w fun e w' => e = .returned (.int .i64 (countI b)) ∧ w = w' ∧ 0 ≤ countI b ∧ countI b ≤ 1 := by
  go_enter Tryd.func27, Tryd.ntmps27
  go_wp2
  all_goals (go_ret; exact ⟨ret_int (by simp [countI, *]), rfl, countI_bd _⟩)

theorem Amount_any (n : Int) (h : -1000000000000000000 ≤ n) (h' : n ≤ 1000000000000000000) (w : World) :
    Calls Tryd.prog 29 #[.int .i64 n] w fun e w' => e = .returned (.int .i64 (absI n)) ∧ w = w' := by
  go_enter Tryd.func29, Tryd.ntmps29
  go_wp2
  all_goals (go_ret; exact ⟨ret_int (by grind [absI]), rfl⟩)

end Go.Proofs.YtnaflaokhldfnaaDoor
namespace Go.Proofs.YtnaflaokhldfnaaDoor
set_option linter.unusedSimpArgs false
set_option linter.unusedVariables false
open Go.RowKit
end Go.Proofs.YtnaflaokhldfnaaDoor
namespace Go.Proofs.YtnaflaokhldfnaaDoor
set_option linter.unusedSimpArgs false
set_option linter.unusedVariables false
open Go.RowKit
/-- The digits of an amount, the highest one first. -/
def dgL (a : Int) (L : Nat) : List Int := fl L (fun j => dig a (L - 1 - j))

end Go.Proofs.YtnaflaokhldfnaaDoor
namespace Go.Proofs.YtnaflaokhldfnaaDoor
set_option linter.unusedSimpArgs false
set_option linter.unusedVariables false
open Go.RowKit

/-- The slice value v holds the numbers xs, in a row of the call's own (from block B on). -/
def Own (w : World) (B : Nat) (k : IntKind) (e : TypeId) (v : Value) (xs : List Int) : Prop := w.ownsRow B e 1 v xs.length (xs.map (Value.int k))

theorem Own.nil (w : World) (B : Nat) (k : IntKind) (e : TypeId) : Own w B k e (.slice none 0 0) [] := World.ownsRow_nil w B e 1
theorem Own.of_arr {w : World} {b B : Nat} {k e} {xs : List Int} (h : Arr w b k e xs) (hB : B ≤ b) (hm : xs.length ≤ maxLen) {n m : Nat} (hn : xs.length = n) (hm' : xs.length = m) : Own w B k e (.slice (some ⟨b, 0, none⟩) n m) xs := by
  obtain ⟨c, hc, h⟩ := h
  have hs : c.size = xs.length := by rw [← Array.length_toList, hc, List.length_map]
  subst hn hm'
  exact ⟨by simp, .inr ⟨b, xs.length, c, rfl, hB, h, Nat.le_refl _, hm, by omega, by rw [hc, List.take_of_length_le (by simp)]⟩⟩
theorem Own.slice {w : World} {B : Nat} {k e v} {xs : List Int} (h : Own w B k e v xs) (hx : xs ≠ []) : ∃ g cap, v = .slice (some ⟨g, 0, none⟩) xs.length cap ∧ B ≤ g ∧ g < w.heap.size := by
  have hl := World.ownsRow.lt h
  rcases h.2 with ⟨_, h⟩ | ⟨g, cap, cur, h, hb, _⟩
  · exact absurd (List.eq_nil_of_length_eq_zero h) hx
  · subst h; exact ⟨g, cap, rfl, hb, (hl g rfl).2⟩
theorem Own.cell {w : World} {B g n cap : Nat} {k e} {xs : List Int} (h : Own w B k e (.slice (some ⟨g, 0, none⟩) n cap) xs) (j : Nat) (hj : j < xs.length) : w.cell? ⟨g, j, none⟩ = some (.int k (xs.getD j 0)) := by
  rcases h.2 with ⟨h', _⟩ | ⟨g', cap', cur, h', _, hg, _, _, _, htake⟩
  · simp at h'
  · simp only [Value.slice.injEq, Option.some.injEq, Addr.mk.injEq, and_true, true_and] at h'
    obtain ⟨rfl, rfl, rfl⟩ := h'
    rw [cell_of_row w g j cur e (0, 0) hg, ← Array.getElem?_toList, ← List.getElem?_take_of_lt (show j < xs.length * 1 by omega), htake]
    simp [hj]
theorem Own.frozen {w : World} {B g n cap : Nat} {k e} {xs : List Int} (h : Own w B k e (.slice (some ⟨g, 0, none⟩) n cap) xs) (j : Nat) : w.frozen? ⟨g, j, none⟩ = false := by
  rcases h.2 with ⟨h', _⟩ | ⟨g', cap', cur, h', _, hg, _⟩
  · simp at h'
  · simp only [Value.slice.injEq, Option.some.injEq, Addr.mk.injEq, and_true, true_and] at h'
    obtain ⟨rfl, rfl, rfl⟩ := h'
    exact frozen_of_row w g j cur e hg
theorem Own.below {w w' : World} {B b : Nat} {k e v} {xs : List Int} (h : Own w B k e v xs) (g : Below b w w') (hb : ∀ q, v.ownBlock = some q → q < b) : Own w' B k e v xs := by
  refine ⟨h.1, ?_⟩
  rcases h.2 with h2 | ⟨q, cap, cur, h2, hB, hq, r⟩
  · exact .inl h2
  · exact .inr ⟨q, cap, cur, h2, hB, by rw [g.block q (hb q (by rw [h2]; rfl))]; exact hq, r⟩
theorem Own.gr {w w' : World} {B : Nat} {k e v} {xs : List Int} (h : Own w B k e v xs) (g : Gr w w') : Own w' B k e v xs :=
  h.below g fun q hq => (World.ownsRow.lt h q hq).2
theorem Own.alloc {w : World} {B : Nat} {k e v} {xs : List Int} (h : Own w B k e v xs) (o : Obj) : Own (w.alloc o) B k e v xs := h.gr ((Gr.refl w).alloc o)

theorem keepc {B : Nat} {a b : World} (h : Below B a b) {p : Addr} {v : Value} (hp : p.block < B) (hv : a.cell? p = some v) : b.cell? p = some v := (Below.cell h hp).trans hv

theorem one_cell (w : World) (k : IntKind) (e : TypeId) (x : Int) : ∀ j, j < 1 → (w.alloc (.cells #[.int k x] e)).cell? ⟨w.heap.size, j, none⟩ = some (.int k ([x].getD j 0)) := by
  intro j hj
  obtain rfl : j = 0 := by omega
  rw [World.cell?_alloc_new]; rfl

/-- append: to a slice of the call's own, from cells that are known. -/
theorem wp_append_ints {P : Program} {ops : Array Oper} {rest : List Oper} {o : Oper} {a : Act} {Q : Exit → Act → World → Prop} (w : World) (hgd : o.guard = none) (s x : Operand) (t e : TypeId)
    (ho : o.op = .call { callee := .builtin .append, args := #[s, x], argTypes := #[t, t] })
    (k : IntKind) (i : TypeInfo) (bytes : Nat) (ht : P.underlying t = some (.slice e)) (hi : P.info? e = some i) (hz : i.zero = some (.int k 0)) (hsize : i.size = 1) (hby : i.bytes = bytes) (hb8 : bytes ≤ 8)
    (B : Nat) (v : Value) (xs : List Int) (hs : a.eval s = v) (hown : Own w B k e v xs) (N : Nat)
    (h m c : Nat) (ys : List Int) (hx : a.eval x = .slice (some ⟨h, 0, none⟩) m c) (hm : ys.length = m) (hm0 : 0 < m) (hcell : ∀ j, j < m → w.cell? ⟨h, j, none⟩ = some (.int k (ys.getD j 0)))
    (hN : xs.length + m = N) (hb : N ≤ 1000000) (hbase : B ≤ w.heap.size)
    (hK : ∀ g cap w', Own w' B k e (.slice (some ⟨g, 0, none⟩) N cap) (xs ++ ys) → Below B w w' → w.grownBy w' v.ownBlock → B ≤ g → g < w'.heap.size → wpList P ops Q rest (a.put o.dst (.slice (some ⟨g, 0, none⟩) N cap)) w') :
    wpList P ops Q (o :: rest) a w := by
  subst hm hN
  refine wpList_append_own w hgd s x t ho B e i (.int k 0) 1 bytes ht hi hz hsize hby rfl (by omega) v xs.length (xs.map (Value.int k)) hs hown ⟨h, 0, none⟩ ys.length c (ys.map (Value.int k)) hx (by simp)
    ?_ (by intro u hu; simp at hu; obtain ⟨_, _, rfl⟩ := hu; rfl) (by unfold maxLen; omega) ?_ hbase ?_
  · intro j u hj
    have hjl : j < ys.length := by
      rcases Nat.lt_or_ge j ys.length with h | h
      · exact h
      · rw [List.getElem?_eq_none (by simpa using h)] at hj; simp at hj
    rw [Addr.add_lit, Nat.zero_add, hcell j hjl]
    simp [hjl] at hj ⊢
    exact hj
  · have : (xs.length + ys.length) * bytes ≤ (xs.length + ys.length) * 8 := Nat.mul_le_mul_left _ hb8
    omega
  · intro v' w' hown' hgrow hnil
    have ho' : Own w' B k e v' (xs ++ ys) := by
      unfold Own
      rw [List.length_append, List.map_append]
      exact hown'
    have hbel : Below B w w' := (Below.refl B w).grown hgrow hbase (fun q hq => (World.ownsRow.lt hown q hq).1)
    obtain ⟨g, cap, hv, hg, hlt⟩ := ho'.slice (by intro h; simp at h; have := h.2; subst this; simp at hm0)
    subst hv
    rw [List.length_append] at ho' ⊢
    exact hK g cap w' ho' hbel hgrow hg hlt
end Go.Proofs.YtnaflaokhldfnaaDoor
namespace Go.Proofs.YtnaflaokhldfnaaDoor
set_option linter.unusedSimpArgs false
set_option linter.unusedVariables false
open Go.RowKit

theorem two_compl (n : Int) (S : Nat) (hS : S = 2 ∨ S = 4) (i : Nat) (hi : i < S) : (n + 2 ^ (8 * S)) / 256 ^ i % 256 = n / 2 ^ (8 * i) % 256 := by
  rcases hS with rfl | rfl
  · match i, hi with
    | 0, _ => simp; omega
    | 1, _ => simp; omega
  · match i, hi with
    | 0, _ => simp; omega
    | 1, _ => simp; omega
    | 2, _ => simp; omega
    | 3, _ => simp; omega
theorem pow_256 (i : Nat) : (256 : Int) ^ i = 2 ^ (8 * i) := by
  rw [Int.pow_mul]; rfl
theorem bn_eq (n : Int) (S : Nat) : fl S (fun j => n / 256 ^ (S - 1 - j) % 256) = bnB n S := by
  unfold bnB; apply fl_congr; intro i _; rw [pow_256]
theorem bn_neg (n : Int) (S : Nat) (hS : S = 2 ∨ S = 4) : fl S (fun j => (n + 2 ^ (8 * S)) / 256 ^ (S - 1 - j) % 256) = bnB n S := by
  unfold bnB; apply fl_congr; intro i hi; exact two_compl n S hS _ (by omega)

theorem bn_neg2 (n : Int) : fl 2 (fun j => (n + 65536) / 256 ^ (2 - 1 - j) % 256) = bnB n 2 := bn_neg n 2 (.inl rfl)
theorem bn_neg4 (n : Int) : fl 4 (fun j => (n + 4294967296) / 256 ^ (4 - 1 - j) % 256) = bnB n 4 := bn_neg n 4 (.inr rfl)

end Go.Proofs.YtnaflaokhldfnaaDoor
namespace Go.Proofs.YtnaflaokhldfnaaDoor
set_option linter.unusedSimpArgs false
set_option linter.unusedVariables false
open Go.RowKit

theorem dgL_length (a : Int) (L : Nat) : (dgL a L).length = L := fl_length _ _

theorem sgn_count (n : Int) : 15 - 2 * countI (decide (n < 0)) = signI n := by
  unfold countI signI; by_cases h : n < 0 <;> simp [h]
theorem pkH_even (n : Int) (p L : Nat) (hL : 2 * p = L) (hz : dig (absI n) (2 * p) = 0) : ([0] ++ dgL (absI n) L) ++ [15 - 2 * countI (decide (n < 0))] = pkH n (p + 1) := by
  rw [sgn_count]
  subst hL
  apply List.ext_getElem
  · simp [pkH, dgL, fl]; omega
  · intro i h1 h2
    have h3 : i < 2 * (p + 1) := by simpa [pkH, fl] using h2
    simp only [pkH, fl, List.getElem_map, List.getElem_range, dgL]
    by_cases e : i = 2 * (p + 1) - 1
    · subst e
      rw [List.getElem_append_right (by simp; omega)]
      simp
    · rw [if_neg e, List.getElem_append_left (by simp; omega)]
      cases i with
      | zero => simp; rw [show 2 * (p + 1) - 2 = 2 * p by omega]; exact hz.symm
      | succ j => simp; congr 1; omega

end Go.Proofs.YtnaflaokhldfnaaDoor
