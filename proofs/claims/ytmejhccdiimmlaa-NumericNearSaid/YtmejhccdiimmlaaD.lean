import Derived.Test.YtmejhccdiimmlaaC
namespace Go.Proofs.Ytmejhccdiimmlaa
set_option linter.unusedSimpArgs false
set_option linter.unusedVariables false
open Go.RowKit

/-- The bytes of a number in the two's complement, the highest one first. -/
def bnB (n : Int) (L : Nat) : List Int := fl L (fun j => n / 2 ^ (8 * (L - 1 - j)) % 256)

set_option maxHeartbeats 1000000 in
theorem binaryBytes_any (l s n : Int) (S : Nat) (hS : sizeI 3 l = S) (h0 : 0 ≤ l) (h1 : l ≤ 256) (hs1 : 1 ≤ S) (hs4 : S ≤ 4) (w : World) :
    Calls Try.prog 97 #[.agg #[.int .i64 3, .int .i64 l, .int .i64 s], .int .i64 n] w fun e w' => e = .returned (.string (strOfNums (bnB n S))) ∧ Gr w w' := by
  have hmk := mk_bytes S S rfl (by omega)
  have HS := Lib.hid hS
  clear hS
  go_enter Try.func97, Try.ntmps97
  go_wp2_with (go_at_call 40; refine (sizeOf_any _ _ _ h0 h1 _).mono ?_; rintro e w1 ⟨rfl, hb⟩; rw [HS.out]; have hz : w.heap.size < w1.heap.size := by have h := hb.size; simp at h; omega)
  have hA0 := Lib.hid (Arr.made_fl w1 .u8 5 S (fun j => if S - 0 ≤ j then n / 2 ^ (8 * (S - 1 - j)) % 256 else 0) (fun i hi => by rw [if_neg (by omega)]))
  have hb' := Lib.hid hb
  clear hb
  go_loopw [12] (fun i wr => ∃ q : Nat, q ≤ S ∧ i = .int .i64 q ∧ Hid (Arr wr w1.heap.size .u8 5 (fl S (fun j => if S - q ≤ j then n / 2 ^ (8 * (S - 1 - j)) % 256 else 0))) ∧ Hid (Gr w wr)) (fun i _ => S - (intOf i).toNat)
  case atStart => exact ⟨0, by omega, rfl, hA0, ((Gr.trans ((Gr.refl _).alloc _) hb'.out).alloc _)⟩
  case round =>
    obtain ⟨q, hq, rfl, hA, hG⟩ := hrel
    by_cases hlt : q < S
    · obtain ⟨v0, hv0⟩ := hA.out.has (S - 1 - q) (by omega)
      have hf0 := hA.out.frozen (S - 1 - q)
      go_wp2
      go_roundw
      case rel =>
        refine ⟨q + 1, by omega, by go_num, Lib.hid (hA.out.set_fl _ _ fun i hi => ?_), Lib.hid (hG.out.setCell (by simp; omega) _)⟩
        by_cases e : i = S - 1 - q
        · rw [if_pos (by omega), if_pos e, show S - 1 - i = q from by omega]
        · rw [if_neg e]; by_cases e2 : S - q ≤ i
          · rw [if_pos e2, if_pos (by omega)]
          · rw [if_neg e2, if_neg (by omega)]
      case measure => simp [intOf]; omega
    · have hqS := Lib.hid (show q = S by omega)
      have hs := str_of (n := S) (cap := S) hA.out (fl_length _ _)
      go_wp2
      go_ret
      refine ⟨ret_str (congrArg strOfNums (fl_congr fun i hi => ?_)), hG.out⟩
      have := hqS.out
      simp [show S - q ≤ i by omega]

/-- The half bytes of a packed number. -/
def pkH (n : Int) (S : Nat) : List Int := fl (2 * S) (fun j => if j = 2 * S - 1 then signI n else dig (absI n) (2 * S - 2 - j))
def pkB (n : Int) (S : Nat) : List Int := fl S (fun i => 16 * (pkH n S).getD (2 * i) 0 + (pkH n S).getD (2 * i + 1) 0)

theorem signI_bd (n : Int) : signI n = 13 ∨ signI n = 15 := by unfold signI; split <;> simp
theorem pkH_bd (n : Int) (S i : Nat) : 0 ≤ (pkH n S).getD i 0 ∧ (pkH n S).getD i 0 ≤ 15 := by
  by_cases h : i < 2 * S
  · unfold pkH
    rw [fl_getD h]
    have h1 := signI_bd n
    have h2 := dig_bd (absI n) (2 * S - 2 - i)
    split <;> omega
  · have : (pkH n S).getD i 0 = 0 := by rw [List.getD_eq_getElem?_getD, List.getElem?_eq_none (by unfold pkH; rw [fl_length]; omega)]; rfl
    omega

set_option maxHeartbeats 2000000 in
theorem packedBytes_any (l s n : Int) (S : Nat) (hS : sizeI 1 l = S) (h0 : 0 ≤ l) (h1 : l ≤ 256) (hn : -1000000000000000000 ≤ n) (hn' : n ≤ 1000000000000000000) (w : World) :
    Calls Try.prog 95 #[.agg #[.int .i64 1, .int .i64 l, .int .i64 s], .int .i64 n] w fun e w' => e = .returned (.string (strOfNums (pkB n S))) ∧ Gr w w' := by
  have hS1 : 1 ≤ S ∧ S ≤ 129 := by unfold sizeI at hS; simp at hS; omega
  have hmk := mk_bytes (2 * (S : Int)) (2 * S) (by omega) (by omega)
  have hmk2 := mk_bytes S S rfl (by omega)
  have hmz := mkz_get .u8 (2 * S) (2 * S - 1) (by omega)
  have HS := Lib.hid hS
  clear hS
  go_enter Try.func95, Try.ntmps95
  go_wp2_with (first | (go_at_call 40; refine (sizeOf_any _ _ _ h0 h1 _).mono ?_; rintro e w1 ⟨rfl, hb⟩; rw [HS.out]; have hz : w.heap.size < w1.heap.size := by have h := hb.size; simp at h; omega) | (go_at_call 135; refine (amountIn_any _ hn hn' _).mono ?_; rintro e w1 ⟨rfl, rfl⟩) | (go_at_call 134; refine (signOf_any _ _).mono ?_; rintro e w1 ⟨rfl, rfl⟩))
  have hA0 := Lib.hid (Arr.made_set_fl w1 .u8 5 (2 * S) (2 * S - 1) (signI n) (fun j => if j = 2 * S - 1 then signI n else if 2 * S - 1 - 0 ≤ j then dig (absI n) (2 * S - 2 - j) else 0) (fun i hi => by by_cases e : i = 2 * S - 1 <;> simp [e]; omega))
  have hb' := Lib.hid hb
  have ha := Lib.hid (show 0 ≤ absI n ∧ absI n ≤ 1000000000000000000 by unfold absI; split <;> omega)
  clear hb
  go_loopw [7, 26] (fun r i wr => ∃ q : Nat, q ≤ 2 * S - 1 ∧ i = .int .i64 q ∧ r = .int .i64 (absI n / 10 ^ q) ∧ Hid (Arr wr w1.heap.size .u8 5 (fl (2 * S) (fun j => if j = 2 * S - 1 then signI n else if 2 * S - 1 - q ≤ j then dig (absI n) (2 * S - 2 - j) else 0))) ∧ Hid (Below w1.heap.size w1 wr)) (fun _ i _ => 2 * S - 1 - (intOf i).toNat)
  case atStart => exact ⟨0, by omega, rfl, by simp, hA0, (Below.refl _ _).alloc (Nat.le_refl _) _⟩
  case round =>
    obtain ⟨q, hq, rfl, rfl, hA, hG⟩ := hrel
    obtain ⟨r, hr⟩ : ∃ r, absI n / 10 ^ q = r := ⟨_, rfl⟩
    have hrb := div_bd (absI n) q ha.out.1
    have hst := Lib.hid (div_step (absI n) q)
    rw [hr] at hrb hst ⊢
    have ha2 := ha.out.2
    have hr' := Lib.hid hr
    clear hr
    by_cases hlt : q < 2 * S - 1
    · obtain ⟨v0, hv0⟩ := hA.out.has (2 * S - 1 - 1 - q) (by omega)
      have hf0 := hA.out.frozen (2 * S - 1 - 1 - q)
      go_wp2
      go_roundw
      case rel =>
        refine ⟨q + 1, by omega, by go_num, by rw [← hst.out], Lib.hid (hA.out.set_fl _ _ fun i hi => ?_), Lib.hid (hG.out.setCell (by simp) _)⟩
        by_cases e : i = 2 * S - 1 - 1 - q
        · rw [if_neg (by omega), if_pos (by omega), if_pos e, show 2 * S - 2 - i = q from by omega]; unfold dig; rw [hr'.out]
        · rw [if_neg e]; by_cases e2 : 2 * S - 1 - q ≤ i
          · rw [if_pos e2, if_pos (show 2 * S - 1 - (q + 1) ≤ i by omega)]
          · rw [if_neg e2, if_neg (show ¬ 2 * S - 1 - (q + 1) ≤ i by omega)]
      case measure => simp [intOf]; omega
    · have hqS := Lib.hid (show q = 2 * S - 1 by omega)
      have hc0 := (Lib.hid hb'.out.cells.1)
      have hb0 : ∀ o, w1.cell? ⟨w.heap.size, o, none⟩ = #[Value.int .i64 1, .int .i64 l, .int .i64 s][o]? := fun o => by rw [hc0.out _ _ (by simp)]; simp
      have c0 : wr.cell? ⟨w.heap.size, 0, none⟩ = some (.int .i64 1) := by rw [hG.out.cell (by exact hz), hb0]; rfl
      have c1 : wr.cell? ⟨w.heap.size, 1, none⟩ = some (.int .i64 l) := by rw [hG.out.cell (by exact hz), hb0]; rfl
      have c2 : wr.cell? ⟨w.heap.size, 2, none⟩ = some (.int .i64 s) := by rw [hG.out.cell (by exact hz), hb0]; rfl
      clear hb0
      have hH : Hid (Arr wr w1.heap.size .u8 5 (pkH n S)) := by
        have := hA.out
        rw [fl_congr (g := fun j => if j = 2 * S - 1 then signI n else dig (absI n) (2 * S - 2 - j))] at this
        · exact this
        · intro i hi; have := hqS.out; by_cases e : i = 2 * S - 1 <;> simp [e]; omega
      go_wp2_with (go_at_call 40; refine (sizeOf_any _ _ _ h0 h1 _).mono ?_; rintro e w2 ⟨rfl, hb2⟩; rw [HS.out]; have hz2 := hb2.size)
      have hB0 := Lib.hid (Arr.made_fl w2 .u8 5 S (fun j => if j < 0 then 16 * (pkH n S).getD (2 * j) 0 + (pkH n S).getD (2 * j + 1) 0 else 0) (fun i hi => by rw [if_neg (by omega)]))
      have hH2 := Lib.hid ((hH.out.gr hb2).alloc (.cells (mkz .u8 S) 5))
      have hG2 := Lib.hid ((((((Gr.refl w).alloc _).trans hb'.out).trans (hG.out.mono (Nat.le_refl _))).trans hb2).alloc (.cells (mkz .u8 S) 5))
      have hlt1 := hH.out.lt
      go_loopw [46] (fun i wx => ∃ p : Nat, p ≤ S ∧ i = .int .i64 p ∧ Hid (Arr wx w1.heap.size .u8 5 (pkH n S)) ∧ Hid (Arr wx w2.heap.size .u8 5 (fl S (fun j => if j < p then 16 * (pkH n S).getD (2 * j) 0 + (pkH n S).getD (2 * j + 1) 0 else 0))) ∧ Hid (Gr w wx)) (fun i _ => S - (intOf i).toNat)
      case atStart => exact ⟨0, by omega, rfl, hH2, hB0, hG2⟩
      case round =>
        obtain ⟨p, hp, rfl, hX, hY, hG3⟩ := hrel
        by_cases hlt : p < S
        · have cx0 := hX.out.cell (2 * p) (by unfold pkH; rw [fl_length]; omega)
          have cx1 := hX.out.cell (2 * p + 1) (by unfold pkH; rw [fl_length]; omega)
          have hbd := pkH_bd n S
          obtain ⟨x, hx⟩ : ∃ x, (pkH n S).getD (2 * p) 0 = x := ⟨_, rfl⟩
          obtain ⟨y, hy⟩ : ∃ y, (pkH n S).getD (2 * p + 1) 0 = y := ⟨_, rfl⟩
          have hx0 := hbd (2 * p)
          have hy0 := hbd (2 * p + 1)
          rw [hx] at cx0 hx0
          rw [hy] at cx1 hy0
          have HX := Lib.hid hx
          have HY := Lib.hid hy
          clear hx hy hbd
          obtain ⟨v0, hv0⟩ := hY.out.has p hlt
          have hf0 := hY.out.frozen p
          have hor := u8_or4 (16 * x) y (by omega) (by omega) (by omega) (by omega) (by omega)
          have hp0 : (0 : Int) ≤ p := by omega
          have hp1 : (p : Int) < S := by omega
          go_wp2
          go_region
          go_wp2
          go_roundw
          case rel =>
            refine ⟨p + 1, by omega, by go_num, Lib.hid (hX.out.drew.set_other _ _ (by simp; omega)), Lib.hid ?_, Lib.hid (hG3.out.drew.setCell (by simp; omega) _)⟩
            rw [show x * 16 = 16 * x by omega, hor]
            refine (hY.out.set_fl p (16 * x + y) fun i hi => ?_).drew
            by_cases e : i = p
            · subst e; rw [if_pos (by omega), if_pos rfl, HX.out, HY.out]
            · rw [if_neg e]; by_cases e2 : i < p
              · rw [if_pos e2, if_pos (by omega)]
              · rw [if_neg e2, if_neg (by omega)]
          case measure => simp [intOf]; omega
        · have hpS := Lib.hid (show p = S by omega)
          have hs := str_of (n := S) (cap := S) hY.out (fl_length _ _)
          go_wp2
          go_ret
          refine ⟨ret_str (congrArg strOfNums (fl_congr fun i hi => ?_)), hG3.out⟩
          have := hpS.out
          simp [show i < p by omega]

def strB (k l n : Int) (x : ByteArray) : ByteArray :=
  if k = 1 then strOfNums (pkB n (sizeI 1 l).toNat) else if k = 2 then strOfNums (znB n l.toNat) else if k = 3 then strOfNums (bnB n (sizeI 3 l).toNat) else x

set_option maxHeartbeats 1000000 in
theorem bytesOf_any (k l s n : Int) (x : ByteArray) (h0 : 1 ≤ l) (h1 : l ≤ 256) (hn : -1000000000000000000 ≤ n) (hn' : n ≤ 1000000000000000000) (w : World) :
    Calls Try.prog 53 #[.agg #[.int .i64 k, .int .i64 l, .int .i64 s], .agg #[.int .i64 n, .string x]] w fun e w' => e = .returned (.string (strB k l n x)) ∧ Gr w w' := by
  by_cases k1 : k = 1
  · subst k1
    have HS := Lib.hid (show sizeI 1 l = ((sizeI 1 l).toNat : Int) by unfold sizeI; simp; omega)
    go_enter Try.func53, Try.ntmps53
    go_wp2_with (go_at_call 95; refine (packedBytes_any _ _ _ _ HS.out (by omega) h1 hn hn' _).mono ?_; rintro e w1 ⟨rfl, hb⟩; obtain ⟨hc, hf⟩ := hb.cells; have hz : w.heap.size + 1 < w1.heap.size := (by have h := hb.size; (try simp at h); omega); have hz0 : w.heap.size < w1.heap.size := by omega)
    go_ret
    exact ⟨ret_str (by simp [strB]), (by repeat (first | exact Gr.refl _ | assumption | refine Gr.alloc ?_ _ | refine Gr.drew ?_ | refine Gr.drewN ?_ _ | refine Gr.setCell ?_ (by simp <;> omega) _ | refine Gr.trans ?_ (by assumption)))⟩
  by_cases k2 : k = 2
  · subst k2
    obtain ⟨L, rfl⟩ := Int.eq_ofNat_of_zero_le (show 0 ≤ l by omega)
    go_enter Try.func53, Try.ntmps53
    go_wp2_with (go_at_call 96; refine (zonedBytes_any _ _ _ _ (by omega) (by omega) hn hn' _).mono ?_; rintro e w1 ⟨rfl, hb⟩; obtain ⟨hc, hf⟩ := hb.cells; have hz : w.heap.size + 1 < w1.heap.size := (by have h := hb.size; (try simp at h); omega); have hz0 : w.heap.size < w1.heap.size := by omega)
    go_ret
    exact ⟨ret_str (by simp [strB]), (by repeat (first | exact Gr.refl _ | assumption | refine Gr.alloc ?_ _ | refine Gr.drew ?_ | refine Gr.drewN ?_ _ | refine Gr.setCell ?_ (by simp <;> omega) _ | refine Gr.trans ?_ (by assumption)))⟩
  by_cases k3 : k = 3
  · subst k3
    have HS := Lib.hid (show sizeI 3 l = ((sizeI 3 l).toNat : Int) by unfold sizeI; simp; split <;> omega)
    have hS1 : 1 ≤ (sizeI 3 l).toNat ∧ (sizeI 3 l).toNat ≤ 4 := by unfold sizeI; simp; split <;> omega
    go_enter Try.func53, Try.ntmps53
    go_wp2_with (go_at_call 97; refine (binaryBytes_any _ _ _ _ HS.out (by omega) h1 hS1.1 hS1.2 _).mono ?_; rintro e w1 ⟨rfl, hb⟩; obtain ⟨hc, hf⟩ := hb.cells; have hz : w.heap.size + 1 < w1.heap.size := (by have h := hb.size; (try simp at h); omega); have hz0 : w.heap.size < w1.heap.size := by omega)
    go_ret
    exact ⟨ret_str (by simp [strB]), (by repeat (first | exact Gr.refl _ | assumption | refine Gr.alloc ?_ _ | refine Gr.drew ?_ | refine Gr.drewN ?_ _ | refine Gr.setCell ?_ (by simp <;> omega) _ | refine Gr.trans ?_ (by assumption)))⟩
  · go_enter Try.func53, Try.ntmps53
    go_wp2
    go_ret
    exact ⟨ret_str (by simp [strB, *]), (by repeat (first | exact Gr.refl _ | assumption | refine Gr.alloc ?_ _ | refine Gr.drew ?_ | refine Gr.drewN ?_ _ | refine Gr.setCell ?_ (by simp <;> omega) _ | refine Gr.trans ?_ (by assumption)))⟩

/-- CheckValue's error. -/
def valErr (k l s n : Int) (x : ByteArray) : Int :=
  if typeErr k l s ≠ 0 then typeErr k l s else if k = 4 then 17 else if k = 0 then first0 [pick (n != 0) 5, pick ((x.size : Int) != l) 18]
  else if x.size ≠ 0 then 5 else if fitsB n l then 0 else 19

theorem typeErr_len {k l s : Int} (h : typeErr k l s = 0) (hk : k ≠ 4) : 1 ≤ l ∧ l ≤ 256 ∧ (k ≠ 0 → l ≤ 15) ∧ 0 ≤ k ∧ k < 5 := by
  have h' : rightLen k l = true := by unfold typeErr at h; by_cases e : rightLen k l <;> simp_all; split at h <;> omega
  have h2 : 0 ≤ k ∧ k < 5 := by unfold typeErr at h; split at h <;> omega
  unfold rightLen at h'
  by_cases a : k = 0
  · simp [a] at h'; omega
  · by_cases b : k = 3
    · simp [b] at h'; omega
    · simp [a, b, hk] at h'; omega

theorem isEmpty_size (x : ByteArray) : x.toList.isEmpty = decide (x.size = 0) := by
  rw [ByteArray.toList_eq]
  show x.data.toList.isEmpty = decide (x.data.size = 0)
  rw [← Array.length_toList]
  cases x.data.toList <;> simp

set_option maxHeartbeats 1000000 in
set_option maxRecDepth 100000 in
theorem CheckValue_any (k l s n : Int) (x : ByteArray) (w : World) :
    Calls Try.prog 19 #[.agg #[.int .i64 k, .int .i64 l, .int .i64 s], .agg #[.int .i64 n, .string x]] w fun e w' => e = .returned (.int .i64 (valErr k l s n x)) ∧ Gr w w' := by
  by_cases he : first0 [typeErr k l s, pick (k == 4) 17] = 0
  · have hb0 : (first0 [typeErr k l s, pick (k == 4) 17] != 0) = false := by simp [he]
    have h1 : typeErr k l s = 0 := by by_cases h : typeErr k l s = 0; exact h; simp [first0, h] at he
    have h2 : k ≠ 4 := by intro h; subst h; simp [first0, pick, h1] at he
    obtain ⟨l0, l1, l2, _, _⟩ := typeErr_len h1 h2
    have H1 := Lib.hid h1
    have hx := isEmpty_size x
    have HX := Lib.hid hx
    clear he h1 hx
    by_cases k0 : k = 0
    · subst k0
      have hb1 : (first0 [typeErr 0 l s, pick false 17] != 0) = false := hb0
      clear l2 h2 hb0
      go_enter Try.func19, Try.ntmps19
      go_wp2_with (first | (go_at_call 41; refine (checkValued_any _ _ _ _).mono ?_; rintro e w1 ⟨rfl, hb⟩; obtain ⟨hc, hf⟩ := hb.cells; have hz : w.heap.size + 1 < w1.heap.size := (by have h := hb.size; (try simp at h); omega); have hz0 : w.heap.size < w1.heap.size := by omega) | (go_at_call 49; refine (checkString_any _ _ _ _ _ _).mono ?_; rintro e w1 ⟨rfl, hb⟩; obtain ⟨hc, hf⟩ := hb.cells; have hz : w.heap.size + 1 < w1.heap.size := (by have h := hb.size; (try simp at h); omega); have hz0 : w.heap.size < w1.heap.size := by omega))
      go_ret
      exact ⟨ret_int (by have e1 := H1.out; simp [valErr, e1]), (by repeat (first | exact Gr.refl _ | assumption | refine Gr.alloc ?_ _ | refine Gr.drew ?_ | refine Gr.drewN ?_ _ | refine Gr.setCell ?_ (by simp <;> omega) _ | refine Gr.trans ?_ (by assumption)))⟩
    · have hk : (k == 0) = false := by simp [k0]
      have H0 := Lib.hid k0
      have H2 := Lib.hid h2
      have L2 := l2 k0
      clear k0 h2 l2
      go_enter Try.func19, Try.ntmps19
      go_wp2_with (first | (go_at_call 41; refine (checkValued_any _ _ _ _).mono ?_; rintro e w1 ⟨rfl, hb⟩; obtain ⟨hc, hf⟩ := hb.cells; have hz : w.heap.size + 1 < w1.heap.size := (by have h := hb.size; (try simp at h); omega); have hz0 : w.heap.size < w1.heap.size := by omega) | (go_at_call 50; refine (fits_any _ _ _ _ (by omega) _).mono ?_; rintro e w1 ⟨rfl, hb⟩; obtain ⟨hc, hf⟩ := hb.cells; have hz : w.heap.size + 1 < w1.heap.size := (by have h := hb.size; (try simp at h); omega); have hz0 : w.heap.size < w1.heap.size := by omega))
      all_goals (go_ret; exact ⟨ret_int (by have e1 := H1.out; have e2 := HX.out; have e3 := H2.out; have e4 := H0.out; grind [valErr]), (by repeat (first | exact Gr.refl _ | assumption | refine Gr.alloc ?_ _ | refine Gr.drew ?_ | refine Gr.drewN ?_ _ | refine Gr.setCell ?_ (by simp <;> omega) _ | refine Gr.trans ?_ (by assumption)))⟩)
  · have hb0 : (first0 [typeErr k l s, pick (k == 4) 17] != 0) = true := by simp [he]
    have HE := Lib.hid he
    clear he
    go_enter Try.func19, Try.ntmps19
    go_wp2_with (go_at_call 41; refine (checkValued_any _ _ _ _).mono ?_; rintro e w1 ⟨rfl, hb⟩; obtain ⟨hc, hf⟩ := hb.cells; have hz : w.heap.size + 1 < w1.heap.size := (by have h := hb.size; (try simp at h); omega); have hz0 : w.heap.size < w1.heap.size := by omega)
    go_ret
    exact ⟨ret_int (by have e1 := HE.out; grind [valErr, first0, pick]), (by repeat (first | exact Gr.refl _ | assumption | refine Gr.alloc ?_ _ | refine Gr.drew ?_ | refine Gr.drewN ?_ _ | refine Gr.setCell ?_ (by simp <;> omega) _ | refine Gr.trans ?_ (by assumption)))⟩

theorem valErr_ok {k l s n : Int} {x : ByteArray} (h : valErr k l s n x = 0) : typeErr k l s = 0 ∧ k ≠ 4 ∧ 1 ≤ l ∧ l ≤ 256 ∧ -1000000000000000000 ≤ n ∧ n ≤ 1000000000000000000 := by
  have h1 : typeErr k l s = 0 := by unfold valErr at h; split at h <;> omega
  have h2 : k ≠ 4 := by intro e; subst e; simp [valErr, h1] at h
  obtain ⟨l0, l1, l2, _, _⟩ := typeErr_len h1 h2
  refine ⟨h1, h2, l0, l1, ?_⟩
  by_cases k0 : k = 0
  · subst k0
    have : n = 0 := by
      by_cases hn : n = 0
      · exact hn
      · simp [valErr, h1, first0, pick, hn] at h
    omega
  · have h3 : fitsB n l = true := by
      by_cases hf : fitsB n l = true
      · exact hf
      · by_cases hx : x.size = 0 <;> simp [valErr, h1, h2, k0, hf, hx] at h
    have := p10_bd l (by omega)
    simp only [fitsB, decide_eq_true_eq] at h3
    unfold most at h3
    omega

theorem Encode_any (k l s n : Int) (x : ByteArray) (w : World) :
    Calls Try.prog 24 #[.agg #[.int .i64 k, .int .i64 l, .int .i64 s], .agg #[.int .i64 n, .string x]] w fun e w' => e = .returned (.tuple #[.string (if valErr k l s n x = 0 then strB k l n x else ⟨#[]⟩), .int .i64 (valErr k l s n x)]) ∧ Gr w w' := by
  by_cases he : valErr k l s n x = 0
  · obtain ⟨-, -, h0, h1, hn, hn'⟩ := valErr_ok he
    have hb0 : (valErr k l s n x != 0) = false := by simp [he]
    have HE := Lib.hid he
    clear he
    go_enter Try.func24, Try.ntmps24
    go_wp2_with (first | (go_at_call 19; refine (CheckValue_any _ _ _ _ _ _).mono ?_; rintro e w1 ⟨rfl, hb⟩; obtain ⟨hc, hf⟩ := hb.cells; have hz : w.heap.size + 1 < w1.heap.size := (by have h := hb.size; (try simp at h); omega); have hz0 : w.heap.size < w1.heap.size := by omega) | (go_at_call 53; refine (bytesOf_any _ _ _ _ _ h0 h1 hn hn' _).mono ?_; rintro e w1 ⟨rfl, hb⟩; obtain ⟨hc, hf⟩ := hb.cells; have hz : w.heap.size + 1 < w1.heap.size := (by have h := hb.size; (try simp at h); omega); have hz0 : w.heap.size < w1.heap.size := by omega))
    go_ret2
    exact ⟨by simp [HE.out], (by repeat (first | exact Gr.refl _ | assumption | refine Gr.alloc ?_ _ | refine Gr.drew ?_ | refine Gr.drewN ?_ _ | refine Gr.setCell ?_ (by simp <;> omega) _ | refine Gr.trans ?_ (by assumption)))⟩
  · have hb0 : (valErr k l s n x != 0) = true := by simp [he]
    have HE := Lib.hid he
    clear he
    go_enter Try.func24, Try.ntmps24
    go_wp2_with (go_at_call 19; refine (CheckValue_any _ _ _ _ _ _).mono ?_; rintro e w1 ⟨rfl, hb⟩; obtain ⟨hc, hf⟩ := hb.cells; have hz : w.heap.size + 1 < w1.heap.size := (by have h := hb.size; (try simp at h); omega); have hz0 : w.heap.size < w1.heap.size := by omega)
    go_ret2
    exact ⟨by simp [HE.out], (by repeat (first | exact Gr.refl _ | assumption | refine Gr.alloc ?_ _ | refine Gr.drew ?_ | refine Gr.drewN ?_ _ | refine Gr.setCell ?_ (by simp <;> omega) _ | refine Gr.trans ?_ (by assumption)))⟩
end Go.Proofs.Ytmejhccdiimmlaa
