/- Texts of the walks, merged. -/
import Derived.Test.YtnaflaokhldfnaaDoorQ28
import Derived.Deep.AppendLies
namespace Go.Proofs.YtnaflaokhldfnaaDoor
set_option linter.unusedSimpArgs false
set_option linter.unusedVariables false
open Go.RowKit

def znH (x : ByteArray) (i : Nat) : Int := byteAt x i % 16
theorem info92' : (Tryd.prog.info? 72).map (fun i => (i.zero, i.size, i.bytes)) = some (some (.agg #[.int .u8 0, .int .u8 0, .int .i64 0]), 3, 16) := info92

set_option maxHeartbeats 4000000 in
set_option maxRecDepth 100000 in
theorem zonedHalves_any (x : ByteArray) (S : Nat) (hS : x.size = S) (hS1 : 1 ≤ S) (hS2 : S ≤ 200) (w : World) :
    Calls Tryd.prog 36 #[.string x] w fun e w' => ∃ g cap, e = .returned (.tuple #[.slice (some ⟨g, 0, none⟩) S cap, .agg #[.int .u8 (byteAt x (S - 1) / 16), .int .u8 0, .int .i64 ((S : Int) - 1)]]) ∧
      (∀ i, i < S → w'.cell? ⟨g, i * 3, none⟩ = some (.int .u8 (znH x i)) ∧ w'.cell? ⟨g, i * 3 + 1, none⟩ = some (.int .u8 9) ∧ w'.cell? ⟨g, i * 3 + 2, none⟩ = some (.int .i64 i)) ∧ g < w'.heap.size ∧ Gr w w' := by
  obtain ⟨i0, hi, hz0, hz1, hz2⟩ := info_parts info92
  obtain ⟨M, rfl⟩ : ∃ M, S = M + 1 := ⟨S - 1, by omega⟩
  go_enter Tryd.func36, Tryd.ntmps36
  go_wp2
  go_loopw [4, 9] (fun v i wr => ∃ q : Nat, q ≤ M + 1 ∧ i = .int .i64 q ∧ Hid (wr.ownsRow (w.heap.size + 1) 72 3 v q (hcells (znH x) (fun _ => 9) (fun i => (i : Int)) q)) ∧ Hid (Below (w.heap.size + 1) (w.alloc (.cells #[.int .u8 0, .int .u8 0, .int .i64 0] 72)) wr)) (fun _ i _ => M + 1 - (intOf i).toNat)
  case atStart => exact ⟨0, by omega, rfl, Lib.hid (World.ownsRow_nil _ _ _ _), Below.refl _ _⟩
  case round =>
    obtain ⟨q, hq, rfl, hO, hB⟩ := hrel
    have HS := Lib.hid hS
    by_cases hlt : q < M + 1
    · have hqs : q < x.size := by omega
      have hby := byteAt_eq x q hqs
      have hbb := byteAt_bd x q
      clear hS
      have hand := u8_and15 (byteAt x q) (by omega) (by omega)
      have hsz : w.heap.size < wr.heap.size := by have := hB.out.size; simp at this; omega
      go_wp2_with (at_builtin; refine wpList_append_lies _ rfl (.tmp 12) (.tmp 19) 70 rfl (w.heap.size + 1) 72 i0 _ 3 16 Tryd.underlying70 hi hz0 hz1 hz2 rfl (by omega) u4 q (hcells (znH x) (fun _ => 9) (fun i => (i : Int)) q) rfl (hO.out.alloc _) ⟨wr.heap.size, 0, none⟩ 1 1 [.int .u8 (byteAt x q % 16), .int .u8 9, .int .i64 q] rfl rfl (World.news_of_block (cs := #[.int .u8 (byteAt x q % 16), .int .u8 9, .int .i64 q]) (t := 72) (fr := (0, 0)) (heap_alloc_new wr _)) (by simp [Value.oneCell']) (by omega) (by unfold maxLen; omega) (by omega) (by simp; omega) (wr.heap.size + 1) (by simp) ?_; intro gg cap w1 hown1 hgrow hat hlt1)
      all_goals
        have hgz := Lib.hid hgrow
        have hoz := Lib.hid hown1
        clear hown1 hgrow hat
        go_wp2
        go_roundw
        case rel =>
          refine ⟨q + 1, by omega, by go_num, Lib.hid ?_, Lib.hid (hB.out.trans (((Below.refl _ wr).alloc (by omega) _).grown hgz.out (by simp; omega) (fun z hz => (World.ownsRow.lt hO.out z hz).1)))⟩
          rw [hcells_succ]
          exact hoz.out
        case measure => simp [intOf]; omega
    · have hqs := Lib.hid (show q = M + 1 by omega)
      have hO2 := hO.out
      rw [hqs.out] at hO2
      obtain ⟨g, cap, hv, hg1, hg2, hcap⟩ := own_form hO2 (by omega)
      subst hv
      have C := Lib.hid (fun j c hj hc => (World.ownsRow.cellAt hO2 (j * 3 + c) (by omega)).trans (hcells_get (znH x) (fun _ => 9) (fun i => (i : Int)) (M + 1) j c hj hc))
      have r0 : wr.cell? ⟨w.heap.size, 0, none⟩ = some (.int .u8 0) := keepc hB.out (by simp) (by first | (simp; done) | (simp [go_sem]; done))
      have r1 : wr.cell? ⟨w.heap.size, 1, none⟩ = some (.int .u8 0) := keepc hB.out (by simp) (by first | (simp; done) | (simp [go_sem]; done))
      have r2 : wr.cell? ⟨w.heap.size, 2, none⟩ = some (.int .i64 0) := keepc hB.out (by simp) (by first | (simp; done) | (simp [go_sem]; done))
      have q0 : wr.frozen? ⟨w.heap.size, 0, none⟩ = false := by rw [Below.frozen hB.out (p := ⟨w.heap.size, 0, none⟩) (by simp)] <;> first | (simp; done) | (simp [go_sem]; done)
      have q1 : wr.frozen? ⟨w.heap.size, 1, none⟩ = false := by rw [Below.frozen hB.out (p := ⟨w.heap.size, 1, none⟩) (by simp)] <;> first | (simp; done) | (simp [go_sem]; done)
      have q2 : wr.frozen? ⟨w.heap.size, 2, none⟩ = false := by rw [Below.frozen hB.out (p := ⟨w.heap.size, 2, none⟩) (by simp)] <;> first | (simp; done) | (simp [go_sem]; done)
      have hgw := Lib.hid (show Gr w wr from Gr.trans ((Gr.refl w).alloc _) (hB.out.mono (by simp)))
      have hbs : w.heap.size < wr.heap.size := by omega
      have hS3 : (0 : Int) ≤ M := by omega
      have hqs1 : M < x.size := by omega
      have hby := byteAt_eq x M hqs1
      have hbb := byteAt_bd x M
      have HO := Lib.hid hO2
      clear hO2
      go_wp2
      go_region
      go_wp2
      refine bodyPost_ret (v := .tuple #[.slice (some ⟨g, 0, none⟩) (M + 1) cap, .agg #[.int .u8 (byteAt x M / 16), .int .u8 0, .int .i64 M]]) ?_ rfl ⟨g, cap, by simp, ?_, ?_, ?_⟩
      · simp [results, Tryd.results36, go_sem, *]
      · intro i hi
        refine ⟨?_, ?_, ?_⟩
        · rw [World.cell?_drew, World.cell?_setCell_other _ _ _ _ (by simp <;> omega), World.cell?_setCell_other _ _ _ _ (by simp <;> omega), World.cell?_setCell_other _ _ _ _ (by simp <;> omega)]
          exact C.out i 0 hi (by omega)
        · rw [World.cell?_drew, World.cell?_setCell_other _ _ _ _ (by simp <;> omega), World.cell?_setCell_other _ _ _ _ (by simp <;> omega), World.cell?_setCell_other _ _ _ _ (by simp <;> omega)]
          exact C.out i 1 hi (by omega)
        · rw [World.cell?_drew, World.cell?_setCell_other _ _ _ _ (by simp <;> omega), World.cell?_setCell_other _ _ _ _ (by simp <;> omega), World.cell?_setCell_other _ _ _ _ (by simp <;> omega)]
          exact C.out i 2 hi (by omega)
      · simp; omega
      · exact by repeat (first | exact hgw.out | refine Gr.drew ?_ | refine Gr.setCell ?_ (by simp) _)

/-! ### binary -/
theorem or_low (n b : Int) (h0 : -36028797018963968 ≤ n) (h1 : n < 36028797018963968) (hb0 : 0 ≤ b) (hb : b < 256) : bits .or .i64 (n * 256) b = n * 256 + b := by
  have e1 : (BitVec.ofInt 64 (n * 256)).toNat = 2 ^ 8 * (n % 72057594037927936).toNat := by
    rw [BitVec.toNat_ofInt]
    have : (n * 256 : Int) % ((2 ^ 64 : Nat) : Int) = 256 * (n % 72057594037927936) := by
      rw [show ((2 ^ 64 : Nat) : Int) = 18446744073709551616 by rfl]; omega
    rw [this]; omega
  have e2 : (BitVec.ofInt 64 b).toNat = b.toNat := by
    rw [BitVec.toNat_ofInt, show ((2 ^ 64 : Nat) : Int) = 18446744073709551616 by rfl]; omega
  unfold bits
  show IntKind.i64.wrap (((BitVec.ofInt 64 (n * 256) ||| BitVec.ofInt 64 b).toNat : Nat) : Int) = _
  rw [BitVec.toNat_or, e1, e2, ← Nat.two_pow_add_eq_or_of_lt (show b.toNat < 2 ^ 8 by omega), IntKind.wrap_i64]
  omega

/-- What the first k + 1 bytes say, in the two's complement. -/
def sgB (x : ByteArray) : Nat → Int
  | 0 => if byteAt x 0 < 128 then byteAt x 0 else byteAt x 0 - 256
  | k + 1 => sgB x k * 256 + byteAt x (k + 1)
theorem sgB_bd (x : ByteArray) : ∀ k, k ≤ 3 → -2147483648 ≤ sgB x k ∧ sgB x k ≤ 2147483647
  | 0, _ => by have := byteAt_bd x 0; simp only [sgB, Nat.zero_add, Nat.reduceAdd]; split <;> omega
  | 1, _ => by have := byteAt_bd x 0; have := byteAt_bd x 1; simp only [sgB, Nat.zero_add, Nat.reduceAdd]; split <;> omega
  | 2, _ => by have := byteAt_bd x 0; have := byteAt_bd x 1; have := byteAt_bd x 2; simp only [sgB, Nat.zero_add, Nat.reduceAdd]; split <;> omega
  | 3, _ => by have := byteAt_bd x 0; have := byteAt_bd x 1; have := byteAt_bd x 2; have := byteAt_bd x 3; simp only [sgB, Nat.zero_add, Nat.reduceAdd]; split <;> omega

/-- What binary bytes are read as. -/
def sbN (l : Int) (x : ByteArray) : Int := if fitsB (sgB x (x.size - 1)) l then sgB x (x.size - 1) else 0
def sbErr (l : Int) (x : ByteArray) : Int := if fitsB (sgB x (x.size - 1)) l then 0 else 19

set_option maxHeartbeats 2000000 in
set_option maxRecDepth 100000 in
theorem readBinary_any (k l s : Int) (x : ByteArray) (hl : l ≤ 15) (S : Nat) (hS : x.size = S) (hS1 : 1 ≤ S) (hS2 : S ≤ 4) (w : World) :
    Calls Tryd.prog 37 #[.agg #[.int .i64 k, .int .i64 l, .int .i64 s], .string x] w fun e w' =>
      e = .returned (.tuple #[.agg #[.int .i64 (sbN l x), .string ⟨#[]⟩], .int .i64 0, .int .i64 (sbErr l x)]) ∧ Gr w w' := by
  obtain ⟨M, hM⟩ : ∃ M, S = M + 1 := ⟨S - 1, by omega⟩
  subst hM
  have h0s : 0 < x.size := by omega
  have hby := byteAt_eq x 0 h0s
  have hbb := byteAt_bd x 0
  have hi8 : IntKind.i8.wrap (byteAt x 0) = sgB x 0 := by
    have e : IntKind.i8.wrap (byteAt x 0) = if byteAt x 0 % 256 ≥ 128 then byteAt x 0 % 256 - 256 else byteAt x 0 % 256 := by
      simp [IntKind.wrap, IntKind.bits, IntKind.signed]
    rw [e]; unfold sgB; split <;> split <;> omega
  have hw8 : wrap64 (sgB x 0) = sgB x 0 := IntWalk.wrap64_in _ (by have := sgB_bd x 0 (by omega); omega)
  go_enter Tryd.func37, Tryd.ntmps37
  go_wp2
  have HS := Lib.hid hS
  clear hS
  go_loop [7, 16] (fun v i => ∃ q : Nat, q ≤ M ∧ i = .int .i64 q ∧ v = .int .i64 (sgB x q)) (fun _ i => M - (intOf i).toNat)
  case atStart => exact ⟨0, by omega, rfl, by rw [hw8]⟩
  case round =>
    obtain ⟨q, hq, rfl, rfl⟩ := hrel
    have hsb := sgB_bd x q (by omega)
    by_cases hlt : q < M
    · have hq1 : q + 1 < x.size := by have := HS.out; omega
      have hby1 := byteAt_eq x (q + 1) hq1
      have hbb1 := byteAt_bd x (q + 1)
      obtain ⟨v, hv⟩ : ∃ v, sgB x q = v := ⟨_, rfl⟩
      rw [hv] at hsb ⊢
      have HV := Lib.hid hv
      clear hv
      have hor := or_low v (byteAt x (q + 1)) (by omega) (by omega) (by omega) (by omega)
      go_wp2
      go_round
      case rel => exact ⟨q + 1, by omega, by go_num, by rw [sgB, HV.out]⟩
      case measure => simp [intOf]; omega
    · have hqM := Lib.hid (show q = M by omega)
      have hN : fitsB (sgB x q) l = true → sbN l x = sgB x q ∧ sbErr l x = 0 := by
        intro h; unfold sbN sbErr; rw [HS.out, show M + 1 - 1 = q by have := hqM.out; omega, if_pos h, if_pos h]; exact ⟨rfl, rfl⟩
      have hE : fitsB (sgB x q) l = false → sbN l x = 0 ∧ sbErr l x = 19 := by
        intro h; unfold sbN sbErr; rw [HS.out, show M + 1 - 1 = q by have := hqM.out; omega, h]; exact ⟨rfl, rfl⟩
      have HN := Lib.hid hN
      have HE := Lib.hid hE
      clear hN hE
      by_cases hft : fitsB (sgB x q) l = true
      · go_wp2_with (go_at_call 40; refine (fits_any _ _ _ _ (by omega) _).mono ?_; rintro e w1 ⟨rfl, hb⟩; obtain ⟨hc, hf⟩ := hb.cells; have hz : w.heap.size + 1 < w1.heap.size := (by have h := hb.size; (try simp at h); omega); have hz0 : w.heap.size < w1.heap.size := by omega)
        refine bodyPost_ret (v := .tuple #[.agg #[.int .i64 (sgB x q), .string ⟨#[]⟩], .int .i64 0, .int .i64 0]) (by simp [results, Tryd.results37, go_sem, *]) rfl ⟨by rw [(HN.out hft).1, (HN.out hft).2], (by repeat (first | (with_reducible exact Gr.refl _) | (with_reducible assumption) | (with_reducible refine Gr.alloc ?_ _) | (with_reducible refine Gr.drew ?_) | (with_reducible refine Gr.drewN ?_ _) | (with_reducible refine Gr.setCell ?_ (by simp <;> omega) _) | (with_reducible refine Gr.trans ?_ (by with_reducible assumption)) | exact Gr.refl _ | assumption | refine Gr.alloc ?_ _ | refine Gr.drew ?_ | refine Gr.drewN ?_ _ | refine Gr.setCell ?_ (by simp <;> omega) _ | refine Gr.trans ?_ (by assumption)))⟩
      · have hff : fitsB (sgB x q) l = false := by simpa using hft
        clear hft
        go_wp2_with (go_at_call 40; refine (fits_any _ _ _ _ (by omega) _).mono ?_; rintro e w1 ⟨rfl, hb⟩; obtain ⟨hc, hf⟩ := hb.cells; have hz : w.heap.size + 1 < w1.heap.size := (by have h := hb.size; (try simp at h); omega); have hz0 : w.heap.size < w1.heap.size := by omega)
        refine bodyPost_ret (v := .tuple #[.agg #[.int .i64 0, .string ⟨#[]⟩], .int .i64 0, .int .i64 19]) (by simp [results, Tryd.results37, go_sem, *]) rfl ⟨by rw [(HE.out hff).1, (HE.out hff).2], (by repeat (first | (with_reducible exact Gr.refl _) | (with_reducible assumption) | (with_reducible refine Gr.alloc ?_ _) | (with_reducible refine Gr.drew ?_) | (with_reducible refine Gr.drewN ?_ _) | (with_reducible refine Gr.setCell ?_ (by simp <;> omega) _) | (with_reducible refine Gr.trans ?_ (by with_reducible assumption)) | exact Gr.refl _ | assumption | refine Gr.alloc ?_ _ | refine Gr.drew ?_ | refine Gr.drewN ?_ _ | refine Gr.setCell ?_ (by simp <;> omega) _ | refine Gr.trans ?_ (by assumption)))⟩

/-! ### Decode -/
def zdN (x : ByteArray) : Int := rdN (znH x) (fun _ => 9) x.size (byteAt x (x.size - 1) / 16)
def zdAt (x : ByteArray) : Int := rdAt (znH x) (fun _ => 9) (fun i => (i : Int)) x.size (byteAt x (x.size - 1) / 16) ((x.size : Int) - 1)
def zdErr (x : ByteArray) : Int := rdErr (znH x) (fun _ => 9) x.size (byteAt x (x.size - 1) / 16)
/-- The error of a type and of a number of bytes. -/
def preErr (k l s : Int) (x : ByteArray) : Int := if typeErr k l s ≠ 0 then typeErr k l s else if k = 4 then 17 else if (x.size : Int) ≠ sizeI k l then 18 else 0
def decN (k l s : Int) (x : ByteArray) : Int := if preErr k l s x ≠ 0 then 0 else if k = 1 then pdN l x else if k = 2 then zdN x else if k = 3 then sbN l x else 0
def decS (k l s : Int) (x : ByteArray) : ByteArray := if preErr k l s x = 0 ∧ k = 0 then x else ⟨#[]⟩
def decAt (k l s : Int) (x : ByteArray) : Int := if preErr k l s x ≠ 0 then 0 else if k = 1 then pdAt l x else if k = 2 then zdAt x else 0
def decErr (k l s : Int) (x : ByteArray) : Int := if preErr k l s x ≠ 0 then preErr k l s x else if k = 1 then pdErr l x else if k = 2 then zdErr x else if k = 3 then sbErr l x else 0

set_option maxHeartbeats 2000000 in
set_option maxRecDepth 100000 in
theorem Decode_any (k l s : Int) (x : ByteArray) (w : World) :
    Calls Tryd.prog 13 #[.agg #[.int .i64 k, .int .i64 l, .int .i64 s], .string x] w fun e w' =>
      e = .returned (.tuple #[.agg #[.int .i64 (decN k l s x), .string (decS k l s x)], .int .i64 (decAt k l s x), .int .i64 (decErr k l s x)]) ∧ Gr w w' := by
  by_cases he : first0 [typeErr k l s, pick (k == 4) 17] = 0
  · have hb0 : (first0 [typeErr k l s, pick (k == 4) 17] != 0) = false := by simp [he]
    have ht : typeErr k l s = 0 := by by_cases h : typeErr k l s = 0; exact h; simp [first0, h] at he
    have hk4 : k ≠ 4 := by intro h; subst h; simp [first0, pick, ht] at he
    obtain ⟨l0, l1, l2, kb0, kb1⟩ := typeErr_len ht hk4
    by_cases hx : (x.size : Int) = sizeI k l
    · have hp : preErr k l s x = 0 := by unfold preErr; rw [if_neg (by simp [ht]), if_neg hk4, if_neg (by simp [hx])]
      by_cases k1 : k = 1
      · subst k1
        exact (Decode_packed l s x ht hx w).mono fun e w' ⟨a, b⟩ => ⟨by rw [a]; simp [decN, decS, decAt, decErr, hp], b⟩
      · have l15 : k ≠ 0 → l ≤ 15 := l2
        have HT := Lib.hid ht
        have HP := Lib.hid hp
        have HX := Lib.hid hx
        have hxe : ((x.size : Int) != sizeI k l) = false := by simp [hx]
        by_cases k2 : k = 2
        · subst k2
          have hS : sizeI 2 l = l := by unfold sizeI; simp
          have hSb : 1 ≤ x.size ∧ x.size ≤ 15 := by have := l15 (by decide); omega
          have hf1 : (first0 [typeErr 2 l s, pick false 17] != 0) = false := hb0
          clear he hb0 ht hx hS hp l2 l15
          go_enter Tryd.func13, Tryd.ntmps13
          go_wp2_with (first
            | (go_at_call 32; refine (checkValued_any _ _ _ _).mono ?_; rintro e w1 ⟨rfl, hb⟩; obtain ⟨hc, hf⟩ := hb.cells; have hz : w.heap.size + 1 < w1.heap.size := (by have h := hb.size; (try simp at h); omega); have hz0 : w.heap.size < w1.heap.size := by omega)
            | (go_at_call 33; refine (sizeOf_any _ _ _ (by omega) (by omega) _).mono ?_; rintro e w1 ⟨rfl, hb⟩; obtain ⟨hc, hf⟩ := hb.cells; have hz : w.heap.size + 1 < w1.heap.size := (by have h := hb.size; (try simp at h); omega); have hz0 : w.heap.size < w1.heap.size := by omega)
            | (go_at_call 36; refine (zonedHalves_any x x.size rfl hSb.1 (by omega) _).mono ?_; rintro e w1 ⟨g, cap, rfl, hcs, hgl, hb⟩; have HCS := Lib.hid hcs; clear hcs; obtain ⟨hc, hf⟩ := hb.cells; have hz : w.heap.size + 1 < w1.heap.size := (by have h := hb.size; (try simp at h); omega); have hz0 : w.heap.size < w1.heap.size := by omega)
            | (go_at_call 34; refine (readDecimal_any _ _ _ (znH x) (fun _ => 9) (fun i => (i : Int)) _ _ _ (by omega) (fun i _ => ⟨by have := byteAt_bd x i; unfold znH; omega, Int.le_refl _⟩) _ hgl HCS.out).mono ?_; rintro e w1 ⟨rfl, hb⟩; obtain ⟨hc, hf⟩ := hb.cells; have hz : w.heap.size + 1 < w1.heap.size := (by have h := hb.size; (try simp at h); omega); have hz0 : w.heap.size < w1.heap.size := by omega))
          refine bodyPost_ret (v := .tuple #[.agg #[.int .i64 (zdN x), .string ⟨#[]⟩], .int .i64 (zdAt x), .int .i64 (zdErr x)]) (by simp [results, Tryd.results13, go_sem, *]; exact ⟨rfl, rfl, rfl⟩) rfl ⟨by simp [decN, decS, decAt, decErr, HP.out], (by repeat (first | (with_reducible exact Gr.refl _) | (with_reducible assumption) | (with_reducible refine Gr.alloc ?_ _) | (with_reducible refine Gr.drew ?_) | (with_reducible refine Gr.drewN ?_ _) | (with_reducible refine Gr.setCell ?_ (by simp <;> omega) _) | (with_reducible refine Gr.trans ?_ (by with_reducible assumption)) | exact Gr.refl _ | assumption | refine Gr.alloc ?_ _ | refine Gr.drew ?_ | refine Gr.drewN ?_ _ | refine Gr.setCell ?_ (by simp <;> omega) _ | refine Gr.trans ?_ (by assumption)))⟩
        · by_cases k3 : k = 3
          · subst k3
            have hl15 := l15 (by decide)
            have hS : 1 ≤ x.size ∧ x.size ≤ 4 := by unfold sizeI at hx; simp at hx; split at hx <;> omega
            have hf1 : (first0 [typeErr 3 l s, pick false 17] != 0) = false := hb0
            clear he hb0 ht hx hp l2 l15
            go_enter Tryd.func13, Tryd.ntmps13
            go_wp2_with (first
              | (go_at_call 32; refine (checkValued_any _ _ _ _).mono ?_; rintro e w1 ⟨rfl, hb⟩; obtain ⟨hc, hf⟩ := hb.cells; have hz : w.heap.size + 1 < w1.heap.size := (by have h := hb.size; (try simp at h); omega); have hz0 : w.heap.size < w1.heap.size := by omega)
              | (go_at_call 33; refine (sizeOf_any _ _ _ (by omega) (by omega) _).mono ?_; rintro e w1 ⟨rfl, hb⟩; obtain ⟨hc, hf⟩ := hb.cells; have hz : w.heap.size + 1 < w1.heap.size := (by have h := hb.size; (try simp at h); omega); have hz0 : w.heap.size < w1.heap.size := by omega)
              | (go_at_call 37; refine (readBinary_any _ _ _ x hl15 x.size rfl hS.1 hS.2 _).mono ?_; rintro e w1 ⟨rfl, hb⟩; obtain ⟨hc, hf⟩ := hb.cells; have hz : w.heap.size + 1 < w1.heap.size := (by have h := hb.size; (try simp at h); omega); have hz0 : w.heap.size < w1.heap.size := by omega))
            refine bodyPost_ret (v := .tuple #[.agg #[.int .i64 (sbN l x), .string ⟨#[]⟩], .int .i64 0, .int .i64 (sbErr l x)]) (by simp [results, Tryd.results13, go_sem, *]) rfl ⟨by simp [decN, decS, decAt, decErr, HP.out], (by repeat (first | (with_reducible exact Gr.refl _) | (with_reducible assumption) | (with_reducible refine Gr.alloc ?_ _) | (with_reducible refine Gr.drew ?_) | (with_reducible refine Gr.drewN ?_ _) | (with_reducible refine Gr.setCell ?_ (by simp <;> omega) _) | (with_reducible refine Gr.trans ?_ (by with_reducible assumption)) | exact Gr.refl _ | assumption | refine Gr.alloc ?_ _ | refine Gr.drew ?_ | refine Gr.drewN ?_ _ | refine Gr.setCell ?_ (by simp <;> omega) _ | refine Gr.trans ?_ (by assumption)))⟩
          · obtain rfl : k = 0 := by omega
            have hf1 : (first0 [typeErr 0 l s, pick false 17] != 0) = false := hb0
            clear he hb0 ht hx hp l2 l15
            go_enter Tryd.func13, Tryd.ntmps13
            go_wp2_with (first
              | (go_at_call 32; refine (checkValued_any _ _ _ _).mono ?_; rintro e w1 ⟨rfl, hb⟩; obtain ⟨hc, hf⟩ := hb.cells; have hz : w.heap.size + 1 < w1.heap.size := (by have h := hb.size; (try simp at h); omega); have hz0 : w.heap.size < w1.heap.size := by omega)
              | (go_at_call 33; refine (sizeOf_any _ _ _ (by omega) (by omega) _).mono ?_; rintro e w1 ⟨rfl, hb⟩; obtain ⟨hc, hf⟩ := hb.cells; have hz : w.heap.size + 1 < w1.heap.size := (by have h := hb.size; (try simp at h); omega); have hz0 : w.heap.size < w1.heap.size := by omega))
            refine bodyPost_ret (v := .tuple #[.agg #[.int .i64 0, .string x], .int .i64 0, .int .i64 0]) (by simp [results, Tryd.results13, go_sem, *]) rfl ⟨by simp [decN, decS, decAt, decErr, HP.out], (by repeat (first | (with_reducible exact Gr.refl _) | (with_reducible assumption) | (with_reducible refine Gr.alloc ?_ _) | (with_reducible refine Gr.drew ?_) | (with_reducible refine Gr.drewN ?_ _) | (with_reducible refine Gr.setCell ?_ (by simp <;> omega) _) | (with_reducible refine Gr.trans ?_ (by with_reducible assumption)) | exact Gr.refl _ | assumption | refine Gr.alloc ?_ _ | refine Gr.drew ?_ | refine Gr.drewN ?_ _ | refine Gr.setCell ?_ (by simp <;> omega) _ | refine Gr.trans ?_ (by assumption)))⟩
    · have hp : preErr k l s x = 18 := by unfold preErr; rw [if_neg (by simp [ht]), if_neg hk4, if_pos hx]
      have HP := Lib.hid hp
      have hxe : ((x.size : Int) != sizeI k l) = true := by simp [hx]
      clear he ht hx hp l2
      go_enter Tryd.func13, Tryd.ntmps13
      go_wp2_with (first
        | (go_at_call 32; refine (checkValued_any _ _ _ _).mono ?_; rintro e w1 ⟨rfl, hb⟩; obtain ⟨hc, hf⟩ := hb.cells; have hz : w.heap.size + 1 < w1.heap.size := (by have h := hb.size; (try simp at h); omega); have hz0 : w.heap.size < w1.heap.size := by omega)
        | (go_at_call 33; refine (sizeOf_any _ _ _ (by omega) (by omega) _).mono ?_; rintro e w1 ⟨rfl, hb⟩; obtain ⟨hc, hf⟩ := hb.cells; have hz : w.heap.size + 1 < w1.heap.size := (by have h := hb.size; (try simp at h); omega); have hz0 : w.heap.size < w1.heap.size := by omega))
      refine bodyPost_ret (v := .tuple #[.agg #[.int .i64 0, .string ⟨#[]⟩], .int .i64 0, .int .i64 18]) (by simp [results, Tryd.results13, go_sem, *]) rfl ⟨by simp [decN, decS, decAt, decErr, HP.out], (by repeat (first | (with_reducible exact Gr.refl _) | (with_reducible assumption) | (with_reducible refine Gr.alloc ?_ _) | (with_reducible refine Gr.drew ?_) | (with_reducible refine Gr.drewN ?_ _) | (with_reducible refine Gr.setCell ?_ (by simp <;> omega) _) | (with_reducible refine Gr.trans ?_ (by with_reducible assumption)) | exact Gr.refl _ | assumption | refine Gr.alloc ?_ _ | refine Gr.drew ?_ | refine Gr.drewN ?_ _ | refine Gr.setCell ?_ (by simp <;> omega) _ | refine Gr.trans ?_ (by assumption)))⟩
  · have hb0 : (first0 [typeErr k l s, pick (k == 4) 17] != 0) = true := by simp [he]
    have hp : preErr k l s x = first0 [typeErr k l s, pick (k == 4) 17] := by
      unfold preErr
      by_cases ht : typeErr k l s = 0
      · have hk : k = 4 := by
          by_cases hk : k = 4
          · exact hk
          · simp [first0, pick, ht, hk] at he
        simp [first0, pick, ht, hk]
      · simp [first0, ht]
    have HP := Lib.hid hp
    have HE := Lib.hid he
    clear he hp
    go_enter Tryd.func13, Tryd.ntmps13
    go_wp2_with (go_at_call 32; refine (checkValued_any _ _ _ _).mono ?_; rintro e w1 ⟨rfl, hb⟩; obtain ⟨hc, hf⟩ := hb.cells; have hz : w.heap.size + 1 < w1.heap.size := (by have h := hb.size; (try simp at h); omega); have hz0 : w.heap.size < w1.heap.size := by omega)
    refine bodyPost_ret (v := .tuple #[.agg #[.int .i64 0, .string ⟨#[]⟩], .int .i64 0, .int .i64 (first0 [typeErr k l s, pick (k == 4) 17])]) (by simp [results, Tryd.results13, go_sem, *]) rfl ⟨by simp [decN, decS, decAt, decErr, HP.out, HE.out], (by repeat (first | (with_reducible exact Gr.refl _) | (with_reducible assumption) | (with_reducible refine Gr.alloc ?_ _) | (with_reducible refine Gr.drew ?_) | (with_reducible refine Gr.drewN ?_ _) | (with_reducible refine Gr.setCell ?_ (by simp <;> omega) _) | (with_reducible refine Gr.trans ?_ (by with_reducible assumption)) | exact Gr.refl _ | assumption | refine Gr.alloc ?_ _ | refine Gr.drew ?_ | refine Gr.drewN ?_ _ | refine Gr.setCell ?_ (by simp <;> omega) _ | refine Gr.trans ?_ (by assumption)))⟩
end Go.Proofs.YtnaflaokhldfnaaDoor
namespace Go.Proofs.YtnaflaokhldfnaaDoor
set_option linter.unusedSimpArgs false
set_option linter.unusedVariables false
open Go.RowKit

def sgnN (n h : Int) : Int := if isNegB h then -n else n
def bgB (x : ByteArray) : Nat → Int
  | 0 => 0
  | k + 1 => bgB x k * 256 + byteAt x k
theorem bgB_bd (x : ByteArray) : ∀ k, k ≤ 4 → 0 ≤ bgB x k ∧ bgB x k ≤ 4294967295
  | 0, _ => by simp [bgB]
  | 1, _ => by have := byteAt_bd x 0; simp only [bgB, Nat.zero_add, Nat.reduceAdd]; omega
  | 2, _ => by have := byteAt_bd x 0; have := byteAt_bd x 1; simp only [bgB, Nat.zero_add, Nat.reduceAdd]; omega
  | 3, _ => by have := byteAt_bd x 0; have := byteAt_bd x 1; have := byteAt_bd x 2; simp only [bgB, Nat.zero_add, Nat.reduceAdd]; omega
  | 4, _ => by have := byteAt_bd x 0; have := byteAt_bd x 1; have := byteAt_bd x 2; have := byteAt_bd x 3; simp only [bgB, Nat.zero_add, Nat.reduceAdd]; omega

theorem zd_digit {x : ByteArray} {q : Nat} (hq : q < x.size) (h : 9 < znH x q) (hle : ∀ j, j < q → znH x j ≤ 9) : zdN x = 0 ∧ zdAt x = q ∧ zdErr x = 21 := by
  have hb := badAt_some (h := znH x) (m := fun _ => 9) (i := q) h hle x.size hq
  refine ⟨?_, ?_, ?_⟩
  · simp [zdN, rdN, hb]
  · simp [zdAt, rdAt, hb]
  · simp [zdErr, rdErr, hb]
theorem zd_sign {x : ByteArray} {S : Nat} (hS : x.size = S + 1) (hle : ∀ j, j < S → znH x j ≤ 9) (h : byteAt x S / 16 < 10) : zdN x = 0 ∧ zdAt x = S ∧ zdErr x = 21 := by
  by_cases hd : 9 < znH x S
  · exact zd_digit (by omega) hd hle
  · have hb := badAt_none (h := znH x) (m := fun _ => 9) (S + 1) (fun j hj => by
      by_cases e : j = S
      · subst e; omega
      · exact hle j (by omega))
    refine ⟨?_, ?_, ?_⟩
    · simp [zdN, rdN, hS, h]
    · simp [zdAt, rdAt, hS, hb, h]
    · simp [zdErr, rdErr, hS, h]
theorem zd_good {x : ByteArray} {S : Nat} (hS : x.size = S + 1) (hle : ∀ j, j < S + 1 → znH x j ≤ 9) (h : 10 ≤ byteAt x S / 16) : zdN x = sgnN (numOf (znH x) (S + 1)) (byteAt x S / 16) ∧ zdAt x = 0 ∧ zdErr x = 0 := by
  have hb := badAt_none (h := znH x) (m := fun _ => 9) (S + 1) hle
  have h' : ¬ byteAt x S / 16 < 10 := by omega
  refine ⟨?_, ?_, ?_⟩
  · simp [zdN, rdN, hS, hb, eq_false h', sgnN]
  · simp [zdAt, rdAt, hS, hb, eq_false h']
  · simp [zdErr, rdErr, hS, hb, eq_false h']

theorem pd_bad {l : Int} {x : ByteArray} {q : Nat} (hS : 1 ≤ x.size) (hq : q < 2 * x.size - 1) (h : pkM l q < halfOf x q) (hle : ∀ j, j < q → halfOf x j ≤ pkM l j) : pdN l x = 0 ∧ pdAt l x = halfAt q ∧ pdErr l x = 21 := by
  have hb := badAt_some (h := halfOf x) (m := pkM l) (i := q) h hle (2 * x.size - 1) hq
  refine ⟨?_, ?_, ?_⟩
  · simp [pdN, rdN, hb]
  · simp [pdAt, rdAt, hb]
  · simp [pdErr, rdErr, hb]
theorem pd_sign {l : Int} {x : ByteArray} (hle : ∀ j, j < 2 * x.size - 1 → halfOf x j ≤ pkM l j) (h : halfOf x (2 * x.size - 1) < 10) : pdN l x = 0 ∧ pdAt l x = (x.size : Int) - 1 ∧ pdErr l x = 21 := by
  have hb := badAt_none (h := halfOf x) (m := pkM l) (2 * x.size - 1) hle
  refine ⟨?_, ?_, ?_⟩
  · simp [pdN, rdN, h]
  · simp [pdAt, rdAt, hb, h]
  · simp [pdErr, rdErr, h]
theorem pd_good {l : Int} {x : ByteArray} (hle : ∀ j, j < 2 * x.size - 1 → halfOf x j ≤ pkM l j) (h : 10 ≤ halfOf x (2 * x.size - 1)) : pdN l x = sgnN (numOf (halfOf x) (2 * x.size - 1)) (halfOf x (2 * x.size - 1)) ∧ pdAt l x = 0 ∧ pdErr l x = 0 := by
  have hb := badAt_none (h := halfOf x) (m := pkM l) (2 * x.size - 1) hle
  have h' : ¬ halfOf x (2 * x.size - 1) < 10 := by omega
  refine ⟨?_, ?_, ?_⟩
  · simp [pdN, rdN, hb, eq_false h', sgnN]
  · simp [pdAt, rdAt, hb, eq_false h']
  · simp [pdErr, rdErr, hb, eq_false h']

end Go.Proofs.YtnaflaokhldfnaaDoor
namespace Go.Proofs.YtnaflaokhldfnaaDoor
set_option linter.unusedSimpArgs false
set_option linter.unusedVariables false
open Go.RowKit

end Go.Proofs.YtnaflaokhldfnaaDoor
namespace Go.Proofs.YtnaflaokhldfnaaDoor
set_option linter.unusedSimpArgs false
set_option linter.unusedVariables false
open Go.RowKit

theorem cellsB {a b : World} (h : Gr a b) (B : Nat) (hB : B ≤ a.heap.size) : (∀ k o, k < B → b.cell? ⟨k, o, none⟩ = a.cell? ⟨k, o, none⟩) ∧ (∀ k o, k < B → b.frozen? ⟨k, o, none⟩ = a.frozen? ⟨k, o, none⟩) :=
  ⟨fun k o hk => h.cells.1 k o (by omega), fun k o hk => h.cells.2 k o (by omega)⟩

theorem bg_sg2 (x : ByteArray) : (if 128 ≤ byteAt x 0 then bgB x 2 - 65536 else bgB x 2) = sgB x 1 := by
  simp only [bgB, sgB, Nat.zero_add, Nat.reduceAdd]; split <;> split <;> omega
theorem bg_sg4 (x : ByteArray) : (if 128 ≤ byteAt x 0 then bgB x 4 - 4294967296 else bgB x 4) = sgB x 3 := by
  simp only [bgB, sgB, Nat.zero_add, Nat.reduceAdd]; split <;> split <;> omega

end Go.Proofs.YtnaflaokhldfnaaDoor
namespace Go.Proofs.YtnaflaokhldfnaaDoor
set_option linter.unusedSimpArgs false
set_option linter.unusedVariables false
open Go.RowKit

theorem byteAt_str (xs : List Int) (i : Nat) (h : i < xs.length) (hb : 0 ≤ xs.getD i 0 ∧ xs.getD i 0 ≤ 255) : byteAt (strOfNums xs) i = xs.getD i 0 := by
  unfold byteAt
  rw [strOfNums_data, List.getD_eq_getElem?_getD, List.getElem?_map]
  rw [List.getD_eq_getElem?_getD] at hb ⊢
  rw [List.getElem?_eq_getElem h] at hb ⊢
  simp only [Option.map_some, Option.getD_some] at hb ⊢
  rw [UInt8.toNat_ofNat']
  omega
theorem str_size (xs : List Int) : (strOfNums xs).size = xs.length := by
  show Array.size _ = _
  simp
theorem sizeI_pos {k l s : Int} (h : typeErr k l s = 0) (hk : k ≠ 4) : 1 ≤ sizeI k l ∧ sizeI k l ≤ 256 := by
  obtain ⟨a, b, c, d, e⟩ := typeErr_len h hk
  unfold sizeI
  repeat' split <;> omega

/-- An amount's digits make the amount. -/
theorem numOf_dig (a : Int) (h0 : 0 ≤ a) : ∀ n m : Nat, a < 10 ^ (n + m) → numOf (fun j => dig a (n + m - 1 - j)) n = a / 10 ^ m
  | 0, m, h => by
    simp only [numOf]
    rw [Nat.zero_add] at h
    exact (Int.ediv_eq_zero_of_lt h0 h).symm
  | n + 1, m, h => by
    have h2 := numOf_dig a h0 n (m + 1) (by rw [show n + (m + 1) = n + 1 + m by omega]; exact h)
    rw [numOf]
    rw [show (fun j => dig a (n + 1 + m - 1 - j)) = (fun j => dig a (n + (m + 1) - 1 - j)) from funext fun j => by congr 1; omega, h2]
    show 10 * (a / 10 ^ (m + 1)) + dig a (n + 1 + m - 1 - n) = a / 10 ^ m
    rw [show n + 1 + m - 1 - n = m by omega, ← div_step]
    unfold dig
    omega
theorem numOf_ext {f g : Nat → Int} : ∀ n, (∀ i, i < n → f i = g i) → numOf f n = numOf g n
  | 0, _ => rfl
  | n + 1, h => by rw [numOf, numOf, numOf_ext n (fun i hi => h i (by omega)), h n (by omega)]
theorem badAt_ok {h m : Nat → Int} : ∀ n, badAt h m n = none → ∀ i, i < n → h i ≤ m i
  | 0, _ => fun i hi => by omega
  | n + 1, hb => by
    rw [badAt] at hb
    cases e : badAt h m n with
    | some i => rw [e] at hb; simp at hb
    | none =>
      rw [e] at hb
      simp only at hb
      intro i hi
      by_cases g : i = n
      · subst g
        by_cases c : m i < h i
        · rw [if_pos c] at hb; simp at hb
        · omega
      · exact badAt_ok n e i (by omega)
theorem absI_nn (n : Int) : 0 ≤ absI n := by unfold absI; split <;> omega
theorem abs_lt {n l : Int} (h : fitsB n l = true) : absI n < 10 ^ l.toNat := by
  unfold fitsB most p10 at h
  have := of_decide_eq_true h
  unfold absI; split <;> omega
theorem fits_of {n l : Int} (h : absI n < 10 ^ l.toNat) : fitsB n l = true := by
  unfold fitsB most p10
  refine decide_eq_true ?_
  unfold absI at h; split at h <;> omega
theorem back_sign (n : Int) : (if isNegB (signI n) then -(absI n) else absI n) = n := by
  unfold signI absI
  by_cases e : n < 0
  · rw [if_pos e, if_pos e, if_pos (by decide)]; omega
  · rw [if_neg e, if_neg e, if_neg (by decide)]
theorem signI_ge (n : Int) : ¬ signI n < 10 := by unfold signI; split <;> omega
theorem signI_b2 (n : Int) : 13 ≤ signI n ∧ signI n ≤ 15 := by unfold signI; split <;> omega

/-- Zoned bytes, back. -/
theorem zoned_back (n : Int) (L : Nat) (hL : 1 ≤ L) (h : absI n < 10 ^ L) : zdErr (strOfNums (znB n L)) = 0 ∧ zdN (strOfNums (znB n L)) = n := by
  have hlen : (znB n L).length = L := by unfold znB; exact fl_length _ _
  have hsz : (strOfNums (znB n L)).size = L := by rw [str_size, hlen]
  have hb : ∀ j, j < L → byteAt (strOfNums (znB n L)) j = if j = L - 1 then 16 * signI n + dig (absI n) 0 else 240 + dig (absI n) (L - 1 - j) := by
    intro j hj
    have e : (znB n L).getD j 0 = if j = L - 1 then 16 * signI n + dig (absI n) 0 else 240 + dig (absI n) (L - 1 - j) := by unfold znB; exact fl_getD hj
    rw [byteAt_str _ _ (by omega) (by
      rw [e]
      have := signI_b2 n
      have d1 := dig_bd (absI n) 0
      have d2 := dig_bd (absI n) (L - 1 - j)
      split <;> omega), e]
  have hz : ∀ j, j < L → znH (strOfNums (znB n L)) j = dig (absI n) (L - 1 - j) := by
    intro j hj
    unfold znH
    rw [hb j hj]
    have d1 := dig_bd (absI n) 0
    have d2 := dig_bd (absI n) (L - 1 - j)
    split
    · rename_i e; rw [show L - 1 - j = 0 by omega]; omega
    · omega
  have hs : byteAt (strOfNums (znB n L)) (L - 1) / 16 = signI n := by
    rw [hb _ (by omega), if_pos rfl]
    have d1 := dig_bd (absI n) 0
    omega
  have hbad : badAt (znH (strOfNums (znB n L))) (fun _ => 9) L = none := badAt_none L fun i hi => by
    rw [hz i hi]; exact (dig_bd _ _).2
  have hnum : numOf (znH (strOfNums (znB n L))) L = absI n := by
    rw [numOf_ext L hz]
    have := numOf_dig (absI n) (absI_nn n) L 0 (by simpa using h)
    simpa using this
  constructor
  · unfold zdErr rdErr; rw [hsz, hs, hbad, if_neg (by have := signI_ge n; simp; omega)]
  · unfold zdN rdN; rw [hsz, hs, hbad, if_neg (by have := signI_ge n; simp; omega), hnum]; exact back_sign n

/-- Packed bytes, back. -/
theorem packed_back (n l : Int) (S : Nat) (hl : 1 ≤ l) (hS : (S : Int) = l / 2 + 1) (h : absI n < 10 ^ l.toNat) : pdErr l (strOfNums (pkB n S)) = 0 ∧ pdN l (strOfNums (pkB n S)) = n := by
  have hlen : (pkB n S).length = S := by unfold pkB; exact fl_length _ _
  have hsz : (strOfNums (pkB n S)).size = S := by rw [str_size, hlen]
  have hS1 : 1 ≤ S := by omega
  have hH : ∀ j, j < 2 * S → (pkH n S).getD j 0 = if j = 2 * S - 1 then signI n else dig (absI n) (2 * S - 2 - j) := fun j hj => by unfold pkH; exact fl_getD hj
  have hHb : ∀ j, j < 2 * S → 0 ≤ (pkH n S).getD j 0 ∧ (pkH n S).getD j 0 ≤ 15 := by
    intro j hj
    rw [hH j hj]
    have := signI_b2 n
    have d := dig_bd (absI n) (2 * S - 2 - j)
    split <;> omega
  have hb : ∀ i, i < S → byteAt (strOfNums (pkB n S)) i = 16 * (pkH n S).getD (2 * i) 0 + (pkH n S).getD (2 * i + 1) 0 := by
    intro i hi
    have e : (pkB n S).getD i 0 = 16 * (pkH n S).getD (2 * i) 0 + (pkH n S).getD (2 * i + 1) 0 := by unfold pkB; exact fl_getD hi
    have b1 := hHb (2 * i) (by omega)
    have b2 := hHb (2 * i + 1) (by omega)
    rw [byteAt_str _ _ (by omega) (by rw [e]; omega), e]
  have hh : ∀ j, j < 2 * S → halfOf (strOfNums (pkB n S)) j = if j = 2 * S - 1 then signI n else dig (absI n) (2 * S - 2 - j) := by
    intro j hj
    have b1 := hHb (2 * (j / 2)) (by omega)
    have b2 := hHb (2 * (j / 2) + 1) (by omega)
    rw [← hH j hj]
    unfold halfOf
    rw [hb (j / 2) (by omega)]
    by_cases e : j % 2 = 0
    · rw [if_pos e, show 2 * (j / 2) = j by omega] at *
      omega
    · rw [if_neg e, show 2 * (j / 2) + 1 = j by omega] at *
      omega
  have hsg : halfOf (strOfNums (pkB n S)) (2 * S - 1) = signI n := by rw [hh _ (by omega), if_pos rfl]
  have hdg : ∀ j, j < 2 * S - 1 → halfOf (strOfNums (pkB n S)) j = dig (absI n) (2 * S - 1 - 1 - j) := by
    intro j hj
    rw [hh j (by omega), if_neg (by omega), show 2 * S - 2 - j = 2 * S - 1 - 1 - j by omega]
  have hle : l.toNat ≤ 2 * S - 1 := by omega
  have hpow : absI n < 10 ^ (2 * S - 1) := by
    have g1 : (10 : Nat) ^ l.toNat ≤ 10 ^ (2 * S - 1) := Nat.pow_le_pow_right (by omega) hle
    have g2 := Int.ofNat_le.2 g1
    rw [Int.natCast_pow, Int.natCast_pow] at g2
    exact Int.lt_of_lt_of_le h g2
  have hbad : badAt (halfOf (strOfNums (pkB n S))) (pkM l) (2 * S - 1) = none := badAt_none _ fun i hi => by
    rw [hdg i hi]
    unfold pkM
    split
    · rename_i e
      obtain ⟨rfl, e⟩ := e
      have e2 : 2 * S - 1 - 1 - 0 = l.toNat := by omega
      rw [e2]
      unfold dig
      rw [Int.ediv_eq_zero_of_lt (absI_nn n) h]
      decide
    · exact (dig_bd _ _).2
  have hnum : numOf (halfOf (strOfNums (pkB n S))) (2 * S - 1) = absI n := by
    rw [numOf_ext _ hdg]
    have := numOf_dig (absI n) (absI_nn n) (2 * S - 1) 0 (by simpa using hpow)
    simpa using this
  constructor
  · unfold pdErr rdErr; rw [hsz, hsg, hbad, if_neg (by have := signI_ge n; simp; omega)]
  · unfold pdN rdN; rw [hsz, hsg, hbad, if_neg (by have := signI_ge n; simp; omega), hnum]; exact back_sign n

theorem bn_byte (n : Int) (S : Nat) (i : Nat) (hi : i < S) : byteAt (strOfNums (bnB n S)) i = n / 2 ^ (8 * (S - 1 - i)) % 256 := by
  have hlen : (bnB n S).length = S := by unfold bnB; exact fl_length _ _
  have e : (bnB n S).getD i 0 = n / 2 ^ (8 * (S - 1 - i)) % 256 := by unfold bnB; exact fl_getD hi
  rw [byteAt_str _ _ (by omega) (by rw [e]; omega), e]
/-- Binary bytes, back. -/
theorem binary_back2 (n : Int) (h : -32768 ≤ n ∧ n ≤ 32767) : sgB (strOfNums (bnB n 2)) 1 = n := by
  have b0 := bn_byte n 2 0 (by omega)
  have b1 := bn_byte n 2 1 (by omega)
  simp only [show 8 * (2 - 1 - 0) = 8 by rfl, show 8 * (2 - 1 - 1) = 0 by rfl] at b0 b1
  rw [show (2 : Int) ^ 8 = 256 by decide] at b0
  rw [show (2 : Int) ^ 0 = 1 by decide] at b1
  show sgB (strOfNums (bnB n 2)) 0 * 256 + byteAt (strOfNums (bnB n 2)) 1 = n
  rw [b1]
  unfold sgB
  rw [b0]
  split <;> omega
theorem binary_back4 (n : Int) (h : -2147483648 ≤ n ∧ n ≤ 2147483647) : sgB (strOfNums (bnB n 4)) 3 = n := by
  have b0 := bn_byte n 4 0 (by omega)
  have b1 := bn_byte n 4 1 (by omega)
  have b2 := bn_byte n 4 2 (by omega)
  have b3 := bn_byte n 4 3 (by omega)
  simp only [show 8 * (4 - 1 - 0) = 24 by rfl, show 8 * (4 - 1 - 1) = 16 by rfl, show 8 * (4 - 1 - 2) = 8 by rfl, show 8 * (4 - 1 - 3) = 0 by rfl] at b0 b1 b2 b3
  rw [show (2 : Int) ^ 24 = 16777216 by decide] at b0
  rw [show (2 : Int) ^ 16 = 65536 by decide] at b1
  rw [show (2 : Int) ^ 8 = 256 by decide] at b2
  rw [show (2 : Int) ^ 0 = 1 by decide] at b3
  show ((sgB (strOfNums (bnB n 4)) 0 * 256 + byteAt (strOfNums (bnB n 4)) 1) * 256 + byteAt (strOfNums (bnB n 4)) 2) * 256 + byteAt (strOfNums (bnB n 4)) 3 = n
  rw [b1, b2, b3]
  unfold sgB
  rw [b0]
  split <;> omega

theorem rd_fits {h m : Nat → Int} {n : Nat} {hs : Int} {l : Int} (h0 : ∀ i, i < n → 0 ≤ h i) (hm : ∀ i, m i ≤ 9) (he : rdErr h m n hs = 0) (hp : numOf h n < 10 ^ l.toNat) : fitsB (rdN h m n hs) l = true := by
  unfold rdErr at he
  by_cases c : badAt h m n ≠ none ∨ hs < 10
  · rw [if_pos c] at he; exact absurd he (by decide)
  · unfold rdN
    rw [if_neg c]
    have hb : badAt h m n = none := by
      by_cases g : badAt h m n = none
      · exact g
      · exact absurd (Or.inl g) c
    have hd := badAt_ok n hb
    have := numOf_bd h n (fun i hi => ⟨h0 i hi, Int.le_trans (hd i hi) (hm i)⟩)
    refine fits_of ?_
    unfold absI
    split <;> split <;> omega
/-- What is read is right. -/
theorem dec_right {k l s : Int} {x : ByteArray} (h : decErr k l s x = 0) : valErr k l s (decN k l s x) (decS k l s x) = 0 := by
  have hp : preErr k l s x = 0 := by
    by_cases e : preErr k l s x = 0
    · exact e
    · unfold decErr at h; rw [if_pos e] at h; exact absurd h e
  have hp2 := hp
  unfold preErr at hp2
  have ht : typeErr k l s = 0 := by
    by_cases e : typeErr k l s = 0
    · exact e
    · rw [if_pos e] at hp2; exact absurd hp2 e
  rw [if_neg (by simp [ht])] at hp2
  have h4 : k ≠ 4 := by intro e; rw [if_pos e] at hp2; exact absurd hp2 (by decide)
  rw [if_neg h4] at hp2
  have hsz : (x.size : Int) = sizeI k l := by
    by_cases e : (x.size : Int) = sizeI k l
    · exact e
    · rw [if_pos e] at hp2; exact absurd hp2 (by decide)
  obtain ⟨l0, l1, l2, k0, k1⟩ := typeErr_len ht h4
  unfold decErr at h
  rw [if_neg (by simp [hp])] at h
  unfold decN decS
  rw [if_neg (by simp [hp])]
  unfold valErr
  rw [if_neg (by simp [ht]), if_neg h4]
  by_cases e0 : k = 0
  · subst e0
    have hz : sizeI 0 l = l := by unfold sizeI; simp
    rw [hz] at hsz
    simp [hp, first0, pick, hsz]
  rw [if_neg e0]
  have hS : (if preErr k l s x = 0 ∧ k = 0 then x else (⟨#[]⟩ : ByteArray)).size = 0 := by rw [if_neg (by simp [e0])]; rfl
  rw [if_neg (by rw [hS]; simp)]
  have hl15 := l2 e0
  suffices hf : fitsB (if k = 1 then pdN l x else if k = 2 then zdN x else if k = 3 then sbN l x else 0) l = true by rw [if_pos hf]
  by_cases e1 : k = 1
  · rw [if_pos e1] at h ⊢
    subst e1
    have hz : sizeI 1 l = l / 2 + 1 := by unfold sizeI; simp
    rw [hz] at hsz
    unfold pdErr at h
    unfold pdN
    refine rd_fits (fun i _ => halfOf_bd x i) (pkM_le l) h ?_
    have hb : badAt (halfOf x) (pkM l) (2 * x.size - 1) = none := by
      unfold rdErr at h
      by_cases c : badAt (halfOf x) (pkM l) (2 * x.size - 1) = none
      · exact c
      · rw [if_pos (Or.inl c)] at h; exact absurd h (by decide)
    have hd := badAt_ok _ hb
    by_cases ev : l % 2 = 0
    · -- the first half byte is 0
      have hn : 2 * x.size - 1 = l.toNat + 1 := by omega
      have h00 : halfOf x 0 = 0 := by
        have a := hd 0 (by omega)
        have b := halfOf_bd x 0
        unfold pkM at a
        rw [if_pos ⟨rfl, ev⟩] at a
        omega
      have key : ∀ n, (∀ i, i < n + 1 → 0 ≤ halfOf x i ∧ halfOf x i ≤ 9) → numOf (halfOf x) (n + 1) < 10 ^ n := by
        intro n
        induction n with
        | zero => intro _; simp [numOf, h00]
        | succ n ih =>
          intro hh
          have i1 := ih (fun i hi => hh i (by omega))
          have i2 := hh (n + 1) (by omega)
          rw [numOf, Int.pow_succ]
          omega
      rw [hn]
      exact key _ (fun i hi => ⟨halfOf_bd x i, Int.le_trans (hd i (by omega)) (pkM_le l i)⟩)
    · have hn : 2 * x.size - 1 = l.toNat := by omega
      rw [hn]
      exact (numOf_bd (halfOf x) l.toNat (fun i hi => ⟨halfOf_bd x i, Int.le_trans (hd i (by omega)) (pkM_le l i)⟩)).2
  rw [if_neg e1] at h ⊢
  by_cases e2 : k = 2
  · rw [if_pos e2] at h ⊢
    subst e2
    have hz : sizeI 2 l = l := by unfold sizeI; simp
    rw [hz] at hsz
    unfold zdErr at h
    unfold zdN
    have h0 : ∀ i, 0 ≤ znH x i := fun i => by have := byteAt_bd x i; unfold znH; omega
    refine rd_fits (fun i _ => h0 i) (fun _ => Int.le_refl _) h ?_
    have hb : badAt (znH x) (fun _ => 9) x.size = none := by
      unfold rdErr at h
      by_cases c : badAt (znH x) (fun _ => 9) x.size = none
      · exact c
      · rw [if_pos (Or.inl c)] at h; exact absurd h (by decide)
    have hd := badAt_ok _ hb
    rw [show x.size = l.toNat by omega] at hd ⊢
    exact (numOf_bd (znH x) l.toNat (fun i hi => ⟨h0 i, hd i hi⟩)).2
  rw [if_neg e2] at h ⊢
  have e3 : k = 3 := by omega
  rw [if_pos e3] at h ⊢
  unfold sbErr at h
  unfold sbN
  by_cases c : fitsB (sgB x (x.size - 1)) l = true
  · rw [if_pos c]; exact c
  · rw [if_neg c] at h; exact absurd h (by decide)
/-- A right value's bytes are read as the value. -/
theorem enc_back {k l s n : Int} {y : ByteArray} (h : valErr k l s n y = 0) : decErr k l s (strB k l n y) = 0 ∧ decN k l s (strB k l n y) = n ∧ decS k l s (strB k l n y) = y := by
  obtain ⟨ht, h4, -, -, -, -⟩ := valErr_ok h
  obtain ⟨l0, l1, l2, k0, k1⟩ := typeErr_len ht h4
  unfold valErr at h
  rw [if_neg (by simp [ht]), if_neg h4] at h
  by_cases e0 : k = 0
  · subst e0
    rw [if_pos rfl] at h
    simp only [first0, pick] at h
    have hn : n = 0 := by
      by_cases c : n = 0
      · exact c
      · simp [c] at h
    have hy : (y.size : Int) = l := by
      by_cases c : (y.size : Int) = l
      · exact c
      · simp [hn, c] at h
    have hb : strB 0 l n y = y := by unfold strB; simp
    have hz : sizeI 0 l = l := by unfold sizeI; simp
    have hp : preErr 0 l s y = 0 := by unfold preErr; rw [if_neg (by simp [ht]), if_neg h4, hz, if_neg (by simp [hy])]
    rw [hb]
    refine ⟨?_, ?_, ?_⟩
    · unfold decErr; rw [if_neg (by simp [hp])]; simp
    · unfold decN; rw [if_neg (by simp [hp])]; simp [hn]
    · unfold decS; rw [if_pos ⟨hp, rfl⟩]
  rw [if_neg e0] at h
  have hl15 := l2 e0
  have hy : y.size = 0 := by
    by_cases c : y.size = 0
    · exact c
    · rw [if_pos c] at h; exact absurd h (by decide)
  rw [if_neg (by simp [hy])] at h
  have hf : fitsB n l = true := by
    by_cases c : fitsB n l = true
    · exact c
    · rw [if_neg c] at h; exact absurd h (by decide)
  have hy0 : y = ⟨#[]⟩ := by
    obtain ⟨⟨z⟩⟩ := y
    simp [ByteArray.size] at hy
    rw [hy]
  have ha := abs_lt hf
  have hpre : ∀ b : ByteArray, (b.size : Int) = sizeI k l → preErr k l s b = 0 := fun b hb => by unfold preErr; rw [if_neg (by simp [ht]), if_neg h4, if_neg (by simp [hb])]
  have hS : ∀ b, decS k l s b = y := fun b => by unfold decS; rw [if_neg (by simp [e0]), hy0]
  by_cases e1 : k = 1
  · subst e1
    have hz : sizeI 1 l = l / 2 + 1 := by unfold sizeI; simp
    have hb : strB 1 l n y = strOfNums (pkB n (sizeI 1 l).toNat) := by unfold strB; rw [if_pos rfl]
    have hs : ((strOfNums (pkB n (sizeI 1 l).toNat)).size : Int) = sizeI 1 l := by rw [str_size]; unfold pkB; rw [fl_length]; omega
    obtain ⟨p1, p2⟩ := packed_back n l (sizeI 1 l).toNat l0 (by omega) ha
    rw [hb]
    refine ⟨?_, ?_, hS _⟩
    · unfold decErr; rw [if_neg (by simp [hpre _ hs]), if_pos rfl]; exact p1
    · unfold decN; rw [if_neg (by simp [hpre _ hs]), if_pos rfl]; exact p2
  by_cases e2 : k = 2
  · subst e2
    have hz : sizeI 2 l = l := by unfold sizeI; simp
    have hb : strB 2 l n y = strOfNums (znB n l.toNat) := by unfold strB; simp
    have hs : ((strOfNums (znB n l.toNat)).size : Int) = sizeI 2 l := by rw [str_size]; unfold znB; rw [fl_length]; omega
    obtain ⟨p1, p2⟩ := zoned_back n l.toNat (by omega) ha
    rw [hb]
    refine ⟨?_, ?_, hS _⟩
    · unfold decErr; rw [if_neg (by simp [hpre _ hs]), if_neg (by decide), if_pos rfl]; exact p1
    · unfold decN; rw [if_neg (by simp [hpre _ hs]), if_neg (by decide), if_pos rfl]; exact p2
  have e3 : k = 3 := by omega
  subst e3
  have hb : strB 3 l n y = strOfNums (bnB n (sizeI 3 l).toNat) := by unfold strB; simp
  have h3 : typeErr 3 l s = 0 := ht
  have hl : l = 4 ∨ l = 9 := by
    have h' : rightLen 3 l = true := by unfold typeErr at h3; by_cases e : rightLen 3 l <;> simp_all
    unfold rightLen at h'
    simp at h'
    exact h'
  have hfb := hf
  unfold fitsB most p10 at hfb
  have hfb := of_decide_eq_true hfb
  rw [hb]
  rcases hl with rfl | rfl
  · have hz : sizeI 3 4 = 2 := by decide
    rw [show (4 : Int).toNat = 4 by rfl, show (10 : Int) ^ 4 = 10000 by decide] at hfb
    have p := binary_back2 n (by omega)
    rw [hz]
    have hs : (strOfNums (bnB n (2 : Int).toNat)).size = 2 := by rw [str_size]; unfold bnB; rw [fl_length]; rfl
    have hpr := hpre (strOfNums (bnB n (2 : Int).toNat)) (by rw [hs, hz]; rfl)
    have p' : sgB (strOfNums (bnB n (2 : Int).toNat)) (2 - 1) = n := p
    refine ⟨?_, ?_, hS _⟩
    · unfold decErr; rw [if_neg (by rw [hpr]; simp), if_neg (by decide), if_neg (by decide), if_pos rfl]; unfold sbErr; rw [hs, p', if_pos hf]
    · unfold decN; rw [if_neg (by rw [hpr]; simp), if_neg (by decide), if_neg (by decide), if_pos rfl]; unfold sbN; rw [hs, p', if_pos hf]
  · have hz : sizeI 3 9 = 4 := by decide
    rw [show (9 : Int).toNat = 9 by rfl, show (10 : Int) ^ 9 = 1000000000 by decide] at hfb
    have p := binary_back4 n (by omega)
    rw [hz]
    have hs : (strOfNums (bnB n (4 : Int).toNat)).size = 4 := by rw [str_size]; unfold bnB; rw [fl_length]; rfl
    have hpr := hpre (strOfNums (bnB n (4 : Int).toNat)) (by rw [hs, hz]; rfl)
    have p' : sgB (strOfNums (bnB n (4 : Int).toNat)) (4 - 1) = n := p
    refine ⟨?_, ?_, hS _⟩
    · unfold decErr; rw [if_neg (by rw [hpr]; simp), if_neg (by decide), if_neg (by decide), if_pos rfl]; unfold sbErr; rw [hs, p', if_pos hf]
    · unfold decN; rw [if_neg (by rw [hpr]; simp), if_neg (by decide), if_neg (by decide), if_pos rfl]; unfold sbN; rw [hs, p', if_pos hf]
end Go.Proofs.YtnaflaokhldfnaaDoor
