/- Texts of the walks, merged. -/
import Derived.Test.YtnaflaokhldfnaaGreatQ15
import Derived.Deep.AppendLies
namespace Go.Proofs.YtnaflaokhldfnaaGreat
set_option linter.unusedSimpArgs false
set_option linter.unusedVariables false
open Go.RowKit

def znH (x : ByteArray) (i : Nat) : Int := byteAt x i % 16
theorem info92' : (Tryz.prog.info? 60).map (fun i => (i.zero, i.size, i.bytes)) = some (some (.agg #[.int .u8 0, .int .u8 0, .int .i64 0]), 3, 16) := info92

set_option maxHeartbeats 4000000 in
set_option maxRecDepth 100000 in
theorem zonedHalves_any (x : ByteArray) (S : Nat) (hS : x.size = S) (hS1 : 1 ≤ S) (hS2 : S ≤ 200) (w : World) :
    Calls Tryz.prog 27 #[.string x] w fun e w' => ∃ g cap, e = .returned (.tuple #[.slice (some ⟨g, 0, none⟩) S cap, .agg #[.int .u8 (byteAt x (S - 1) / 16), .int .u8 0, .int .i64 ((S : Int) - 1)]]) ∧
      (∀ i, i < S → w'.cell? ⟨g, i * 3, none⟩ = some (.int .u8 (znH x i)) ∧ w'.cell? ⟨g, i * 3 + 1, none⟩ = some (.int .u8 9) ∧ w'.cell? ⟨g, i * 3 + 2, none⟩ = some (.int .i64 i)) ∧ g < w'.heap.size ∧ Gr w w' := by
  obtain ⟨i0, hi, hz0, hz1, hz2⟩ := info_parts info92
  obtain ⟨M, rfl⟩ : ∃ M, S = M + 1 := ⟨S - 1, by omega⟩
  go_enter Tryz.func27, Tryz.ntmps27
  go_wp2
  go_loopw [4, 9] (fun v i wr => ∃ q : Nat, q ≤ M + 1 ∧ i = .int .i64 q ∧ Hid (wr.ownsRow (w.heap.size + 1) 60 3 v q (hcells (znH x) (fun _ => 9) (fun i => (i : Int)) q)) ∧ Hid (Below (w.heap.size + 1) (w.alloc (.cells #[.int .u8 0, .int .u8 0, .int .i64 0] 60)) wr)) (fun _ i _ => M + 1 - (intOf i).toNat)
  case atStart => exact ⟨0, by omega, rfl, Lib.hid (World.ownsRow_nil _ _ _ _), Below.refl _ _⟩
  case round =>
    obtain ⟨q, hq, rfl, hO, hB⟩ := hrel
    have HS := Lib.hid hS
    by_cases hlt : q < M + 1
    · have hqs : q < x.size := by omega
      have hby := byteAt_eq x q hqs
      have hbb := byteAt_bd x q
      clear hS
      have hand := u8_and15 (byteAt x q) (by omega) (by omega)
      have hsz : w.heap.size < wr.heap.size := by have := hB.out.size; simp at this; omega
      go_wp2_with (at_builtin; refine wpList_append_lies _ rfl (.tmp 12) (.tmp 19) 58 rfl (w.heap.size + 1) 60 i0 _ 3 16 Tryz.underlying58 hi hz0 hz1 hz2 rfl (by omega) u4 q (hcells (znH x) (fun _ => 9) (fun i => (i : Int)) q) rfl (hO.out.alloc _) ⟨wr.heap.size, 0, none⟩ 1 1 [.int .u8 (byteAt x q % 16), .int .u8 9, .int .i64 q] rfl rfl (World.news_of_block (cs := #[.int .u8 (byteAt x q % 16), .int .u8 9, .int .i64 q]) (t := 60) (fr := (0, 0)) (heap_alloc_new wr _)) (by simp [Value.oneCell']) (by omega) (by unfold maxLen; omega) (by omega) (by simp; omega) (wr.heap.size + 1) (by simp) ?_; intro gg cap w1 hown1 hgrow hat hlt1)
      all_goals
        have hgz := Lib.hid hgrow
        have hoz := Lib.hid hown1
        clear hown1 hgrow hat
        go_wp2
        go_roundw
        case rel =>
          refine ⟨q + 1, by omega, by go_num, Lib.hid ?_, Lib.hid (hB.out.trans (((Below.refl _ wr).alloc (by omega) _).grown hgz.out (by simp; omega) (fun z hz => (World.ownsRow.lt hO.out z hz).1)))⟩
          rw [hcells_succ]
          exact hoz.out
        case measure => simp [intOf]; omega
    · have hqs := Lib.hid (show q = M + 1 by omega)
      have hO2 := hO.out
      rw [hqs.out] at hO2
      obtain ⟨g, cap, hv, hg1, hg2, hcap⟩ := own_form hO2 (by omega)
      subst hv
      have C := Lib.hid (fun j c hj hc => (World.ownsRow.cellAt hO2 (j * 3 + c) (by omega)).trans (hcells_get (znH x) (fun _ => 9) (fun i => (i : Int)) (M + 1) j c hj hc))
      have r0 : wr.cell? ⟨w.heap.size, 0, none⟩ = some (.int .u8 0) := keepc hB.out (by simp) (by first | (simp; done) | (simp [go_sem]; done))
      have r1 : wr.cell? ⟨w.heap.size, 1, none⟩ = some (.int .u8 0) := keepc hB.out (by simp) (by first | (simp; done) | (simp [go_sem]; done))
      have r2 : wr.cell? ⟨w.heap.size, 2, none⟩ = some (.int .i64 0) := keepc hB.out (by simp) (by first | (simp; done) | (simp [go_sem]; done))
      have q0 : wr.frozen? ⟨w.heap.size, 0, none⟩ = false := by rw [Below.frozen hB.out (p := ⟨w.heap.size, 0, none⟩) (by simp)] <;> first | (simp; done) | (simp [go_sem]; done)
      have q1 : wr.frozen? ⟨w.heap.size, 1, none⟩ = false := by rw [Below.frozen hB.out (p := ⟨w.heap.size, 1, none⟩) (by simp)] <;> first | (simp; done) | (simp [go_sem]; done)
      have q2 : wr.frozen? ⟨w.heap.size, 2, none⟩ = false := by rw [Below.frozen hB.out (p := ⟨w.heap.size, 2, none⟩) (by simp)] <;> first | (simp; done) | (simp [go_sem]; done)
      have hgw := Lib.hid (show Gr w wr from Gr.trans ((Gr.refl w).alloc _) (hB.out.mono (by simp)))
      have hbs : w.heap.size < wr.heap.size := by omega
      have hS3 : (0 : Int) ≤ M := by omega
      have hqs1 : M < x.size := by omega
      have hby := byteAt_eq x M hqs1
      have hbb := byteAt_bd x M
      have HO := Lib.hid hO2
      clear hO2
      go_wp2
      go_region
      go_wp2
      refine bodyPost_ret (v := .tuple #[.slice (some ⟨g, 0, none⟩) (M + 1) cap, .agg #[.int .u8 (byteAt x M / 16), .int .u8 0, .int .i64 M]]) ?_ rfl ⟨g, cap, by simp, ?_, ?_, ?_⟩
      · simp [results, Tryz.results27, go_sem, *]
      · intro i hi
        refine ⟨?_, ?_, ?_⟩
        · rw [World.cell?_drew, World.cell?_setCell_other _ _ _ _ (by simp <;> omega), World.cell?_setCell_other _ _ _ _ (by simp <;> omega), World.cell?_setCell_other _ _ _ _ (by simp <;> omega)]
          exact C.out i 0 hi (by omega)
        · rw [World.cell?_drew, World.cell?_setCell_other _ _ _ _ (by simp <;> omega), World.cell?_setCell_other _ _ _ _ (by simp <;> omega), World.cell?_setCell_other _ _ _ _ (by simp <;> omega)]
          exact C.out i 1 hi (by omega)
        · rw [World.cell?_drew, World.cell?_setCell_other _ _ _ _ (by simp <;> omega), World.cell?_setCell_other _ _ _ _ (by simp <;> omega), World.cell?_setCell_other _ _ _ _ (by simp <;> omega)]
          exact C.out i 2 hi (by omega)
      · simp; omega
      · exact by repeat (first | exact hgw.out | refine Gr.drew ?_ | refine Gr.setCell ?_ (by simp) _)

/-! ### binary -/
theorem or_low (n b : Int) (h0 : -36028797018963968 ≤ n) (h1 : n < 36028797018963968) (hb0 : 0 ≤ b) (hb : b < 256) : bits .or .i64 (n * 256) b = n * 256 + b := by
  have e1 : (BitVec.ofInt 64 (n * 256)).toNat = 2 ^ 8 * (n % 72057594037927936).toNat := by
    rw [BitVec.toNat_ofInt]
    have : (n * 256 : Int) % ((2 ^ 64 : Nat) : Int) = 256 * (n % 72057594037927936) := by
      rw [show ((2 ^ 64 : Nat) : Int) = 18446744073709551616 by rfl]; omega
    rw [this]; omega
  have e2 : (BitVec.ofInt 64 b).toNat = b.toNat := by
    rw [BitVec.toNat_ofInt, show ((2 ^ 64 : Nat) : Int) = 18446744073709551616 by rfl]; omega
  unfold bits
  show IntKind.i64.wrap (((BitVec.ofInt 64 (n * 256) ||| BitVec.ofInt 64 b).toNat : Nat) : Int) = _
  rw [BitVec.toNat_or, e1, e2, ← Nat.two_pow_add_eq_or_of_lt (show b.toNat < 2 ^ 8 by omega), IntKind.wrap_i64]
  omega

/-- What the first k + 1 bytes say, in the two's complement. -/
def sgB (x : ByteArray) : Nat → Int
  | 0 => if byteAt x 0 < 128 then byteAt x 0 else byteAt x 0 - 256
  | k + 1 => sgB x k * 256 + byteAt x (k + 1)
theorem sgB_bd (x : ByteArray) : ∀ k, k ≤ 3 → -2147483648 ≤ sgB x k ∧ sgB x k ≤ 2147483647
  | 0, _ => by have := byteAt_bd x 0; simp only [sgB, Nat.zero_add, Nat.reduceAdd]; split <;> omega
  | 1, _ => by have := byteAt_bd x 0; have := byteAt_bd x 1; simp only [sgB, Nat.zero_add, Nat.reduceAdd]; split <;> omega
  | 2, _ => by have := byteAt_bd x 0; have := byteAt_bd x 1; have := byteAt_bd x 2; simp only [sgB, Nat.zero_add, Nat.reduceAdd]; split <;> omega
  | 3, _ => by have := byteAt_bd x 0; have := byteAt_bd x 1; have := byteAt_bd x 2; have := byteAt_bd x 3; simp only [sgB, Nat.zero_add, Nat.reduceAdd]; split <;> omega

/-- What binary bytes are read as. -/
def sbN (l : Int) (x : ByteArray) : Int := if fitsB (sgB x (x.size - 1)) l then sgB x (x.size - 1) else 0
def sbErr (l : Int) (x : ByteArray) : Int := if fitsB (sgB x (x.size - 1)) l then 0 else 19

set_option maxHeartbeats 2000000 in
set_option maxRecDepth 100000 in
theorem readBinary_any (k l s : Int) (x : ByteArray) (hl : l ≤ 15) (S : Nat) (hS : x.size = S) (hS1 : 1 ≤ S) (hS2 : S ≤ 4) (w : World) :
    Calls Tryz.prog 28 #[.agg #[.int .i64 k, .int .i64 l, .int .i64 s], .string x] w fun e w' =>
      e = .returned (.tuple #[.agg #[.int .i64 (sbN l x), .string ⟨#[]⟩], .int .i64 0, .int .i64 (sbErr l x)]) ∧ Gr w w' := by
  obtain ⟨M, hM⟩ : ∃ M, S = M + 1 := ⟨S - 1, by omega⟩
  subst hM
  have h0s : 0 < x.size := by omega
  have hby := byteAt_eq x 0 h0s
  have hbb := byteAt_bd x 0
  have hi8 : IntKind.i8.wrap (byteAt x 0) = sgB x 0 := by
    have e : IntKind.i8.wrap (byteAt x 0) = if byteAt x 0 % 256 ≥ 128 then byteAt x 0 % 256 - 256 else byteAt x 0 % 256 := by
      simp [IntKind.wrap, IntKind.bits, IntKind.signed]
    rw [e]; unfold sgB; split <;> split <;> omega
  have hw8 : wrap64 (sgB x 0) = sgB x 0 := IntWalk.wrap64_in _ (by have := sgB_bd x 0 (by omega); omega)
  go_enter Tryz.func28, Tryz.ntmps28
  go_wp2
  have HS := Lib.hid hS
  clear hS
  go_loop [7, 16] (fun v i => ∃ q : Nat, q ≤ M ∧ i = .int .i64 q ∧ v = .int .i64 (sgB x q)) (fun _ i => M - (intOf i).toNat)
  case atStart => exact ⟨0, by omega, rfl, by rw [hw8]⟩
  case round =>
    obtain ⟨q, hq, rfl, rfl⟩ := hrel
    have hsb := sgB_bd x q (by omega)
    by_cases hlt : q < M
    · have hq1 : q + 1 < x.size := by have := HS.out; omega
      have hby1 := byteAt_eq x (q + 1) hq1
      have hbb1 := byteAt_bd x (q + 1)
      obtain ⟨v, hv⟩ : ∃ v, sgB x q = v := ⟨_, rfl⟩
      rw [hv] at hsb ⊢
      have HV := Lib.hid hv
      clear hv
      have hor := or_low v (byteAt x (q + 1)) (by omega) (by omega) (by omega) (by omega)
      go_wp2
      go_round
      case rel => exact ⟨q + 1, by omega, by go_num, by rw [sgB, HV.out]⟩
      case measure => simp [intOf]; omega
    · have hqM := Lib.hid (show q = M by omega)
      have hN : fitsB (sgB x q) l = true → sbN l x = sgB x q ∧ sbErr l x = 0 := by
        intro h; unfold sbN sbErr; rw [HS.out, show M + 1 - 1 = q by have := hqM.out; omega, if_pos h, if_pos h]; exact ⟨rfl, rfl⟩
      have hE : fitsB (sgB x q) l = false → sbN l x = 0 ∧ sbErr l x = 19 := by
        intro h; unfold sbN sbErr; rw [HS.out, show M + 1 - 1 = q by have := hqM.out; omega, h]; exact ⟨rfl, rfl⟩
      have HN := Lib.hid hN
      have HE := Lib.hid hE
      clear hN hE
      by_cases hft : fitsB (sgB x q) l = true
      · go_wp2_with (go_at_call 53; refine (fits_any _ _ _ _ (by omega) _).mono ?_; rintro e w1 ⟨rfl, hb⟩; obtain ⟨hc, hf⟩ := hb.cells; have hz : w.heap.size + 1 < w1.heap.size := (by have h := hb.size; (try simp at h); omega); have hz0 : w.heap.size < w1.heap.size := by omega)
        refine bodyPost_ret (v := .tuple #[.agg #[.int .i64 (sgB x q), .string ⟨#[]⟩], .int .i64 0, .int .i64 0]) (by simp [results, Tryz.results28, go_sem, *]) rfl ⟨by rw [(HN.out hft).1, (HN.out hft).2], (by repeat (first | (with_reducible exact Gr.refl _) | (with_reducible assumption) | (with_reducible refine Gr.alloc ?_ _) | (with_reducible refine Gr.drew ?_) | (with_reducible refine Gr.drewN ?_ _) | (with_reducible refine Gr.setCell ?_ (by simp <;> omega) _) | (with_reducible refine Gr.trans ?_ (by with_reducible assumption)) | exact Gr.refl _ | assumption | refine Gr.alloc ?_ _ | refine Gr.drew ?_ | refine Gr.drewN ?_ _ | refine Gr.setCell ?_ (by simp <;> omega) _ | refine Gr.trans ?_ (by assumption)))⟩
      · have hff : fitsB (sgB x q) l = false := by simpa using hft
        clear hft
        go_wp2_with (go_at_call 53; refine (fits_any _ _ _ _ (by omega) _).mono ?_; rintro e w1 ⟨rfl, hb⟩; obtain ⟨hc, hf⟩ := hb.cells; have hz : w.heap.size + 1 < w1.heap.size := (by have h := hb.size; (try simp at h); omega); have hz0 : w.heap.size < w1.heap.size := by omega)
        refine bodyPost_ret (v := .tuple #[.agg #[.int .i64 0, .string ⟨#[]⟩], .int .i64 0, .int .i64 19]) (by simp [results, Tryz.results28, go_sem, *]) rfl ⟨by rw [(HE.out hff).1, (HE.out hff).2], (by repeat (first | (with_reducible exact Gr.refl _) | (with_reducible assumption) | (with_reducible refine Gr.alloc ?_ _) | (with_reducible refine Gr.drew ?_) | (with_reducible refine Gr.drewN ?_ _) | (with_reducible refine Gr.setCell ?_ (by simp <;> omega) _) | (with_reducible refine Gr.trans ?_ (by with_reducible assumption)) | exact Gr.refl _ | assumption | refine Gr.alloc ?_ _ | refine Gr.drew ?_ | refine Gr.drewN ?_ _ | refine Gr.setCell ?_ (by simp <;> omega) _ | refine Gr.trans ?_ (by assumption)))⟩

/-! ### Decode -/
def zdN (x : ByteArray) : Int := rdN (znH x) (fun _ => 9) x.size (byteAt x (x.size - 1) / 16)
def zdAt (x : ByteArray) : Int := rdAt (znH x) (fun _ => 9) (fun i => (i : Int)) x.size (byteAt x (x.size - 1) / 16) ((x.size : Int) - 1)
def zdErr (x : ByteArray) : Int := rdErr (znH x) (fun _ => 9) x.size (byteAt x (x.size - 1) / 16)
/-- The error of a type and of a number of bytes. -/
def preErr (k l s : Int) (x : ByteArray) : Int := if typeErr k l s ≠ 0 then typeErr k l s else if k = 4 then 17 else if (x.size : Int) ≠ sizeI k l then 18 else 0
def decN (k l s : Int) (x : ByteArray) : Int := if preErr k l s x ≠ 0 then 0 else if k = 1 then pdN l x else if k = 2 then zdN x else if k = 3 then sbN l x else 0
def decS (k l s : Int) (x : ByteArray) : ByteArray := if preErr k l s x = 0 ∧ k = 0 then x else ⟨#[]⟩
def decAt (k l s : Int) (x : ByteArray) : Int := if preErr k l s x ≠ 0 then 0 else if k = 1 then pdAt l x else if k = 2 then zdAt x else 0
def decErr (k l s : Int) (x : ByteArray) : Int := if preErr k l s x ≠ 0 then preErr k l s x else if k = 1 then pdErr l x else if k = 2 then zdErr x else if k = 3 then sbErr l x else 0

set_option maxHeartbeats 2000000 in
set_option maxRecDepth 100000 in
theorem Decode_any (k l s : Int) (x : ByteArray) (w : World) :
    Calls Tryz.prog 9 #[.agg #[.int .i64 k, .int .i64 l, .int .i64 s], .string x] w fun e w' =>
      e = .returned (.tuple #[.agg #[.int .i64 (decN k l s x), .string (decS k l s x)], .int .i64 (decAt k l s x), .int .i64 (decErr k l s x)]) ∧ Gr w w' := by
  by_cases he : first0 [typeErr k l s, pick (k == 4) 17] = 0
  · have hb0 : (first0 [typeErr k l s, pick (k == 4) 17] != 0) = false := by simp [he]
    have ht : typeErr k l s = 0 := by by_cases h : typeErr k l s = 0; exact h; simp [first0, h] at he
    have hk4 : k ≠ 4 := by intro h; subst h; simp [first0, pick, ht] at he
    obtain ⟨l0, l1, l2, kb0, kb1⟩ := typeErr_len ht hk4
    by_cases hx : (x.size : Int) = sizeI k l
    · have hp : preErr k l s x = 0 := by unfold preErr; rw [if_neg (by simp [ht]), if_neg hk4, if_neg (by simp [hx])]
      by_cases k1 : k = 1
      · subst k1
        exact (Decode_packed l s x ht hx w).mono fun e w' ⟨a, b⟩ => ⟨by rw [a]; simp [decN, decS, decAt, decErr, hp], b⟩
      · have l15 : k ≠ 0 → l ≤ 15 := l2
        have HT := Lib.hid ht
        have HP := Lib.hid hp
        have HX := Lib.hid hx
        have hxe : ((x.size : Int) != sizeI k l) = false := by simp [hx]
        by_cases k2 : k = 2
        · subst k2
          have hS : sizeI 2 l = l := by unfold sizeI; simp
          have hSb : 1 ≤ x.size ∧ x.size ≤ 15 := by have := l15 (by decide); omega
          have hf1 : (first0 [typeErr 2 l s, pick false 17] != 0) = false := hb0
          clear he hb0 ht hx hS hp l2 l15
          go_enter Tryz.func9, Tryz.ntmps9
          go_wp2_with (first
            | (go_at_call 23; refine (checkValued_any _ _ _ _).mono ?_; rintro e w1 ⟨rfl, hb⟩; obtain ⟨hc, hf⟩ := hb.cells; have hz : w.heap.size + 1 < w1.heap.size := (by have h := hb.size; (try simp at h); omega); have hz0 : w.heap.size < w1.heap.size := by omega)
            | (go_at_call 24; refine (sizeOf_any _ _ _ (by omega) (by omega) _).mono ?_; rintro e w1 ⟨rfl, hb⟩; obtain ⟨hc, hf⟩ := hb.cells; have hz : w.heap.size + 1 < w1.heap.size := (by have h := hb.size; (try simp at h); omega); have hz0 : w.heap.size < w1.heap.size := by omega)
            | (go_at_call 27; refine (zonedHalves_any x x.size rfl hSb.1 (by omega) _).mono ?_; rintro e w1 ⟨g, cap, rfl, hcs, hgl, hb⟩; have HCS := Lib.hid hcs; clear hcs; obtain ⟨hc, hf⟩ := hb.cells; have hz : w.heap.size + 1 < w1.heap.size := (by have h := hb.size; (try simp at h); omega); have hz0 : w.heap.size < w1.heap.size := by omega)
            | (go_at_call 25; refine (readDecimal_any _ _ _ (znH x) (fun _ => 9) (fun i => (i : Int)) _ _ _ (by omega) (fun i _ => ⟨by have := byteAt_bd x i; unfold znH; omega, Int.le_refl _⟩) _ hgl HCS.out).mono ?_; rintro e w1 ⟨rfl, hb⟩; obtain ⟨hc, hf⟩ := hb.cells; have hz : w.heap.size + 1 < w1.heap.size := (by have h := hb.size; (try simp at h); omega); have hz0 : w.heap.size < w1.heap.size := by omega))
          refine bodyPost_ret (v := .tuple #[.agg #[.int .i64 (zdN x), .string ⟨#[]⟩], .int .i64 (zdAt x), .int .i64 (zdErr x)]) (by simp [results, Tryz.results9, go_sem, *]; exact ⟨rfl, rfl, rfl⟩) rfl ⟨by simp [decN, decS, decAt, decErr, HP.out], (by repeat (first | (with_reducible exact Gr.refl _) | (with_reducible assumption) | (with_reducible refine Gr.alloc ?_ _) | (with_reducible refine Gr.drew ?_) | (with_reducible refine Gr.drewN ?_ _) | (with_reducible refine Gr.setCell ?_ (by simp <;> omega) _) | (with_reducible refine Gr.trans ?_ (by with_reducible assumption)) | exact Gr.refl _ | assumption | refine Gr.alloc ?_ _ | refine Gr.drew ?_ | refine Gr.drewN ?_ _ | refine Gr.setCell ?_ (by simp <;> omega) _ | refine Gr.trans ?_ (by assumption)))⟩
        · by_cases k3 : k = 3
          · subst k3
            have hl15 := l15 (by decide)
            have hS : 1 ≤ x.size ∧ x.size ≤ 4 := by unfold sizeI at hx; simp at hx; split at hx <;> omega
            have hf1 : (first0 [typeErr 3 l s, pick false 17] != 0) = false := hb0
            clear he hb0 ht hx hp l2 l15
            go_enter Tryz.func9, Tryz.ntmps9
            go_wp2_with (first
              | (go_at_call 23; refine (checkValued_any _ _ _ _).mono ?_; rintro e w1 ⟨rfl, hb⟩; obtain ⟨hc, hf⟩ := hb.cells; have hz : w.heap.size + 1 < w1.heap.size := (by have h := hb.size; (try simp at h); omega); have hz0 : w.heap.size < w1.heap.size := by omega)
              | (go_at_call 24; refine (sizeOf_any _ _ _ (by omega) (by omega) _).mono ?_; rintro e w1 ⟨rfl, hb⟩; obtain ⟨hc, hf⟩ := hb.cells; have hz : w.heap.size + 1 < w1.heap.size := (by have h := hb.size; (try simp at h); omega); have hz0 : w.heap.size < w1.heap.size := by omega)
              | (go_at_call 28; refine (readBinary_any _ _ _ x hl15 x.size rfl hS.1 hS.2 _).mono ?_; rintro e w1 ⟨rfl, hb⟩; obtain ⟨hc, hf⟩ := hb.cells; have hz : w.heap.size + 1 < w1.heap.size := (by have h := hb.size; (try simp at h); omega); have hz0 : w.heap.size < w1.heap.size := by omega))
            refine bodyPost_ret (v := .tuple #[.agg #[.int .i64 (sbN l x), .string ⟨#[]⟩], .int .i64 0, .int .i64 (sbErr l x)]) (by simp [results, Tryz.results9, go_sem, *]) rfl ⟨by simp [decN, decS, decAt, decErr, HP.out], (by repeat (first | (with_reducible exact Gr.refl _) | (with_reducible assumption) | (with_reducible refine Gr.alloc ?_ _) | (with_reducible refine Gr.drew ?_) | (with_reducible refine Gr.drewN ?_ _) | (with_reducible refine Gr.setCell ?_ (by simp <;> omega) _) | (with_reducible refine Gr.trans ?_ (by with_reducible assumption)) | exact Gr.refl _ | assumption | refine Gr.alloc ?_ _ | refine Gr.drew ?_ | refine Gr.drewN ?_ _ | refine Gr.setCell ?_ (by simp <;> omega) _ | refine Gr.trans ?_ (by assumption)))⟩
          · obtain rfl : k = 0 := by omega
            have hf1 : (first0 [typeErr 0 l s, pick false 17] != 0) = false := hb0
            clear he hb0 ht hx hp l2 l15
            go_enter Tryz.func9, Tryz.ntmps9
            go_wp2_with (first
              | (go_at_call 23; refine (checkValued_any _ _ _ _).mono ?_; rintro e w1 ⟨rfl, hb⟩; obtain ⟨hc, hf⟩ := hb.cells; have hz : w.heap.size + 1 < w1.heap.size := (by have h := hb.size; (try simp at h); omega); have hz0 : w.heap.size < w1.heap.size := by omega)
              | (go_at_call 24; refine (sizeOf_any _ _ _ (by omega) (by omega) _).mono ?_; rintro e w1 ⟨rfl, hb⟩; obtain ⟨hc, hf⟩ := hb.cells; have hz : w.heap.size + 1 < w1.heap.size := (by have h := hb.size; (try simp at h); omega); have hz0 : w.heap.size < w1.heap.size := by omega))
            refine bodyPost_ret (v := .tuple #[.agg #[.int .i64 0, .string x], .int .i64 0, .int .i64 0]) (by simp [results, Tryz.results9, go_sem, *]) rfl ⟨by simp [decN, decS, decAt, decErr, HP.out], (by repeat (first | (with_reducible exact Gr.refl _) | (with_reducible assumption) | (with_reducible refine Gr.alloc ?_ _) | (with_reducible refine Gr.drew ?_) | (with_reducible refine Gr.drewN ?_ _) | (with_reducible refine Gr.setCell ?_ (by simp <;> omega) _) | (with_reducible refine Gr.trans ?_ (by with_reducible assumption)) | exact Gr.refl _ | assumption | refine Gr.alloc ?_ _ | refine Gr.drew ?_ | refine Gr.drewN ?_ _ | refine Gr.setCell ?_ (by simp <;> omega) _ | refine Gr.trans ?_ (by assumption)))⟩
    · have hp : preErr k l s x = 18 := by unfold preErr; rw [if_neg (by simp [ht]), if_neg hk4, if_pos hx]
      have HP := Lib.hid hp
      have hxe : ((x.size : Int) != sizeI k l) = true := by simp [hx]
      clear he ht hx hp l2
      go_enter Tryz.func9, Tryz.ntmps9
      go_wp2_with (first
        | (go_at_call 23; refine (checkValued_any _ _ _ _).mono ?_; rintro e w1 ⟨rfl, hb⟩; obtain ⟨hc, hf⟩ := hb.cells; have hz : w.heap.size + 1 < w1.heap.size := (by have h := hb.size; (try simp at h); omega); have hz0 : w.heap.size < w1.heap.size := by omega)
        | (go_at_call 24; refine (sizeOf_any _ _ _ (by omega) (by omega) _).mono ?_; rintro e w1 ⟨rfl, hb⟩; obtain ⟨hc, hf⟩ := hb.cells; have hz : w.heap.size + 1 < w1.heap.size := (by have h := hb.size; (try simp at h); omega); have hz0 : w.heap.size < w1.heap.size := by omega))
      refine bodyPost_ret (v := .tuple #[.agg #[.int .i64 0, .string ⟨#[]⟩], .int .i64 0, .int .i64 18]) (by simp [results, Tryz.results9, go_sem, *]) rfl ⟨by simp [decN, decS, decAt, decErr, HP.out], (by repeat (first | (with_reducible exact Gr.refl _) | (with_reducible assumption) | (with_reducible refine Gr.alloc ?_ _) | (with_reducible refine Gr.drew ?_) | (with_reducible refine Gr.drewN ?_ _) | (with_reducible refine Gr.setCell ?_ (by simp <;> omega) _) | (with_reducible refine Gr.trans ?_ (by with_reducible assumption)) | exact Gr.refl _ | assumption | refine Gr.alloc ?_ _ | refine Gr.drew ?_ | refine Gr.drewN ?_ _ | refine Gr.setCell ?_ (by simp <;> omega) _ | refine Gr.trans ?_ (by assumption)))⟩
  · have hb0 : (first0 [typeErr k l s, pick (k == 4) 17] != 0) = true := by simp [he]
    have hp : preErr k l s x = first0 [typeErr k l s, pick (k == 4) 17] := by
      unfold preErr
      by_cases ht : typeErr k l s = 0
      · have hk : k = 4 := by
          by_cases hk : k = 4
          · exact hk
          · simp [first0, pick, ht, hk] at he
        simp [first0, pick, ht, hk]
      · simp [first0, ht]
    have HP := Lib.hid hp
    have HE := Lib.hid he
    clear he hp
    go_enter Tryz.func9, Tryz.ntmps9
    go_wp2_with (go_at_call 23; refine (checkValued_any _ _ _ _).mono ?_; rintro e w1 ⟨rfl, hb⟩; obtain ⟨hc, hf⟩ := hb.cells; have hz : w.heap.size + 1 < w1.heap.size := (by have h := hb.size; (try simp at h); omega); have hz0 : w.heap.size < w1.heap.size := by omega)
    refine bodyPost_ret (v := .tuple #[.agg #[.int .i64 0, .string ⟨#[]⟩], .int .i64 0, .int .i64 (first0 [typeErr k l s, pick (k == 4) 17])]) (by simp [results, Tryz.results9, go_sem, *]) rfl ⟨by simp [decN, decS, decAt, decErr, HP.out, HE.out], (by repeat (first | (with_reducible exact Gr.refl _) | (with_reducible assumption) | (with_reducible refine Gr.alloc ?_ _) | (with_reducible refine Gr.drew ?_) | (with_reducible refine Gr.drewN ?_ _) | (with_reducible refine Gr.setCell ?_ (by simp <;> omega) _) | (with_reducible refine Gr.trans ?_ (by with_reducible assumption)) | exact Gr.refl _ | assumption | refine Gr.alloc ?_ _ | refine Gr.drew ?_ | refine Gr.drewN ?_ _ | refine Gr.setCell ?_ (by simp <;> omega) _ | refine Gr.trans ?_ (by assumption)))⟩
end Go.Proofs.YtnaflaokhldfnaaGreat
namespace Go.Proofs.YtnaflaokhldfnaaGreat
set_option linter.unusedSimpArgs false
set_option linter.unusedVariables false
open Go.RowKit

def sgnN (n h : Int) : Int := if isNegB h then -n else n
theorem signed_any (n h : Int) (h0 : -1000000000000000000 ≤ n) (h1 : n ≤ 1000000000000000000) (w : World) :
    Calls Tryz.prog 73 #[.int .i64 n, .int .i64 h] w fun e w' => e = .returned (.tuple #[.int .i64 (sgnN n h), .bool (decide (10 ≤ h))]) ∧ w = w' := by
  by_cases h11 : h = 11
  · subst h11
    go_enter Tryz.func73, Tryz.ntmps73
    go_wp2
    go_ret2
    exact ⟨by simp [sgnN, isNegB], rfl⟩
  · by_cases h13 : h = 13
    · subst h13
      go_enter Tryz.func73, Tryz.ntmps73
      go_wp2
      go_ret2
      exact ⟨by simp [sgnN, isNegB], rfl⟩
    · have b1 : (h == 11) = false := by simp [h11]
      have b2 : (h == 13) = false := by simp [h13]
      have H := Lib.hid (show sgnN n h = n by simp [sgnN, isNegB, h11, h13])
      clear h11 h13
      go_enter Tryz.func73, Tryz.ntmps73
      go_wp2
      go_ret2
      exact ⟨by rw [H.out]; rfl, rfl⟩

def bgB (x : ByteArray) : Nat → Int
  | 0 => 0
  | k + 1 => bgB x k * 256 + byteAt x k
theorem bgB_bd (x : ByteArray) : ∀ k, k ≤ 4 → 0 ≤ bgB x k ∧ bgB x k ≤ 4294967295
  | 0, _ => by simp [bgB]
  | 1, _ => by have := byteAt_bd x 0; simp only [bgB, Nat.zero_add, Nat.reduceAdd]; omega
  | 2, _ => by have := byteAt_bd x 0; have := byteAt_bd x 1; simp only [bgB, Nat.zero_add, Nat.reduceAdd]; omega
  | 3, _ => by have := byteAt_bd x 0; have := byteAt_bd x 1; have := byteAt_bd x 2; simp only [bgB, Nat.zero_add, Nat.reduceAdd]; omega
  | 4, _ => by have := byteAt_bd x 0; have := byteAt_bd x 1; have := byteAt_bd x 2; have := byteAt_bd x 3; simp only [bgB, Nat.zero_add, Nat.reduceAdd]; omega

set_option maxHeartbeats 1000000 in
theorem Big_any (x : ByteArray) (S : Nat) (hS : x.size = S) (h4 : S ≤ 4) (w : World) :
    Calls Tryz.prog 40 #[.string x, .int .i64 0, .int .i64 S] w fun e w' => e = .returned (.int .i64 (bgB x S)) ∧ w = w' := by
  have HS := Lib.hid hS
  clear hS
  go_enter Tryz.func40, Tryz.ntmps40
  go_wp2
  go_loop [7, 8] (fun v i => ∃ q : Nat, q ≤ S ∧ i = .int .i64 q ∧ v = .int .i64 (bgB x q)) (fun _ i => S - (intOf i).toNat)
  case atStart => exact ⟨0, by omega, rfl, rfl⟩
  case round =>
    obtain ⟨q, hq, rfl, rfl⟩ := hrel
    have hsb := bgB_bd x q (by omega)
    by_cases hlt : q < S
    · have hq1 : q < x.size := by have := HS.out; omega
      have hby1 := byteAt_eq x q hq1
      have hbb1 := byteAt_bd x q
      have hsb1 := bgB_bd x (q + 1) (by omega)
      rw [bgB] at hsb1
      go_wp2
      go_round
      case rel => exact ⟨q + 1, by omega, by go_num, by rw [bgB]⟩
      case measure => simp [intOf] <;> omega
    · go_wp2
      go_ret
      exact ⟨ret_int (by congr 1; omega), rfl⟩

theorem zd_digit {x : ByteArray} {q : Nat} (hq : q < x.size) (h : 9 < znH x q) (hle : ∀ j, j < q → znH x j ≤ 9) : zdN x = 0 ∧ zdAt x = q ∧ zdErr x = 21 := by
  have hb := badAt_some (h := znH x) (m := fun _ => 9) (i := q) h hle x.size hq
  refine ⟨?_, ?_, ?_⟩
  · simp [zdN, rdN, hb]
  · simp [zdAt, rdAt, hb]
  · simp [zdErr, rdErr, hb]
theorem zd_sign {x : ByteArray} {S : Nat} (hS : x.size = S + 1) (hle : ∀ j, j < S → znH x j ≤ 9) (h : byteAt x S / 16 < 10) : zdN x = 0 ∧ zdAt x = S ∧ zdErr x = 21 := by
  by_cases hd : 9 < znH x S
  · exact zd_digit (by omega) hd hle
  · have hb := badAt_none (h := znH x) (m := fun _ => 9) (S + 1) (fun j hj => by
      by_cases e : j = S
      · subst e; omega
      · exact hle j (by omega))
    refine ⟨?_, ?_, ?_⟩
    · simp [zdN, rdN, hS, h]
    · simp [zdAt, rdAt, hS, hb, h]
    · simp [zdErr, rdErr, hS, h]
theorem zd_good {x : ByteArray} {S : Nat} (hS : x.size = S + 1) (hle : ∀ j, j < S + 1 → znH x j ≤ 9) (h : 10 ≤ byteAt x S / 16) : zdN x = sgnN (numOf (znH x) (S + 1)) (byteAt x S / 16) ∧ zdAt x = 0 ∧ zdErr x = 0 := by
  have hb := badAt_none (h := znH x) (m := fun _ => 9) (S + 1) hle
  have h' : ¬ byteAt x S / 16 < 10 := by omega
  refine ⟨?_, ?_, ?_⟩
  · simp [zdN, rdN, hS, hb, eq_false h', sgnN]
  · simp [zdAt, rdAt, hS, hb, eq_false h']
  · simp [zdErr, rdErr, hS, hb, eq_false h']

set_option maxHeartbeats 4000000 in
set_option maxRecDepth 100000 in
theorem decodeZoned_any (x : ByteArray) (S : Nat) (hS : x.size = S + 1) (h4 : S ≤ 16) (w : World) :
    Calls Tryz.prog 42 #[.string x] w fun e w' =>
      e = .returned (.tuple #[.agg #[.int .i64 (zdN x), .string ⟨#[]⟩], .int .i64 (zdAt x), .int .i64 (zdErr x)]) ∧ Gr w w' := by
  go_enter Tryz.func42, Tryz.ntmps42
  go_wp2
  go_loopw [5, 6, 7] (fun v sg i wr => ∃ q : Nat, q ≤ S + 1 ∧ i = .int .i64 q ∧ v = .int .i64 (numOf (znH x) q) ∧ sg = .int .i64 (if q = S + 1 then byteAt x S / 16 else 15) ∧ Hid (∀ j, j < q → znH x j ≤ 9) ∧ Hid (q = S + 1 → 10 ≤ byteAt x S / 16) ∧ Hid (wr = w.alloc (.cells #[.int .i64 0, .string ⟨#[]⟩] 38))) (fun _ _ i _ => S + 1 - (intOf i).toNat)
  case atStart => exact ⟨0, by omega, rfl, rfl, by rw [if_neg (by omega)], Lib.hid (fun j hj => by omega), Lib.hid (fun h => by omega), rfl⟩
  case round =>
    obtain ⟨q, hq, rfl, rfl, rfl, hle, hlast, hw⟩ := hrel
    obtain rfl := hw.out
    clear hw
    have hnb := numOf_bd (znH x) q (fun i hi => ⟨by have := byteAt_bd x i; unfold znH; omega, hle.out i hi⟩)
    have hpb := pow_bd q (by omega)
    obtain ⟨N, hN⟩ : ∃ N, numOf (znH x) q = N := ⟨_, rfl⟩
    rw [hN] at hnb ⊢
    have HN := Lib.hid hN
    clear hN
    by_cases hlt : q < S + 1
    · rw [if_neg (by omega)]
      have hq1 : q < x.size := by omega
      have hby1 := byteAt_eq x q hq1
      have hbb1 := byteAt_bd x q
      have hp1 := pow_bd (q + 1) (by omega)
      rw [Int.pow_succ] at hp1
      have hq16 : znH x q = byteAt x q % 16 := rfl
      have HQ := Lib.hid hq16
      clear hq16
      by_cases hl : q = S
      · subst hl
        by_cases hsg : byteAt x q / 16 < 10
        · have Z := Lib.hid (zd_sign hS hle.out hsg)
          go_wp2
          refine bodyPost_ret (v := .tuple #[.agg #[.int .i64 0, .string ⟨#[]⟩], .int .i64 q, .int .i64 21]) (by simp [results, Tryz.results42, go_sem, *]) rfl ⟨by rw [Z.out.1, Z.out.2.1, Z.out.2.2], (by repeat (first | (with_reducible exact Gr.refl _) | (with_reducible assumption) | (with_reducible refine Gr.alloc ?_ _) | (with_reducible refine Gr.drew ?_) | (with_reducible refine Gr.drewN ?_ _) | (with_reducible refine Gr.setCell ?_ (by simp <;> omega) _) | (with_reducible refine Gr.trans ?_ (by with_reducible assumption)) | exact Gr.refl _ | assumption | refine Gr.alloc ?_ _ | refine Gr.drew ?_ | refine Gr.drewN ?_ _ | refine Gr.setCell ?_ (by simp <;> omega) _ | refine Gr.trans ?_ (by assumption)))⟩
        · by_cases hdg : 9 < byteAt x q % 16
          · have Z := Lib.hid (zd_digit hq1 (by rw [HQ.out]; exact hdg) hle.out)
            have hsg2 : 10 ≤ byteAt x q / 16 := by omega
            go_wp2
            refine bodyPost_ret (v := .tuple #[.agg #[.int .i64 0, .string ⟨#[]⟩], .int .i64 q, .int .i64 21]) (by simp [results, Tryz.results42, go_sem, *]) rfl ⟨by rw [Z.out.1, Z.out.2.1, Z.out.2.2], (by repeat (first | (with_reducible exact Gr.refl _) | (with_reducible assumption) | (with_reducible refine Gr.alloc ?_ _) | (with_reducible refine Gr.drew ?_) | (with_reducible refine Gr.drewN ?_ _) | (with_reducible refine Gr.setCell ?_ (by simp <;> omega) _) | (with_reducible refine Gr.trans ?_ (by with_reducible assumption)) | exact Gr.refl _ | assumption | refine Gr.alloc ?_ _ | refine Gr.drew ?_ | refine Gr.drewN ?_ _ | refine Gr.setCell ?_ (by simp <;> omega) _ | refine Gr.trans ?_ (by assumption)))⟩
          · have hsg2 : 10 ≤ byteAt x q / 16 := by omega
            go_wp2
            go_roundw
            case rel =>
              refine ⟨q + 1, by omega, by go_num, by rw [numOf, HN.out, HQ.out], by rw [if_pos rfl], Lib.hid (fun j hj => ?_), Lib.hid (fun _ => hsg2), Lib.hid trivial⟩
              by_cases e : j = q
              · subst e; rw [HQ.out]; omega
              · exact hle.out j (by omega)
            case measure => simp [intOf] <;> omega
      · have hl2 : ((q : Int) == (S : Int)) = false := by rw [beq_eq_false_iff_ne]; omega
        by_cases hdg : 9 < byteAt x q % 16
        · have Z := Lib.hid (zd_digit hq1 (by rw [HQ.out]; exact hdg) hle.out)
          go_wp2
          refine bodyPost_ret (v := .tuple #[.agg #[.int .i64 0, .string ⟨#[]⟩], .int .i64 q, .int .i64 21]) (by simp [results, Tryz.results42, go_sem, *]) rfl ⟨by rw [Z.out.1, Z.out.2.1, Z.out.2.2], (by repeat (first | (with_reducible exact Gr.refl _) | (with_reducible assumption) | (with_reducible refine Gr.alloc ?_ _) | (with_reducible refine Gr.drew ?_) | (with_reducible refine Gr.drewN ?_ _) | (with_reducible refine Gr.setCell ?_ (by simp <;> omega) _) | (with_reducible refine Gr.trans ?_ (by with_reducible assumption)) | exact Gr.refl _ | assumption | refine Gr.alloc ?_ _ | refine Gr.drew ?_ | refine Gr.drewN ?_ _ | refine Gr.setCell ?_ (by simp <;> omega) _ | refine Gr.trans ?_ (by assumption)))⟩
        · go_wp2
          go_roundw
          case rel =>
            refine ⟨q + 1, by omega, by go_num, by rw [numOf, HN.out, HQ.out], by rw [if_neg (by omega)], Lib.hid (fun j hj => ?_), Lib.hid (fun h => by omega), Lib.hid trivial⟩
            by_cases e : j = q
            · subst e; rw [HQ.out]; omega
            · exact hle.out j (by omega)
          case measure => simp [intOf] <;> omega
    · have hqS := Lib.hid (show q = S + 1 by omega)
      rw [if_pos hqS.out]
      have hs10 := hlast.out hqS.out
      have Z := Lib.hid (zd_good hS (fun j hj => hle.out j (by have := hqS.out; omega)) hs10)
      go_wp2_with (go_at_call 73; refine (signed_any _ _ (by omega) (by omega) _).mono ?_; rintro e w1 ⟨rfl, rfl⟩)
      refine bodyPost_ret (v := .tuple #[.agg #[.int .i64 (sgnN N (byteAt x S / 16)), .string ⟨#[]⟩], .int .i64 0, .int .i64 0]) (by simp [results, Tryz.results42, go_sem, *]) rfl ⟨by rw [Z.out.1, Z.out.2.1, Z.out.2.2, ← HN.out, hqS.out], (by repeat (first | (with_reducible exact Gr.refl _) | (with_reducible assumption) | (with_reducible refine Gr.alloc ?_ _) | (with_reducible refine Gr.drew ?_) | (with_reducible refine Gr.drewN ?_ _) | (with_reducible refine Gr.setCell ?_ (by simp <;> omega) _) | (with_reducible refine Gr.trans ?_ (by with_reducible assumption)) | exact Gr.refl _ | assumption | refine Gr.alloc ?_ _ | refine Gr.drew ?_ | refine Gr.drewN ?_ _ | refine Gr.setCell ?_ (by simp <;> omega) _ | refine Gr.trans ?_ (by assumption)))⟩

theorem pd_bad {l : Int} {x : ByteArray} {q : Nat} (hS : 1 ≤ x.size) (hq : q < 2 * x.size - 1) (h : pkM l q < halfOf x q) (hle : ∀ j, j < q → halfOf x j ≤ pkM l j) : pdN l x = 0 ∧ pdAt l x = halfAt q ∧ pdErr l x = 21 := by
  have hb := badAt_some (h := halfOf x) (m := pkM l) (i := q) h hle (2 * x.size - 1) hq
  refine ⟨?_, ?_, ?_⟩
  · simp [pdN, rdN, hb]
  · simp [pdAt, rdAt, hb]
  · simp [pdErr, rdErr, hb]
theorem pd_sign {l : Int} {x : ByteArray} (hle : ∀ j, j < 2 * x.size - 1 → halfOf x j ≤ pkM l j) (h : halfOf x (2 * x.size - 1) < 10) : pdN l x = 0 ∧ pdAt l x = (x.size : Int) - 1 ∧ pdErr l x = 21 := by
  have hb := badAt_none (h := halfOf x) (m := pkM l) (2 * x.size - 1) hle
  refine ⟨?_, ?_, ?_⟩
  · simp [pdN, rdN, h]
  · simp [pdAt, rdAt, hb, h]
  · simp [pdErr, rdErr, h]
theorem pd_good {l : Int} {x : ByteArray} (hle : ∀ j, j < 2 * x.size - 1 → halfOf x j ≤ pkM l j) (h : 10 ≤ halfOf x (2 * x.size - 1)) : pdN l x = sgnN (numOf (halfOf x) (2 * x.size - 1)) (halfOf x (2 * x.size - 1)) ∧ pdAt l x = 0 ∧ pdErr l x = 0 := by
  have hb := badAt_none (h := halfOf x) (m := pkM l) (2 * x.size - 1) hle
  have h' : ¬ halfOf x (2 * x.size - 1) < 10 := by omega
  refine ⟨?_, ?_, ?_⟩
  · simp [pdN, rdN, hb, eq_false h', sgnN]
  · simp [pdAt, rdAt, hb, eq_false h']
  · simp [pdErr, rdErr, hb, eq_false h']

end Go.Proofs.YtnaflaokhldfnaaGreat
