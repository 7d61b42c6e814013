/- Texts of the walks, merged. -/
import Derived.Test.YtnaflaokhldfnaaDoorQ05
import Derived.Test.YtnaflaokhldfnaaDoorShelf
import Derived.Lib.IndexLaws
import Derived.Test.YtnaflaokhldfnaaDoorQ04
namespace Go.Proofs.YtnaflaokhldfnaaDoor
set_option linter.unusedSimpArgs false
set_option linter.unusedVariables false
open Go.RowKit

/-- A right text: its sign, its whole digits up to q, its decimals behind the point at q. -/
structure RtP (f : Nat → Int) (L q : Nat) : Prop where
  lt : sgnT f < q
  le : q ≤ L
  dig : ∀ j, sgnT f ≤ j → j < q → dgt (f j) = true
  zero : f (sgnT f) = 48 → q = sgnT f + 1
  tail : q < L → f q = 46 ∧ q + 1 < L ∧ ∀ j, q < j → j < L → dgt (f j) = true
theorem stp_ne (L a : Nat) : stp L a ≠ 0 := by unfold stp; split <;> decide
theorem rt_parts {f : Nat → Int} {L : Nat} (hL : 0 < L) (h : (ckT f L).2 = 0) : RtP f L (wE f L) := by
  have hs : sgnT f ≤ L := by unfold sgnT; split <;> omega
  have hE := dE_le f hs
  unfold ckT at h
  by_cases h1 : dE f L (sgnT f) = sgnT f
  · rw [if_pos h1] at h; exact absurd h (stp_ne _ _)
  rw [if_neg h1] at h
  have hd0 : dgt (f (sgnT f)) = true := dE_all f (Nat.le_refl _) (by omega) hs
  have hw : sgnT f < wE f L ∧ wE f L ≤ L ∧ (∀ j, sgnT f ≤ j → j < wE f L → dgt (f j) = true) ∧ (f (sgnT f) = 48 → wE f L = sgnT f + 1) := by
    unfold wE
    by_cases e : f (sgnT f) = 48
    · rw [if_pos e]
      exact ⟨by omega, by omega, fun j a b => by rw [show j = sgnT f by omega]; exact hd0, fun _ => rfl⟩
    · rw [if_neg e]
      exact ⟨by omega, by omega, fun j a b => dE_all f a b hs, fun g => absurd g e⟩
  obtain ⟨w1, w2, w3, w4⟩ := hw
  refine ⟨w1, w2, w3, w4, fun hq => ?_⟩
  rw [if_neg (by omega)] at h
  by_cases h46 : f (wE f L) = 46
  · rw [if_pos h46] at h
    by_cases h2 : dE f L (wE f L + 1) = wE f L + 1 ∨ dE f L (wE f L + 1) < L
    · rw [if_pos h2] at h; exact absurd h (stp_ne _ _)
    · have := dE_le f (L := L) (a := wE f L + 1) (by omega)
      exact ⟨h46, by omega, fun j a b => dE_all f (L := L) (a := wE f L + 1) (by omega) (by omega) (by omega)⟩
  · rw [if_neg h46] at h; simp at h

theorem tl_cutT (x : ByteArray) (a b : Nat) : (x.extract a b).data.toList = (x.data.toList.drop a).take (b - a) := by
  rw [ByteArray.data_extract, Array.toList_extract]
theorem ba_listT {x y : ByteArray} (h : x.data.toList = y.data.toList) : x = y := by
  obtain ⟨⟨l⟩⟩ := x
  obtain ⟨⟨m⟩⟩ := y
  simp at h
  rw [h]
theorem tAt_get {s : ByteArray} {i : Nat} {c : UInt8} (h : s.data.toList[i]? = some c) : tAt s i = c.toNat := by
  unfold tAt; rw [List.getD_eq_getElem?_getD, h]; rfl
theorem get_tAt {s : ByteArray} {i : Nat} {c : UInt8} (hi : i < s.size) (h : tAt s i = c.toNat) : s.data.toList[i]? = some c := by
  have hl : s.data.toList.length = s.size := Array.length_toList
  have h' : i < s.data.toList.length := by omega
  unfold tAt at h
  rw [List.getD_eq_getElem?_getD, List.getElem?_eq_getElem h'] at h
  rw [List.getElem?_eq_getElem h']
  simp only [Option.getD_some] at h
  rw [UInt8.toNat_inj.1 (by omega : (s.data.toList[i]'h').toNat = c.toNat)]
/-- One byte cut off in front, if it is there. -/
theorem trim_one (s : ByteArray) (c : UInt8) (hs : 0 < s.size) :
    (tAt s 0 = c.toNat → Lib.hasPrefix s.data.toList [c] = true ∧ (⟨(Lib.trimPrefix s.data.toList [c]).toArray⟩ : ByteArray) = s.extract 1 s.size) ∧
    (tAt s 0 ≠ c.toNat → Lib.hasPrefix s.data.toList [c] = false ∧ (⟨(Lib.trimPrefix s.data.toList [c]).toArray⟩ : ByteArray) = s) := by
  have hl : s.data.toList.length = s.size := Array.length_toList
  obtain ⟨b, r, hb⟩ : ∃ b r, s.data.toList = b :: r := by
    match h : s.data.toList with
    | [] => rw [h] at hl; simp at hl; omega
    | b :: r => exact ⟨b, r, rfl⟩
  have h0 : tAt s 0 = b.toNat := by unfold tAt; rw [hb]; rfl
  have hp : Lib.hasPrefix s.data.toList [c] = (c == b) := by rw [hb]; unfold Lib.hasPrefix; simp [List.isPrefixOf]
  constructor
  · intro h
    have e : c = b := UInt8.toNat_inj.1 (by omega)
    refine ⟨by rw [hp, e]; simp, ba_listT ?_⟩
    unfold Lib.trimPrefix
    rw [hp, e, if_pos (by simp), tl_cutT, hb]
    simp only [List.length_singleton, List.drop_succ_cons, List.drop_zero]
    rw [List.take_of_length_le (by rw [hb] at hl; simp at hl; omega)]
  · intro h
    have e : (c == b) = false := by
      rw [beq_eq_false_iff_ne]; intro e; rw [e] at h; exact h h0
    refine ⟨by rw [hp, e], ba_listT ?_⟩
    unfold Lib.trimPrefix
    rw [hp, e, if_neg (by simp)]
theorem idx_point {s : ByteArray} {c : UInt8} {o : Nat} (ho : o < s.size) (h : tAt s o = c.toNat) (hb : ∀ k, k < o → tAt s k ≠ c.toNat) : Lib.indexByte s.data.toList c = o := by
  have hg := Lib.indexByte_ge s.data.toList c
  rcases Int.lt_or_eq_of_le hg with h1 | h1
  · obtain ⟨k, hk⟩ : ∃ k : Nat, Lib.indexByte s.data.toList c = k := ⟨(Lib.indexByte s.data.toList c).toNat, by omega⟩
    obtain ⟨a, b⟩ := Lib.indexByte_some hk
    rw [hk]
    rcases Nat.lt_trichotomy k o with g | g | g
    · exact absurd (tAt_get a) (hb k g)
    · rw [g]
    · exact absurd (get_tAt ho h) (b o g)
  · exact absurd (get_tAt ho h) (Lib.indexByte_none h1.symm o)
theorem idx_none {s : ByteArray} {c : UInt8} (hb : ∀ k, k < s.size → tAt s k ≠ c.toNat) : Lib.indexByte s.data.toList c = -1 := by
  have hg := Lib.indexByte_ge s.data.toList c
  have hl : s.data.toList.length = s.size := Array.length_toList
  rcases Int.lt_or_eq_of_le hg with h1 | h1
  · obtain ⟨k, hk⟩ : ∃ k : Nat, Lib.indexByte s.data.toList c = k := ⟨(Lib.indexByte s.data.toList c).toNat, by omega⟩
    obtain ⟨a, b⟩ := Lib.indexByte_some hk
    have : k < s.data.toList.length := by
      rcases Nat.lt_or_ge k s.data.toList.length with g | g
      · exact g
      · rw [List.getElem?_eq_none g] at a; simp at a
    exact absurd (tAt_get a) (hb k (by omega))
  · exact h1.symm

set_option maxRecDepth 100000 in
theorem cutT_j (s : ByteArray) (j : Int) (b : Nat) (hb : j = b) (h2 : b ≤ s.size) (w : World) :
    (Instr.slice 9 (.string s) none (some (.int .i64 j)) none).run Tryd.prog w = .ok (.string (s.extract 0 b)) w := by
  rw [run_slice_string_h (P := Tryd.prog) w 9 s Tryd.underlying9 .i64 j (by omega) (by omega), show j.toNat = b by omega]
set_option maxRecDepth 100000 in
theorem cutT_i (s : ByteArray) (i : Int) (a : Nat) (ha : i = a) (h2 : a ≤ s.size) (w : World) :
    (Instr.slice 9 (.string s) (some (.int .i64 i)) none none).run Tryd.prog w = .ok (.string (s.extract a s.size)) w := by
  rw [run_slice_string_l (P := Tryd.prog) w 9 s Tryd.underlying9 .i64 i (by omega) (by omega), show i.toNat = a by omega]

theorem add_ssT (s t : ByteArray) (h : s.size + t.size ≤ 9223372036854775807) (w : World) : (Op.stringOp .add s t).run Tryd.prog w = .ok (.string (s ++ t)) w := run_string_add_sum w s t h
def CutR (B1 B2 : ByteArray) (b : Bool) (w : World) (e : Ending) (w' : World) : Prop := e = .returned (.tuple #[.string B1, .string B2, .bool b]) ∧ Gr w w'
theorem liteCut_none (s : ByteArray) (hs : s.size ≤ 40) (h : Lib.indexByte s.data.toList 46 = -1) (w : World) :
    Calls Tryd.prog 83 #[.string s, .string ⟨#[46]⟩] w (CutR s ⟨#[]⟩ false w) := by
  have hi := fun w => (Tryd.stringslite_Index_one s 46 w)
  rw [h] at hi
  go_enter Tryd.func83, Tryd.ntmps83
  go_wp2_with (go_at_call 98; (with_reducible refine (hi _).mono ?_); rintro e w1 ⟨rfl, rfl⟩)
  go_ret3
  exact ⟨rfl, (by repeat (first | (with_reducible exact Gr.refl _) | (with_reducible assumption) | (with_reducible refine Gr.alloc ?_ _) | (with_reducible refine Gr.drew ?_) | (with_reducible refine Gr.drewN ?_ _) | (with_reducible refine Gr.setCell ?_ (by simp <;> omega) _) | (with_reducible refine Gr.trans ?_ (by with_reducible assumption)) | exact Gr.refl _ | assumption | refine Gr.alloc ?_ _ | refine Gr.drew ?_ | refine Gr.drewN ?_ _ | refine Gr.setCell ?_ (by simp <;> omega) _ | refine Gr.trans ?_ (by assumption)))⟩
theorem liteCut_at (s : ByteArray) (q : Nat) (hs : s.size ≤ 40) (hq : q < s.size) (h : Lib.indexByte s.data.toList 46 = q) (w : World) :
    Calls Tryd.prog 83 #[.string s, .string ⟨#[46]⟩] w (CutR (s.extract 0 q) (s.extract (q + 1) s.size) true w) := by
  have hi := fun w => (Tryd.stringslite_Index_one s 46 w)
  rw [h] at hi
  have c1 := cutT_j s q q rfl (by omega)
  have c2 := cutT_i s ((q : Int) + 1) (q + 1) (by omega) (by omega)
  go_enter Tryd.func83, Tryd.ntmps83
  go_wp2_with (go_at_call 98; (with_reducible refine (hi _).mono ?_); rintro e w1 ⟨rfl, rfl⟩)
  go_quiet (fail)
  go_wp2
  go_ret3
  exact ⟨rfl, (by repeat (first | (with_reducible exact Gr.refl _) | (with_reducible assumption) | (with_reducible refine Gr.alloc ?_ _) | (with_reducible refine Gr.drew ?_) | (with_reducible refine Gr.drewN ?_ _) | (with_reducible refine Gr.setCell ?_ (by simp <;> omega) _) | (with_reducible refine Gr.trans ?_ (by with_reducible assumption)) | exact Gr.refl _ | assumption | refine Gr.alloc ?_ _ | refine Gr.drew ?_ | refine Gr.drewN ?_ _ | refine Gr.setCell ?_ (by simp <;> omega) _ | refine Gr.trans ?_ (by assumption)))⟩
theorem Cut_of (s B1 B2 : ByteArray) (b : Bool) (h : ∀ w, Calls Tryd.prog 83 #[.string s, .string ⟨#[46]⟩] w (CutR B1 B2 b w)) (w : World) :
    Calls Tryd.prog 59 #[.string s, .string ⟨#[46]⟩] w (CutR B1 B2 b w) := by
  go_enter Tryd.func59, Tryd.ntmps59
  go_wp2_with (go_at_call 83; (with_reducible refine (h _).mono ?_); rintro e w1 ⟨rfl, hb⟩)
  go_ret3
  exact ⟨rfl, (by repeat (first | (with_reducible exact Gr.refl _) | (with_reducible assumption) | (with_reducible refine Gr.alloc ?_ _) | (with_reducible refine Gr.drew ?_) | (with_reducible refine Gr.drewN ?_ _) | (with_reducible refine Gr.setCell ?_ (by simp <;> omega) _) | (with_reducible refine Gr.trans ?_ (by with_reducible assumption)) | exact Gr.refl _ | assumption | refine Gr.alloc ?_ _ | refine Gr.drew ?_ | refine Gr.drewN ?_ _ | refine Gr.setCell ?_ (by simp <;> omega) _ | refine Gr.trans ?_ (by assumption)))⟩
end Go.Proofs.YtnaflaokhldfnaaDoor
namespace Go.Proofs.YtnaflaokhldfnaaDoor
set_option linter.unusedSimpArgs false
set_option linter.unusedVariables false
open Go.RowKit

def negB (b : Bool) (v : Int) : Int := if b then -v else v
def NiR (n s e : Int) (w : World) (en : Ending) (w' : World) : Prop := en = .returned (.tuple #[.agg #[.int .i64 n, .int .i64 s], .int .i64 e]) ∧ Gr w w'
section
variable (x A B1 B2 T c : ByteArray) (b b2 : Bool) (C : Nat)
    (hP : ∀ w, Calls Tryd.prog 58 #[.string x, .string ⟨#[45]⟩] w fun e w' => e = .returned (.tuple #[.string A, .bool b]) ∧ w = w')
    (hC : ∀ w, Calls Tryd.prog 59 #[.string A, .string ⟨#[46]⟩] w (CutR B1 B2 b2 w))
    (hT : ∀ w, Calls Tryd.prog 60 #[.string B1, .string ⟨#[48]⟩] w fun e w' => e = .returned (.string T) ∧ w = w')
    (hadd : ∀ w, (Op.stringOp .add T B2).run Tryd.prog w = .ok (.string c) w) (hsz : c.size = C)
include hP hC hT hadd hsz

set_option maxHeartbeats 1000000 in
set_option maxRecDepth 100000 in
theorem numberIn_large (h15 : 15 < C) (h40 : C ≤ 40) (w : World) :
    Calls Tryd.prog 31 #[.string x] w (NiR 0 0 19 w) := by
  unfold CutR at hC
  go_enter Tryd.func31, Tryd.ntmps31
  go_wp2_with (first | (go_at_call 58; (with_reducible refine (hP _).mono ?_); rintro e w1 ⟨rfl, rfl⟩) | (go_at_call 59; (with_reducible refine (hC _).mono ?_); rintro e w1 ⟨rfl, hb⟩; obtain ⟨hc, hf⟩ := gcells hb (w.heap.size + 1) (by first | exact hz | omega | (simp; done) | (simp; omega)); have hz : w.heap.size + 1 ≤ w1.heap.size := (by have h := hb.size; (try simp at h); omega); have hz0 : w.heap.size < w1.heap.size := (by omega)) | (go_at_call 60; (with_reducible refine (hT _).mono ?_); rintro e w1 ⟨rfl, rfl⟩))
  exact bodyPost_ret (v := .tuple #[.agg #[.int .i64 0, .int .i64 0], .int .i64 19]) (by simp [results, Tryd.results31, go_sem, *]) rfl ⟨rfl, (by repeat (first | (with_reducible exact Gr.refl _) | (with_reducible assumption) | (with_reducible refine Gr.alloc ?_ _) | (with_reducible refine Gr.drew ?_) | (with_reducible refine Gr.drewN ?_ _) | (with_reducible refine Gr.setCell ?_ (by simp <;> omega) _) | (with_reducible refine Gr.trans ?_ (by with_reducible assumption)) | exact Gr.refl _ | assumption | refine Gr.alloc ?_ _ | refine Gr.drew ?_ | refine Gr.drewN ?_ _ | refine Gr.setCell ?_ (by simp <;> omega) _ | refine Gr.trans ?_ (by assumption)))⟩

set_option maxHeartbeats 2000000 in
set_option maxRecDepth 100000 in
theorem numberIn_small (h15 : C ≤ 15) (hB : B2.size ≤ 40) (hd : ∀ i, i < C → dgt (tAt c i) = true) (w : World) :
    Calls Tryd.prog 31 #[.string x] w (NiR (negB b (pvN (tAt c) C)) B2.size 0 w) := by
  unfold CutR at hC
  have HD := Lib.hid hd
  have h15i : ¬ ((15 : Int) < (C : Int)) := by omega
  clear hd
  go_enter Tryd.func31, Tryd.ntmps31
  go_wp2_with (first | (go_at_call 58; (with_reducible refine (hP _).mono ?_); rintro e w1 ⟨rfl, rfl⟩) | (go_at_call 59; (with_reducible refine (hC _).mono ?_); rintro e w1 ⟨rfl, hb⟩; obtain ⟨hc, hf⟩ := gcells hb (w.heap.size + 1) (by first | exact hz | omega | (simp; done) | (simp; omega)); have hz : w.heap.size + 1 ≤ w1.heap.size := (by have h := hb.size; (try simp at h); omega); have hz0 : w.heap.size < w1.heap.size := (by omega)) | (go_at_call 60; (with_reducible refine (hT _).mono ?_); rintro e w1 ⟨rfl, rfl⟩))
  go_loop [10, 33] (fun v i => ∃ q : Nat, q ≤ C ∧ i = .int .i64 q ∧ v = .int .i64 (pvN (tAt c) q)) (fun _ i => C - (intOf i).toNat)
  case atStart => exact ⟨0, by omega, rfl, rfl⟩
  case round =>
    obtain ⟨q, hq, rfl, rfl⟩ := hrel
    have hsb := pvN_bd (g := tAt c) q (fun i hi => HD.out i (by omega))
    have hp := pow15 (k := q) (by omega)
    obtain ⟨v, hv⟩ : ∃ v, pvN (tAt c) q = v := ⟨_, rfl⟩
    rw [hv] at hsb ⊢
    have HV := Lib.hid hv
    have hv0 : 0 ≤ v := hsb.1
    have hv1 : v < 1000000000000000 := by omega
    clear hv hsb hp
    by_cases hlt : q < C
    · have hlt' : q < c.size := by omega
      have hby := tAt_eq c q hlt'
      have hdq := HD.out q hlt
      simp only [dgt, Bool.and_eq_true, decide_eq_true_eq] at hdq
      obtain ⟨d1, d2⟩ := hdq
      go_wp2
      go_round
      case rel => exact ⟨q + 1, by omega, by go_num, by rw [pvN, HV.out]; try rfl⟩
      case measure => simp [intOf]; omega
    · have hqS := Lib.hid (show q = C by omega)
      have HE := Lib.hid (show pvN (tAt c) C = v by rw [← HV.out, hqS.out])
      cases b
      · go_wp2
        exact bodyPost_ret (v := .tuple #[.agg #[.int .i64 v, .int .i64 B2.size], .int .i64 0]) (by simp [results, Tryd.results31, go_sem, *]) rfl ⟨by rw [HE.out]; rfl, (by repeat (first | (with_reducible exact Gr.refl _) | (with_reducible assumption) | (with_reducible refine Gr.alloc ?_ _) | (with_reducible refine Gr.drew ?_) | (with_reducible refine Gr.drewN ?_ _) | (with_reducible refine Gr.setCell ?_ (by simp <;> omega) _) | (with_reducible refine Gr.trans ?_ (by with_reducible assumption)) | exact Gr.refl _ | assumption | refine Gr.alloc ?_ _ | refine Gr.drew ?_ | refine Gr.drewN ?_ _ | refine Gr.setCell ?_ (by simp <;> omega) _ | refine Gr.trans ?_ (by assumption)))⟩
      · go_wp2
        exact bodyPost_ret (v := .tuple #[.agg #[.int .i64 (-v), .int .i64 B2.size], .int .i64 0]) (by simp [results, Tryd.results31, go_sem, *]) rfl ⟨by rw [HE.out]; rfl, (by repeat (first | (with_reducible exact Gr.refl _) | (with_reducible assumption) | (with_reducible refine Gr.alloc ?_ _) | (with_reducible refine Gr.drew ?_) | (with_reducible refine Gr.drewN ?_ _) | (with_reducible refine Gr.setCell ?_ (by simp <;> omega) _) | (with_reducible refine Gr.trans ?_ (by with_reducible assumption)) | exact Gr.refl _ | assumption | refine Gr.alloc ?_ _ | refine Gr.drew ?_ | refine Gr.drewN ?_ _ | refine Gr.setCell ?_ (by simp <;> omega) _ | refine Gr.trans ?_ (by assumption)))⟩
end
end Go.Proofs.YtnaflaokhldfnaaDoor
namespace Go.Proofs.YtnaflaokhldfnaaDoor
set_option linter.unusedSimpArgs false
set_option linter.unusedVariables false
open Go.RowKit

/-- The point's place, or -1. -/
def pT (f : Nat → Int) (L : Nat) : Int := if wE f L = L then -1 else wE f L
def cnT (x : ByteArray) : Nat := cntN (tAt x) (sgnT (tAt x)) (pT (tAt x) x.size) (x.size - sgnT (tAt x))
def scT (x : ByteArray) : Nat := scN (sgnT (tAt x)) (pT (tAt x) x.size) (x.size - sgnT (tAt x))
def nvT (x : ByteArray) : Int := nvN (tAt x) (sgnT (tAt x)) (pT (tAt x) x.size) (x.size - sgnT (tAt x))
/-- The number in a text, or what is wrong with it. -/
def TxR (x : ByteArray) (N Sc At E : Int) : Prop :=
  (40 < x.size ∧ N = 0 ∧ Sc = 0 ∧ At = 0 ∧ E = 2) ∨
  (x.size = 0 ∧ N = 0 ∧ Sc = 0 ∧ At = 0 ∧ E = 1) ∨
  (0 < x.size ∧ x.size ≤ 40 ∧ (ckT (tAt x) x.size).2 ≠ 0 ∧ N = 0 ∧ Sc = 0 ∧ At = ((ckT (tAt x) x.size).1 : Nat) ∧ E = (ckT (tAt x) x.size).2) ∨
  (0 < x.size ∧ x.size ≤ 40 ∧ (ckT (tAt x) x.size).2 = 0 ∧ 15 < cnT x ∧ N = 0 ∧ Sc = 0 ∧ At = 0 ∧ E = 19) ∨
  (0 < x.size ∧ x.size ≤ 40 ∧ (ckT (tAt x) x.size).2 = 0 ∧ cnT x ≤ 15 ∧ N = negB (decide (tAt x 0 = 45)) (nvT x) ∧ Sc = (scT x : Nat) ∧ At = x.size ∧ E = 0)
theorem tx_ex (x : ByteArray) : ∃ N Sc At E, TxR x N Sc At E := by
  by_cases h1 : 40 < x.size
  · exact ⟨_, _, _, _, .inl ⟨h1, rfl, rfl, rfl, rfl⟩⟩
  by_cases h2 : x.size = 0
  · exact ⟨_, _, _, _, .inr (.inl ⟨h2, rfl, rfl, rfl, rfl⟩)⟩
  by_cases h3 : (ckT (tAt x) x.size).2 = 0
  · by_cases h4 : 15 < cnT x
    · exact ⟨_, _, _, _, .inr (.inr (.inr (.inl ⟨by omega, by omega, h3, h4, rfl, rfl, rfl, rfl⟩)))⟩
    · exact ⟨_, _, _, _, .inr (.inr (.inr (.inr ⟨by omega, by omega, h3, by omega, rfl, rfl, rfl, rfl⟩)))⟩
  · exact ⟨_, _, _, _, .inr (.inr (.inl ⟨by omega, by omega, h3, rfl, rfl, rfl, rfl⟩))⟩

theorem dgt_ne46 {c : Int} (h : dgt c = true) : c ≠ 46 := by
  simp only [dgt, Bool.and_eq_true, decide_eq_true_eq] at h; omega
theorem ex_ex (x : ByteArray) (a i j : Nat) (h : a + j ≤ x.size) (hij : i ≤ j) : (x.extract a x.size).extract i j = x.extract (a + i) (a + j) := by
  refine ba_listT ?_
  rw [tl_cutT, tl_cutT, tl_cutT, List.drop_take, List.take_take, List.drop_drop]
  congr 1
  omega
theorem ex_all (x : ByteArray) : x.extract 0 x.size = x := by
  refine ba_listT ?_
  rw [tl_cutT, List.drop_zero]
  have hl : x.data.toList.length = x.size := Array.length_toList
  rw [List.take_of_length_le (by omega)]
set_option maxHeartbeats 1000000 in
theorem numberIn_right (x : ByteArray) (hx1 : 0 < x.size) (hx : x.size ≤ 40) (h : (ckT (tAt x) x.size).2 = 0) :
    (15 < cnT x → ∀ w, Calls Tryd.prog 31 #[.string x] w (NiR 0 0 19 w)) ∧
    (cnT x ≤ 15 → ∀ w, Calls Tryd.prog 31 #[.string x] w (NiR (negB (decide (tAt x 0 = 45)) (nvT x)) (scT x : Nat) 0 w)) := by
  obtain ⟨r1, r2, r3, r4, r5⟩ := rt_parts hx1 h
  unfold cnT nvT scT
  generalize hq : wE (tAt x) x.size = q at r1 r2 r3 r4 r5
  generalize hS : sgnT (tAt x) = S at r1 r2 r3 r4 r5 ⊢
  have hp : (pT (tAt x) x.size = -1 ∧ q = x.size) ∨ (pT (tAt x) x.size = q ∧ q < x.size) := by
    unfold pT; rw [hq]
    by_cases e : q = x.size
    · rw [if_pos e]; exact .inl ⟨rfl, e⟩
    · rw [if_neg e]; exact .inr ⟨rfl, by omega⟩
  generalize pT (tAt x) x.size = p at hp ⊢
  -- the sign
  have hP : ∀ w, Calls Tryd.prog 58 #[.string x, .string ⟨#[45]⟩] w fun e w' => e = .returned (.tuple #[.string (x.extract S x.size), .bool (decide (tAt x 0 = 45))]) ∧ w = w' := by
    intro w
    refine (Tryd.strings_CutPrefix x ⟨#[45]⟩ w).mono fun e w' ⟨h1, h2⟩ => ⟨?_, h2.symm⟩
    have ht := trim_one x 45 hx1
    rw [h1]
    by_cases e0 : tAt x 0 = 45
    · obtain ⟨t1, t2⟩ := ht.1 e0
      have eS : S = 1 := by rw [← hS]; exact sgnT_1 e0
      show Ending.returned (.tuple #[.string ⟨(Lib.trimPrefix x.data.toList [45]).toArray⟩, .bool (Lib.hasPrefix x.data.toList [45])]) = _
      rw [t1, t2, eS, decide_eq_true e0]
    · obtain ⟨t1, t2⟩ := ht.2 e0
      have eS : S = 0 := by rw [← hS]; exact sgnT_0 e0
      show Ending.returned (.tuple #[.string ⟨(Lib.trimPrefix x.data.toList [45]).toArray⟩, .bool (Lib.hasPrefix x.data.toList [45])]) = _
      rw [t1, t2, eS, decide_eq_false e0, ex_all]
  have hAs : (x.extract S x.size).size = x.size - S := by rw [ByteArray.size_extract]; omega
  have hAt : ∀ k, k < x.size - S → tAt (x.extract S x.size) k = tAt x (S + k) := fun k hk => tAt_extract x S x.size k (by omega) (Nat.le_refl _)
  -- the point
  obtain ⟨B2, b2, hC, hB2, hB2t⟩ : ∃ B2 b2, (∀ w, Calls Tryd.prog 59 #[.string (x.extract S x.size), .string ⟨#[46]⟩] w (CutR (x.extract S q) B2 b2 w)) ∧ B2.size = x.size - (q + 1) ∧ (∀ k, k < x.size - (q + 1) → tAt B2 k = tAt x (q + 1 + k)) := by
    rcases hp with ⟨_, e⟩ | ⟨_, e⟩
    · refine ⟨⟨#[]⟩, false, fun w => ?_, by show 0 = _; omega, fun k hk => absurd hk (by omega)⟩
      have hi : Lib.indexByte (x.extract S x.size).data.toList 46 = -1 := idx_none fun k hk => by
        rw [hAs] at hk
        rw [hAt k hk]; exact dgt_ne46 (r3 (S + k) (by omega) (by omega))
      have := Cut_of (x.extract S x.size) _ _ _ (liteCut_none _ (by omega) hi) w
      rw [e]; exact this
    · obtain ⟨g1, g2, g3⟩ := r5 e
      have hi : Lib.indexByte (x.extract S x.size).data.toList 46 = ((q - S : Nat) : Int) := idx_point (by omega) (by rw [hAt _ (by omega), show S + (q - S) = q by omega]; exact g1) fun k hk => by
        rw [hAt k (by omega)]; exact dgt_ne46 (r3 (S + k) (by omega) (by omega))
      have := fun w => Cut_of (x.extract S x.size) _ _ _ (liteCut_at _ (q - S) (by omega) (by omega) hi) w
      rw [ex_ex x S 0 (q - S) (by omega) (by omega), hAs, ex_ex x S (q - S + 1) (x.size - S) (by omega) (by omega), show S + 0 = S by omega, show S + (q - S) = q by omega, show S + (q - S + 1) = q + 1 by omega, show S + (x.size - S) = x.size by omega] at this
      exact ⟨_, _, this, by rw [ByteArray.size_extract]; omega, fun k hk => tAt_extract x (q + 1) x.size k (by omega) (Nat.le_refl _)⟩
  have hB1s : (x.extract S q).size = q - S := by rw [ByteArray.size_extract]; omega
  have hB1t : ∀ k, k < q - S → tAt (x.extract S q) k = tAt x (S + k) := fun k hk => tAt_extract x S q k (by omega) r2
  -- the first 0
  obtain ⟨z, hz⟩ : ∃ z : Nat, z = if tAt x S = 48 then 1 else 0 := ⟨_, rfl⟩
  obtain ⟨T, hT, hTs, hTt⟩ : ∃ T : ByteArray, (∀ w, Calls Tryd.prog 60 #[.string (x.extract S q), .string ⟨#[48]⟩] w fun e w' => e = .returned (.string T) ∧ w = w') ∧ T.size = q - S - z ∧ (∀ k, k < q - S - z → tAt T k = tAt x (S + z + k)) := by
    have ht := trim_one (x.extract S q) 48 (by omega)
    rw [hB1t 0 (by omega)] at ht
    have hc := fun w => (Tryd.strings_TrimPrefix (x.extract S q) ⟨#[48]⟩ w).mono (R' := fun e w' => e = .returned (.string ⟨(Lib.trimPrefix (x.extract S q).data.toList [48]).toArray⟩) ∧ w = w') fun e w' ⟨h1, h2⟩ => ⟨h1, h2.symm⟩
    by_cases e : tAt x S = 48
    · rw [if_pos e] at hz
      rw [(ht.1 e).2] at hc
      refine ⟨_, hc, by rw [ByteArray.size_extract, hB1s]; omega, fun k hk => ?_⟩
      rw [tAt_extract _ 1 _ k (by omega) (Nat.le_refl _), hB1t _ (by omega), hz]
      congr 1; omega
    · rw [if_neg e] at hz
      rw [(ht.2 e).2] at hc
      refine ⟨_, hc, by rw [hB1s]; omega, fun k hk => ?_⟩
      rw [hB1t _ (by omega), hz]; rfl
  have hz1 : z ≤ 1 := by rw [hz]; split <;> omega
  -- all digits
  have hcs : (T ++ B2).size = (q - S - z) + (x.size - (q + 1)) := by rw [ByteArray.size_append, hTs, hB2]
  have hc1 : ∀ k, k + z < q - S → tAt (T ++ B2) k = tAt x (S + z + k) := fun k hk => by rw [tAt_append, if_pos (by omega), hTt k (by omega)]
  have hc2 : ∀ k, k < x.size - (q + 1) → tAt (T ++ B2) (q - S - z + k) = tAt x (q + 1 + k) := fun k hk => by
    rw [tAt_append, if_neg (by omega), hTs, show q - S - z + k - (q - S - z) = k by omega, hB2t k hk]
  obtain ⟨k1, k2⟩ := cnt_pv (tAt x) (tAt (T ++ B2)) S q x.size 0 p z hz r1 r2 hp r4 hc1 hc2
  have hfin : cntN (tAt x) S p (x.size - S) = (T ++ B2).size ∧ scN S p (x.size - S) = B2.size ∧ ((T ++ B2).size ≤ 15 → nvN (tAt x) S p (x.size - S) = pvN (tAt (T ++ B2)) (T ++ B2).size) := by
    rw [hcs, hB2]
    rcases hp with ⟨_, e⟩ | ⟨_, e⟩
    · obtain ⟨a1, a2, a3⟩ := k1 (q - S) (Nat.le_refl _)
      rw [← e]
      rw [show q - (q + 1) = 0 by omega, Nat.add_zero]
      exact ⟨a1, a2, a3⟩
    · obtain ⟨a1, a2, a3⟩ := k2 (x.size - (q + 1)) e (Nat.le_refl _)
      rw [show q - S + 1 + (x.size - (q + 1)) = x.size - S by omega] at a1 a2 a3
      exact ⟨a1, a2, a3⟩
  have hdig : ∀ i, i < (T ++ B2).size → dgt (tAt (T ++ B2) i) = true := by
    intro i hi
    by_cases hlt : i + z < q - S
    · rw [hc1 i hlt]; exact r3 _ (by omega) (by omega)
    · obtain ⟨k, hk⟩ : ∃ k, i = q - S - z + k := ⟨i - (q - S - z), by omega⟩
      subst hk
      rw [hc2 k (by omega)]
      exact (r5 (by omega)).2.2 _ (by omega) (by omega)
  rw [hfin.1, hfin.2.1]
  have hadd := add_ssT T B2 (by omega)
  refine ⟨fun h15 w => ?_, fun h15 w => ?_⟩
  · exact numberIn_large x _ _ B2 T _ _ b2 _ hP hC hT hadd rfl h15 (by omega) w
  · rw [hfin.2.2 h15]
    exact numberIn_small x _ _ B2 T _ _ b2 _ hP hC hT hadd rfl h15 (by omega) hdig w
def PnR (n s a e : Int) (w : World) (en : Ending) (w' : World) : Prop := en = .returned (.tuple #[.agg #[.int .i64 n, .int .i64 s], .int .i64 a, .int .i64 e]) ∧ Gr w w'
set_option maxHeartbeats 1000000 in
set_option maxRecDepth 100000 in
theorem Parse_large (x : ByteArray) (h : 40 < x.size) (hm : x.size ≤ 100) (w : World) : Calls Tryd.prog 12 #[.string x] w (PnR 0 0 0 2 w) := by
  go_enter Tryd.func12, Tryd.ntmps12
  go_wp2
  exact bodyPost_ret (v := .tuple #[.agg #[.int .i64 0, .int .i64 0], .int .i64 0, .int .i64 2]) (by simp [results, Tryd.results12, go_sem, *]) rfl ⟨rfl, (by repeat (first | (with_reducible exact Gr.refl _) | (with_reducible assumption) | (with_reducible refine Gr.alloc ?_ _) | (with_reducible refine Gr.drew ?_) | (with_reducible refine Gr.drewN ?_ _) | (with_reducible refine Gr.setCell ?_ (by simp <;> omega) _) | (with_reducible refine Gr.trans ?_ (by with_reducible assumption)) | exact Gr.refl _ | assumption | refine Gr.alloc ?_ _ | refine Gr.drew ?_ | refine Gr.drewN ?_ _ | refine Gr.setCell ?_ (by simp <;> omega) _ | refine Gr.trans ?_ (by assumption)))⟩
set_option maxHeartbeats 1000000 in
set_option maxRecDepth 100000 in
theorem Parse_empty (x : ByteArray) (h : x.size = 0) (hm : x.toList.isEmpty = true) (w : World) : Calls Tryd.prog 12 #[.string x] w (PnR 0 0 0 1 w) := by
  go_enter Tryd.func12, Tryd.ntmps12
  go_wp2
  exact bodyPost_ret (v := .tuple #[.agg #[.int .i64 0, .int .i64 0], .int .i64 0, .int .i64 1]) (by simp [results, Tryd.results12, go_sem, *]) rfl ⟨rfl, (by repeat (first | (with_reducible exact Gr.refl _) | (with_reducible assumption) | (with_reducible refine Gr.alloc ?_ _) | (with_reducible refine Gr.drew ?_) | (with_reducible refine Gr.drewN ?_ _) | (with_reducible refine Gr.setCell ?_ (by simp <;> omega) _) | (with_reducible refine Gr.trans ?_ (by with_reducible assumption)) | exact Gr.refl _ | assumption | refine Gr.alloc ?_ _ | refine Gr.drew ?_ | refine Gr.drewN ?_ _ | refine Gr.setCell ?_ (by simp <;> omega) _ | refine Gr.trans ?_ (by assumption)))⟩
set_option maxHeartbeats 1000000 in
set_option maxRecDepth 100000 in
theorem Parse_bad (x : ByteArray) (At E : Int) (h : x.size ≤ 40) (hm : x.toList.isEmpty = false)
    (hC : ∀ w, Calls Tryd.prog 30 #[.string x] w fun e w' => e = .returned (.tuple #[.int .i64 At, .int .i64 E]) ∧ w = w') (h0 : (E != 0) = true) (w : World) : Calls Tryd.prog 12 #[.string x] w (PnR 0 0 At E w) := by
  go_enter Tryd.func12, Tryd.ntmps12
  go_wp2_with ((go_at_call 30; (with_reducible refine (hC _).mono ?_); rintro e w1 ⟨rfl, rfl⟩))
  exact bodyPost_ret (v := .tuple #[.agg #[.int .i64 0, .int .i64 0], .int .i64 At, .int .i64 E]) (by simp [results, Tryd.results12, go_sem, *]) rfl ⟨rfl, (by repeat (first | (with_reducible exact Gr.refl _) | (with_reducible assumption) | (with_reducible refine Gr.alloc ?_ _) | (with_reducible refine Gr.drew ?_) | (with_reducible refine Gr.drewN ?_ _) | (with_reducible refine Gr.setCell ?_ (by simp <;> omega) _) | (with_reducible refine Gr.trans ?_ (by with_reducible assumption)) | exact Gr.refl _ | assumption | refine Gr.alloc ?_ _ | refine Gr.drew ?_ | refine Gr.drewN ?_ _ | refine Gr.setCell ?_ (by simp <;> omega) _ | refine Gr.trans ?_ (by assumption)))⟩
set_option maxHeartbeats 1000000 in
set_option maxRecDepth 100000 in
theorem Parse_over (x : ByteArray) (At E : Int) (h : x.size ≤ 40) (hm : x.toList.isEmpty = false)
    (hC : ∀ w, Calls Tryd.prog 30 #[.string x] w fun e w' => e = .returned (.tuple #[.int .i64 At, .int .i64 0]) ∧ w = w')
    (hN : ∀ w, Calls Tryd.prog 31 #[.string x] w (NiR 0 0 E w)) (h0 : (E != 0) = true) (w : World) : Calls Tryd.prog 12 #[.string x] w (PnR 0 0 0 E w) := by
  unfold NiR at hN
  go_enter Tryd.func12, Tryd.ntmps12
  go_wp2_with (first | (go_at_call 30; (with_reducible refine (hC _).mono ?_); rintro e w1 ⟨rfl, rfl⟩) | (go_at_call 31; (with_reducible refine (hN _).mono ?_); rintro e w1 ⟨rfl, hb⟩; obtain ⟨hc, hf⟩ := gcells hb (w.heap.size + 1) (by first | exact hz | omega | (simp; done) | (simp; omega)); have hz : w.heap.size + 1 ≤ w1.heap.size := (by have h := hb.size; (try simp at h); omega); have hz0 : w.heap.size < w1.heap.size := (by omega)))
  exact bodyPost_ret (v := .tuple #[.agg #[.int .i64 0, .int .i64 0], .int .i64 0, .int .i64 E]) (by simp [results, Tryd.results12, go_sem, *]) rfl ⟨rfl, (by repeat (first | (with_reducible exact Gr.refl _) | (with_reducible assumption) | (with_reducible refine Gr.alloc ?_ _) | (with_reducible refine Gr.drew ?_) | (with_reducible refine Gr.drewN ?_ _) | (with_reducible refine Gr.setCell ?_ (by simp <;> omega) _) | (with_reducible refine Gr.trans ?_ (by with_reducible assumption)) | exact Gr.refl _ | assumption | refine Gr.alloc ?_ _ | refine Gr.drew ?_ | refine Gr.drewN ?_ _ | refine Gr.setCell ?_ (by simp <;> omega) _ | refine Gr.trans ?_ (by assumption)))⟩
set_option maxHeartbeats 1000000 in
set_option maxRecDepth 100000 in
theorem Parse_ok (x : ByteArray) (At N S : Int) (h : x.size ≤ 40) (hm : x.toList.isEmpty = false)
    (hC : ∀ w, Calls Tryd.prog 30 #[.string x] w fun e w' => e = .returned (.tuple #[.int .i64 At, .int .i64 0]) ∧ w = w')
    (hN : ∀ w, Calls Tryd.prog 31 #[.string x] w (NiR N S 0 w)) (w : World) : Calls Tryd.prog 12 #[.string x] w (PnR N S x.size 0 w) := by
  unfold NiR at hN
  go_enter Tryd.func12, Tryd.ntmps12
  go_wp2_with (first | (go_at_call 30; (with_reducible refine (hC _).mono ?_); rintro e w1 ⟨rfl, rfl⟩) | (go_at_call 31; (with_reducible refine (hN _).mono ?_); rintro e w1 ⟨rfl, hb⟩; obtain ⟨hc, hf⟩ := gcells hb (w.heap.size + 1) (by first | exact hz | omega | (simp; done) | (simp; omega)); have hz : w.heap.size + 1 ≤ w1.heap.size := (by have h := hb.size; (try simp at h); omega); have hz0 : w.heap.size < w1.heap.size := (by omega)))
  exact bodyPost_ret (v := .tuple #[.agg #[.int .i64 N, .int .i64 S], .int .i64 x.size, .int .i64 0]) (by simp [results, Tryd.results12, go_sem, *]) rfl ⟨rfl, (by repeat (first | (with_reducible exact Gr.refl _) | (with_reducible assumption) | (with_reducible refine Gr.alloc ?_ _) | (with_reducible refine Gr.drew ?_) | (with_reducible refine Gr.drewN ?_ _) | (with_reducible refine Gr.setCell ?_ (by simp <;> omega) _) | (with_reducible refine Gr.trans ?_ (by with_reducible assumption)) | exact Gr.refl _ | assumption | refine Gr.alloc ?_ _ | refine Gr.drew ?_ | refine Gr.drewN ?_ _ | refine Gr.setCell ?_ (by simp <;> omega) _ | refine Gr.trans ?_ (by assumption)))⟩
theorem empty_no {x : ByteArray} (h : 0 < x.size) : x.toList.isEmpty = false := by
  have hl : x.data.toList.length = x.size := Array.length_toList
  rw [ByteArray.toList_eq]
  match e : x.data.toList with
  | [] => rw [e] at hl; simp at hl; omega
  | b :: r => rfl
theorem empty_yes {x : ByteArray} (h : x.size = 0) : x.toList.isEmpty = true := by
  have hl : x.data.toList.length = x.size := Array.length_toList
  rw [ByteArray.toList_eq]
  match e : x.data.toList with
  | [] => rfl
  | b :: r => rw [e] at hl; simp at hl; omega
theorem ParseNumber_any (x : ByteArray) (N Sc At E : Int) (hR : TxR x N Sc At E) (hm : x.size ≤ 100) (w : World) : Calls Tryd.prog 12 #[.string x] w (PnR N Sc At E w) := by
  rcases hR with ⟨h, rfl, rfl, rfl, rfl⟩ | ⟨h, rfl, rfl, rfl, rfl⟩ | ⟨h1, h2, h3, rfl, rfl, rfl, rfl⟩ | ⟨h1, h2, h3, h4, rfl, rfl, rfl, rfl⟩ | ⟨h1, h2, h3, h4, rfl, rfl, rfl, rfl⟩
  · exact Parse_large x h hm w
  · exact Parse_empty x h (empty_yes h) w
  · exact Parse_bad x _ _ h2 (empty_no h1) (fun w => checkText_any x h1 h2 w) (by simp [h3]) w
  · have hC := fun w => checkText_any x h1 h2 w
    unfold CkR at hC
    rw [h3] at hC
    exact Parse_over x _ _ h2 (empty_no h1) hC ((numberIn_right x h1 h2 h3).1 h4) (by decide) w
  · have hC := fun w => checkText_any x h1 h2 w
    unfold CkR at hC
    rw [h3] at hC
    exact Parse_ok x _ _ _ h2 (empty_no h1) hC ((numberIn_right x h1 h2 h3).2 h4) w
end Go.Proofs.YtnaflaokhldfnaaDoor
