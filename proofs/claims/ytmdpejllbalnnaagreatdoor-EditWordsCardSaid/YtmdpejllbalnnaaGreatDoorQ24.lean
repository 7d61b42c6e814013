/- Texts of the walks, merged. -/
import Derived.Test.YtmdpejllbalnnaaGreatDoorQ23
namespace Go.Proofs.YtmdpejllbalnnaaGreatDoor
set_option linter.unusedSimpArgs false
set_option linter.unusedVariables false
open Go.RowKit

theorem pos_none (T : List UInt8) (q : Nat) (h1 : bodI T ≤ (q : Int)) (h2 : q < T.length) : posB T (stpI T) q = false := by
  obtain ⟨b0, b1, b2, b3, b4⟩ := bod_bd T
  unfold posB
  have e1 : decide ((q : Int) = stpI T) = false := decide_eq_false (by omega)
  rw [e1, Bool.or_false, beq_eq_false_iff_ne]
  intro e
  have hb : Lib.lastIndexByte (BL T) 32 + 1 ≤ (q : Int) := by unfold bodI at h1; omega
  have e2 : ((BL T).data[q]!).toNat = 32 := by
    have : (BL T).data[q]! = dAt T q := by simp [BL, dAt, List.getD_eq_getElem?_getD, List.getElem?_eq_getElem h2, h2]
    rw [this, e]; rfl
  have hz : (BL T).size = T.length := BL_size T
  rcases Lib.lastIndexByte_spec (BL T) 32 with ⟨-, k⟩ | ⟨i, hi, k1, -, k2⟩
  · exact k q (by omega) (by rw [e2]; rfl)
  · exact k2 q (by omega) (by omega) (by rw [e2]; rfl)
theorem psN_all (T : List UInt8) : ∀ n, (bodI T).toNat + n ≤ T.length → psN T (stpI T) ((bodI T).toNat + n) = psN T (stpI T) (bodI T).toNat
  | 0, _ => rfl
  | n + 1, h => by
    have hb := (bod_bd T).1
    rw [← Nat.add_assoc, psN_step, psN_all T n (by omega), pos_none T ((bodI T).toNat + n) (by omega) (by omega)]
    rfl
theorem psN_len (T : List UInt8) : psN T (stpI T) T.length = psN T (stpI T) (bodI T).toNat := by
  obtain ⟨b0, b1, -⟩ := bod_bd T
  have h := psN_all T (T.length - (bodI T).toNat) (by omega)
  rwa [show (bodI T).toNat + (T.length - (bodI T).toNat) = T.length by omega] at h
section
variable (k l s E : Int) (X : ByteArray)
    (hT : ∀ w, Calls Tryz.prog 29 #[.agg #[.int .i64 k, .int .i64 l, .int .i64 s]] w fun e w' => e = .returned (.int .i64 E) ∧ Gr w w')
include hT
set_option maxHeartbeats 1000000 in
theorem wordErr_a (h : E ≠ 0) (w : World) : Calls Tryz.prog 40 #[.agg #[.int .i64 k, .int .i64 l, .int .i64 s], .string X] w fun e w' => e = .returned (.int .i64 E) ∧ Gr w w' := by
  have bE : (E != 0) = true := by simp [h]
  clear h
  go_enter Tryz.func40, Tryz.ntmps40
  go_wp2_with ((go_at_call 29; (with_reducible refine (hT _).mono ?_); rintro e w1 ⟨rfl, hb⟩; obtain ⟨hc, hf⟩ := gcells hb (w.heap.size + 1) (by first | exact hz | omega | (simp; done) | (simp; omega)); have hz : w.heap.size + 1 ≤ w1.heap.size := (by have h := hb.size; (try simp at h); omega); have hz0 : w.heap.size < w1.heap.size := (by omega)))
  go_ret
  exact ⟨rfl, (by repeat (first | (with_reducible exact Gr.refl _) | (with_reducible assumption) | (with_reducible refine Gr.alloc ?_ _) | (with_reducible refine Gr.drew ?_) | (with_reducible refine Gr.drewN ?_ _) | (with_reducible refine Gr.setCell ?_ (by simp <;> omega) _) | (with_reducible refine Gr.trans ?_ (by with_reducible assumption)) | exact Gr.refl _ | assumption | refine Gr.alloc ?_ _ | refine Gr.drew ?_ | refine Gr.drewN ?_ _ | refine Gr.setCell ?_ (by simp <;> omega) _ | refine Gr.trans ?_ (by assumption)))⟩
variable (bN : Bool) (hN : ∀ w, Calls Tryz.prog 30 #[.int .i64 k] w fun e w' => e = .returned (.bool bN) ∧ w = w')
include hN
set_option maxHeartbeats 1000000 in
theorem wordErr_b (h : E = 0) (h1 : bN = false) (w : World) : Calls Tryz.prog 40 #[.agg #[.int .i64 k, .int .i64 l, .int .i64 s], .string X] w fun e w' => e = .returned (.int .i64 17) ∧ Gr w w' := by
  subst h h1
  go_enter Tryz.func40, Tryz.ntmps40
  go_wp2_with (first | (go_at_call 29; (with_reducible refine (hT _).mono ?_); rintro e w1 ⟨rfl, hb⟩; obtain ⟨hc, hf⟩ := gcells hb (w.heap.size + 1) (by first | exact hz | omega | (simp; done) | (simp; omega)); have hz : w.heap.size + 1 ≤ w1.heap.size := (by have h := hb.size; (try simp at h); omega); have hz0 : w.heap.size < w1.heap.size := (by omega)) | (go_at_call 30; (with_reducible refine (hN _).mono ?_); rintro e w1 ⟨rfl, rfl⟩))
  go_ret
  exact ⟨rfl, (by repeat (first | (with_reducible exact Gr.refl _) | (with_reducible assumption) | (with_reducible refine Gr.alloc ?_ _) | (with_reducible refine Gr.drew ?_) | (with_reducible refine Gr.drewN ?_ _) | (with_reducible refine Gr.setCell ?_ (by simp <;> omega) _) | (with_reducible refine Gr.trans ?_ (by with_reducible assumption)) | exact Gr.refl _ | assumption | refine Gr.alloc ?_ _ | refine Gr.drew ?_ | refine Gr.drewN ?_ _ | refine Gr.setCell ?_ (by simp <;> omega) _ | refine Gr.trans ?_ (by assumption)))⟩
variable (bo st sp A P : Int) (ast : Bool) (hP : ∀ w, Calls Tryz.prog 44 #[.string X] w fun e w' => e = .returned (.tuple #[.agg #[.int .i64 bo, .int .i64 st, .int .i64 sp, .bool ast], .int .i64 A, .int .i64 P]) ∧ Gr w w')
include hP
set_option maxHeartbeats 1000000 in
theorem wordErr_c (h : E = 0) (h1 : bN = true) (h2 : P ≠ 0) (w : World) : Calls Tryz.prog 40 #[.agg #[.int .i64 k, .int .i64 l, .int .i64 s], .string X] w fun e w' => e = .returned (.int .i64 P) ∧ Gr w w' := by
  subst h h1
  have bP : (P != 0) = true := by simp [h2]
  clear h2
  go_enter Tryz.func40, Tryz.ntmps40
  go_wp2_with (first | (go_at_call 29; (with_reducible refine (hT _).mono ?_); rintro e w1 ⟨rfl, hb⟩; obtain ⟨hc, hf⟩ := gcells hb (w.heap.size + 1) (by first | exact hz | omega | (simp; done) | (simp; omega)); have hz : w.heap.size + 1 ≤ w1.heap.size := (by have h := hb.size; (try simp at h); omega); have hz0 : w.heap.size < w1.heap.size := (by omega)) | (go_at_call 30; (with_reducible refine (hN _).mono ?_); rintro e w1 ⟨rfl, rfl⟩) | (go_at_call 44; (with_reducible refine (hP _).mono ?_); rintro e w2 ⟨rfl, w2h⟩; obtain ⟨w2c, w2f⟩ := w2h.cells; have w2s := w2h.size; (try simp at w2s); have w2z : w.heap.size < w2.heap.size := (by omega)))
  go_ret
  exact ⟨rfl, (by repeat (first | (with_reducible exact Gr.refl _) | (with_reducible assumption) | (with_reducible refine Gr.alloc ?_ _) | (with_reducible refine Gr.drew ?_) | (with_reducible refine Gr.drewN ?_ _) | (with_reducible refine Gr.setCell ?_ (by simp <;> omega) _) | (with_reducible refine Gr.trans ?_ (by with_reducible assumption)) | exact Gr.refl _ | assumption | refine Gr.alloc ?_ _ | refine Gr.drew ?_ | refine Gr.drewN ?_ _ | refine Gr.setCell ?_ (by simp <;> omega) _ | refine Gr.trans ?_ (by assumption)))⟩
variable (T : List UInt8) (L n : Nat) (hn : psN T sp L = n) (hPl : ∀ w, Calls Tryz.prog 45 #[.string X, .agg #[.int .i64 bo, .int .i64 st, .int .i64 sp, .bool ast]] w (PlR T sp L w))
include hn hPl
set_option maxHeartbeats 4000000 in
theorem wordErr_d (h : E = 0) (h1 : bN = true) (h2 : P = 0) (w : World) : Calls Tryz.prog 40 #[.agg #[.int .i64 k, .int .i64 l, .int .i64 s], .string X] w fun e w' => e = .returned (.int .i64 (if (n : Int) ≠ l then 18 else 0)) ∧ Gr w w' := by
  subst h h1 h2
  unfold PlR at hPl
  rw [hn] at hPl
  have HN := Lib.hid hn
  clear hn
  have key : ∀ (bb : Bool) (c : Int), ((n : Int) != l) = bb → countI bb = c → Calls Tryz.prog 40 #[.agg #[.int .i64 k, .int .i64 l, .int .i64 s], .string X] w fun e w' => e = .returned (.int .i64 (18 * c)) ∧ Gr w w' := by
    intro bb c hbb hc
    have hCo : ∀ w, Calls Tryz.prog 53 #[.bool bb] w fun e w' => e = .returned (.int .i64 c) ∧ w = w' := fun w => by
      refine (Count_any bb w).mono fun e w' ⟨a, b, _⟩ => ⟨?_, b⟩
      rw [a, hc]
    have hcb : 0 ≤ c ∧ c ≤ 1 := by rw [← hc]; exact countI_bd bb
    have hw18 : IntKind.i64.wrap (18 * c) = 18 * c := IntWalk.i64_in _ (by omega)
    clear hc hcb
    go_enter Tryz.func40, Tryz.ntmps40
    go_upto_region 9 with (first | (go_at_call 29; (with_reducible refine (hT _).mono ?_); rintro e w1 ⟨rfl, hb⟩; obtain ⟨hc, hf⟩ := gcells hb (w.heap.size + 1) (by first | exact hz | omega | (simp; done) | (simp; omega)); have hz : w.heap.size + 1 ≤ w1.heap.size := (by have h := hb.size; (try simp at h); omega); have hz0 : w.heap.size < w1.heap.size := (by omega)) | (go_at_call 30; (with_reducible refine (hN _).mono ?_); rintro e w1 ⟨rfl, rfl⟩) | ((go_at_call 44; (with_reducible refine (hP _).mono ?_); rintro e w2 ⟨rfl, w2h⟩; obtain ⟨w2c, w2f⟩ := w2h.cells; have w2s := w2h.size; (try simp at w2s); have w2z : w.heap.size < w2.heap.size := (by omega))))
    have k1 : w2.cell? ⟨w.heap.size, 1, none⟩ = some (.int .i64 l) := by simp [go_sem, *]
    have GW : Gr w w2 := (by repeat (first | (with_reducible exact Gr.refl _) | (with_reducible assumption) | (with_reducible refine Gr.alloc ?_ _) | (with_reducible refine Gr.drew ?_) | (with_reducible refine Gr.drewN ?_ _) | (with_reducible refine Gr.setCell ?_ (by simp <;> omega) _) | (with_reducible refine Gr.trans ?_ (by with_reducible assumption)) | exact Gr.refl _ | assumption | refine Gr.alloc ?_ _ | refine Gr.drew ?_ | refine Gr.drewN ?_ _ | refine Gr.setCell ?_ (by simp <;> omega) _ | refine Gr.trans ?_ (by assumption)))
    clear hc hf hb hz hz0 w2c w2f w2h w2s
    generalize hg : w2.heap.size = g at *
    have q1 : (w2.alloc (.cells #[.int .i64 bo, .int .i64 st, .int .i64 sp, .bool ast] 66)).cell? ⟨w.heap.size, 1, none⟩ = some (.int .i64 l) := ((Gr.refl w2).alloc _).keep k1
    have q2 : (w2.alloc (.cells #[.int .i64 bo, .int .i64 st, .int .i64 sp, .bool ast] 66)).cell? ⟨g, 0, none⟩ = some (.int .i64 bo) := by subst hg; simp [go_sem]
    have q3 : (w2.alloc (.cells #[.int .i64 bo, .int .i64 st, .int .i64 sp, .bool ast] 66)).cell? ⟨g, 1, none⟩ = some (.int .i64 st) := by subst hg; simp [go_sem]
    have q4 : (w2.alloc (.cells #[.int .i64 bo, .int .i64 st, .int .i64 sp, .bool ast] 66)).cell? ⟨g, 2, none⟩ = some (.int .i64 sp) := by subst hg; simp [go_sem]
    have q5 : (w2.alloc (.cells #[.int .i64 bo, .int .i64 st, .int .i64 sp, .bool ast] 66)).cell? ⟨g, 3, none⟩ = some (.bool ast) := by subst hg; simp [go_sem]
    have GX : Gr w (w2.alloc (.cells #[.int .i64 bo, .int .i64 st, .int .i64 sp, .bool ast] 66)) := GW.alloc _
    clear k1 GW hg
    generalize w2.alloc (.cells #[.int .i64 bo, .int .i64 st, .int .i64 sp, .bool ast] 66) = W3 at *
    go_region_held3 (fun w' => w'.cell? ⟨w.heap.size, 1, none⟩ = some (.int .i64 l) ∧ w'.cell? ⟨g, 0, none⟩ = some (.int .i64 bo) ∧ w'.cell? ⟨g, 1, none⟩ = some (.int .i64 st) ∧ w'.cell? ⟨g, 2, none⟩ = some (.int .i64 sp) ∧ w'.cell? ⟨g, 3, none⟩ = some (.bool ast)) (((try go_split_ands); (repeat' apply And.intro) <;> ((try simp only [World.cell?_drew]); first | (with_reducible assumption) | (simp [go_sem]; done) | ((repeat (first | (refine keepFar ?_ (by first | (dsimp only; omega) | (simp; done) | (simp; omega))) | (refine (Gr.alloc (Gr.refl _) _).keep ?_))); (try simp only [World.cell?_drew]); first | (with_reducible assumption) | (refine hb.keep ?_; (try simp only [World.cell?_drew]); first | (with_reducible assumption) | (simp [go_sem]; done) | ((repeat (refine (Gr.alloc (Gr.refl _) _).keep ?_)); (try simp only [World.cell?_drew]); (with_reducible assumption))) | (simp [*, go_sem]; done))))) (first | (go_at_call 45; (with_reducible refine (hPl _).mono ?_); rintro e w4 ⟨Ap, cp, rfl, hO4, hb⟩; clear hO4) | (go_at_call 53; (with_reducible refine (hCo _).mono ?_); rintro e w1 ⟨rfl, rfl⟩))
    all_goals
      go_wp2_with fail
      go_ret
      exact ⟨rfl, (by repeat (first | (with_reducible exact Gr.refl _) | (with_reducible assumption) | (with_reducible refine Gr.alloc ?_ _) | (with_reducible refine Gr.drew ?_) | (with_reducible refine Gr.drewN ?_ _) | (with_reducible refine Gr.setCell ?_ (by simp <;> omega) _) | (with_reducible refine Gr.trans ?_ (by with_reducible assumption)) | exact Gr.refl _ | assumption | refine Gr.alloc ?_ _ | refine Gr.drew ?_ | refine Gr.drewN ?_ _ | refine Gr.setCell ?_ (by simp <;> omega) _ | refine Gr.trans ?_ (by assumption)))⟩
  by_cases g : (n : Int) = l
  · rw [if_neg (by omega)]
    exact key false 0 (by simp [g]) rfl
  · rw [if_pos g]
    exact key true 1 (by simp [g]) rfl
end
theorem wordErr_any (k l s : Int) (T : List UInt8) (hT : T.length ≤ 100) (w : World) :
    Calls Tryz.prog 40 #[.agg #[.int .i64 k, .int .i64 l, .int .i64 s], .string (BL T)] w fun e w' => e = .returned (.int .i64 (cwE k l s T)) ∧ Gr w w' := by
  have hTy := TypeErr_any k l s
  have hN := IsNumeric_any k
  have eN : withinB k 1 3 = isNum k := by
    unfold withinB isNum
    by_cases h1 : k = 1
    · subst h1; decide
    by_cases h2 : k = 2
    · subst h2; decide
    by_cases h3 : k = 3
    · subst h3; decide
    simp [h1, h2, h3]; omega
  rw [eN] at hN
  have hP := refParts_any T
  unfold cwE
  by_cases h0 : typeErr k l s = 0
  · cases hn : isNum k
    · have e : ntE k l s = 17 := by unfold ntE; rw [h0, hn]; decide
      rw [if_pos (by rw [e]; decide), e]
      exact wordErr_b k l s _ (BL T) hTy _ hN h0 hn w
    · have e : ntE k l s = 0 := by unfold ntE; rw [h0, hn]; decide
      rw [if_neg (by rw [e]; decide)]
      by_cases h2 : paE T = 0
      · rw [if_neg (by omega)]
        have hv : paV T = .agg #[.int .i64 (bodI T), .int .i64 (stsI T), .int .i64 (stpI T), .bool (astB T)] := by unfold paV; rw [if_pos h2]
        rw [hv] at hP
        exact wordErr_d k l s _ (BL T) hTy _ hN _ _ _ _ _ _ hP T T.length _ (psN_len T) (places_any T T.length (bodI T) (stsI T) (stpI T) (astB T) rfl hT) h0 hn h2 w
      · rw [if_pos h2]
        have hv : paV T = .agg #[.int .i64 0, .int .i64 0, .int .i64 0, .bool false] := by unfold paV; rw [if_neg h2]
        rw [hv] at hP
        exact wordErr_c k l s _ (BL T) hTy _ hN _ _ _ _ _ _ hP h0 hn h2 w
  · have e : ntE k l s = typeErr k l s := by unfold ntE; simp [first0, h0]
    rw [if_pos (by rw [e]; exact h0), e]
    exact wordErr_a k l s _ (BL T) hTy h0 w
end Go.Proofs.YtmdpejllbalnnaaGreatDoor
namespace Go.Proofs.YtmdpejllbalnnaaGreatDoor
set_option linter.unusedSimpArgs false
set_option linter.unusedVariables false
open Go.RowKit

/-- A character behind the body. -/
def exC (T : List UInt8) (st : Int) (sl : Nat) (neg : Bool) (q : Nat) : UInt8 :=
  if dAt T q = 38 then 32 else if st ≠ -1 ∧ (st ≤ (q : Int) ∧ (q : Int) ≤ st + sl - 1) ∧ neg = false then 32 else dAt T q
def exS (T : List UInt8) (b : Nat) (st : Int) (sl : Nat) (neg : Bool) : Nat → List UInt8
  | 0 => []
  | j + 1 => exS T b st sl neg j ++ [exC T st sl neg (b + j)]
theorem exS_len (T : List UInt8) (b : Nat) (st : Int) (sl : Nat) (neg : Bool) : ∀ j, (exS T b st sl neg j).length = j
  | 0 => rfl
  | j + 1 => by rw [exS]; simp [exS_len T b st sl neg j]
theorem dAt_l {a b : List UInt8} {i : Nat} (h : i < a.length) : dAt (a ++ b) i = dAt a i := by
  unfold dAt; rw [List.getD_eq_getElem?_getD, List.getD_eq_getElem?_getD, List.getElem?_append_left h]
theorem dAt_r {a b : List UInt8} {i : Nat} (h : a.length ≤ i) : dAt (a ++ b) i = dAt b (i - a.length) := by
  unfold dAt; rw [List.getD_eq_getElem?_getD, List.getD_eq_getElem?_getD, List.getElem?_append_right h]
theorem dAt_drop1 (l : List UInt8) (n i : Nat) : dAt (l.drop n) i = dAt l (n + i) := by
  unfold dAt; rw [List.getD_eq_getElem?_getD, List.getD_eq_getElem?_getD, List.getElem?_drop]
theorem dAt_rep {n i : Nat} (c : UInt8) (h : i < n) : dAt (List.replicate n c) i = c := by
  unfold dAt; rw [List.getD_eq_getElem?_getD, List.getElem?_replicate, if_pos h]; rfl
theorem dAt_amp (l : List UInt8) (i : Nat) (h : i < l.length) : dAt (amp l) i = if dAt l i = 38 then 32 else dAt l i := by
  unfold dAt amp
  rw [List.getD_eq_getElem?_getD, List.getD_eq_getElem?_getD, List.getElem?_map, List.getElem?_eq_getElem h]; rfl
theorem exS_at (T : List UInt8) (b : Nat) (st : Int) (sl : Nat) (neg : Bool) : ∀ n i, i < n → dAt (exS T b st sl neg n) i = exC T st sl neg (b + i)
  | 0, i, h => absurd h (Nat.not_lt_zero _)
  | n + 1, i, h => by
    have hl := exS_len T b st sl neg n
    rw [exS]
    by_cases g : i < n
    · rw [dAt_l (by omega), exS_at T b st sl neg n i g]
    · obtain rfl : i = n := by omega
      rw [dAt_r (by omega), hl, Nat.sub_self]; rfl
theorem list_dAt {a b : List UInt8} (h : a.length = b.length) (k : ∀ i, i < a.length → dAt a i = dAt b i) : a = b := by
  apply List.ext_getElem h
  intro i h1 h2
  have := k i h1
  unfold dAt at this
  rw [List.getD_eq_getElem?_getD, List.getD_eq_getElem?_getD, List.getElem?_eq_getElem h1, List.getElem?_eq_getElem h2] at this
  exact this
/-- What both write behind the body. -/
theorem ex_same (T : List UInt8) (b : Nat) (st : Int) (neg : Bool) (hb : b ≤ T.length) (hs : st = -1 ∨ ∃ s : Nat, st = s ∧ b ≤ s ∧ s + (sbL (T.drop s)).length ≤ T.length) (sl : Nat) (hsl : st ≠ -1 → sl = (sbL (T.drop st.toNat)).length) :
    expL T b st neg = exS T b st sl neg (T.length - b) := by
  unfold expL
  rw [Int.toNat_natCast]
  by_cases h : st ≠ -1 ∧ neg = false
  · rw [if_pos h]
    rcases hs with h2 | ⟨s, rfl, hbs, hsT⟩
    · exact absurd h2 h.1
    have hsl2 := hsl h.1
    rw [Int.toNat_natCast] at hsl2 ⊢
    rw [← hsl2] at hsT ⊢
    rw [show ((s : Int) - (b : Int)).toNat = s - b by omega]
    have h1 : ((T.drop b).take (s - b)).length = s - b := by rw [List.length_take, List.length_drop]; omega
    have hlen : ((T.drop b).take (s - b) ++ List.replicate sl 32 ++ T.drop (s + sl)).length = T.length - b := by
      rw [List.length_append, List.length_append, h1, List.length_replicate, List.length_drop]; omega
    refine list_dAt (by rw [amp_len, hlen, exS_len]) (fun i hi => ?_)
    rw [amp_len, hlen] at hi
    rw [exS_at _ _ _ _ _ _ i hi, dAt_amp _ _ (by rw [hlen]; exact hi)]
    unfold exC
    by_cases c1 : i < s - b
    · have e : dAt ((T.drop b).take (s - b) ++ List.replicate sl 32 ++ T.drop (s + sl)) i = dAt T (b + i) := by
        rw [dAt_l (by rw [List.length_append, h1]; omega), dAt_l (by omega), dAt_take _ _ _ c1, dAt_drop1]
      rw [e, if_neg (show ¬ ((s : Int) ≠ -1 ∧ ((s : Int) ≤ ((b + i : Nat) : Int) ∧ ((b + i : Nat) : Int) ≤ (s : Int) + sl - 1) ∧ neg = false) by omega)]
    · by_cases c2 : i < s - b + sl
      · have e : dAt ((T.drop b).take (s - b) ++ List.replicate sl 32 ++ T.drop (s + sl)) i = 32 := by
          rw [dAt_l (by rw [List.length_append, h1, List.length_replicate]; omega), dAt_r (by omega), h1, dAt_rep _ (by omega)]
        rw [e, if_neg (by decide), if_pos (show ((s : Int) ≠ -1 ∧ ((s : Int) ≤ ((b + i : Nat) : Int) ∧ ((b + i : Nat) : Int) ≤ (s : Int) + sl - 1) ∧ neg = false) from ⟨h.1, ⟨by omega, by omega⟩, h.2⟩)]
        split <;> rfl
      · have e : dAt ((T.drop b).take (s - b) ++ List.replicate sl 32 ++ T.drop (s + sl)) i = dAt T (b + i) := by
          rw [dAt_r (by rw [List.length_append, h1, List.length_replicate]; omega), List.length_append, h1, List.length_replicate, dAt_drop1]
          congr 1; omega
        rw [e, if_neg (show ¬ ((s : Int) ≠ -1 ∧ ((s : Int) ≤ ((b + i : Nat) : Int) ∧ ((b + i : Nat) : Int) ≤ (s : Int) + sl - 1) ∧ neg = false) by omega)]
  · rw [if_neg h]
    refine list_dAt (by rw [amp_len, List.length_drop, exS_len]) (fun i hi => ?_)
    rw [amp_len, List.length_drop] at hi
    rw [exS_at _ _ _ _ _ _ i hi, dAt_amp _ _ (by rw [List.length_drop]; exact hi), dAt_drop1]
    unfold exC
    rw [if_neg (show ¬ (st ≠ -1 ∧ (st ≤ ((b + i : Nat) : Int) ∧ ((b + i : Nat) : Int) ≤ st + sl - 1) ∧ neg = false) from fun k => h ⟨k.1, k.2.2⟩)]
theorem bI_snoc (l : List UInt8) (c : UInt8) : bI (l ++ [c]) = bI l ++ [(c.toNat : Int)] := by unfold bI; rw [List.map_append]; rfl
/-- The parts' cells in block g, and what has been written. -/
def WtW (w : World) (g : Nat) (bo st sp : Int) (ast : Bool) (v : Value) (zs : List UInt8) (wr : World) : Prop :=
  Own wr (g + 1) .u8 5 v (bI zs) ∧ Gr w wr ∧ (wr.cell? ⟨g, 0, none⟩ = some (.int .i64 bo) ∧ wr.cell? ⟨g, 1, none⟩ = some (.int .i64 st) ∧ wr.cell? ⟨g, 2, none⟩ = some (.int .i64 sp) ∧ wr.cell? ⟨g, 3, none⟩ = some (.bool ast)) ∧ g < wr.heap.size ∧ w.heap.size ≤ g
theorem WtW.app {w : World} {g : Nat} {bo st sp : Int} {ast : Bool} {v v1 : Value} {zs : List UInt8} {c : UInt8} {y : Int} {wr w1 : World} (h : WtW w g bo st sp ast v zs wr) (o : Obj) (hy : (c.toNat : Int) = y) (hO : Own w1 (g + 1) .u8 5 v1 (bI zs ++ [y])) (hB : Below (g + 1) (wr.alloc o) w1) : WtW w g bo st sp ast v1 (zs ++ [c]) w1 := by
  obtain ⟨-, hG, ⟨c0, c1, c2, c3⟩, hz, hw⟩ := h
  have hz2 := hB.size
  rw [World.size_alloc] at hz2
  have K := fun (j : Nat) (u : Value) (hc : wr.cell? ⟨g, j, none⟩ = some u) => keepc hB (p := ⟨g, j, none⟩) (show g < g + 1 by omega) (((Gr.refl wr).alloc o).keep hc)
  refine ⟨by rw [bI_snoc, hy]; exact hO, Below.trans (hG.alloc o) (hB.mono (by omega)), ⟨K 0 _ c0, K 1 _ c1, K 2 _ c2, K 3 _ c3⟩, by omega, hw⟩
end Go.Proofs.YtmdpejllbalnnaaGreatDoor
