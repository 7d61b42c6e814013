/- Where a pattern stands: program (strings.Index) and reference. -/
import Derived.Test.YtbgeghodiibmmaaWa
import Derived.Lib.Index
namespace Go.Proofs.Ytbgeghodiibmmaa
set_option linter.unusedSimpArgs false
set_option linter.unusedVariables false
open Go.RowKit

/-- The pattern stands at i. -/
def fI (x d : ByteArray) (i : Nat) : Bool := (x.extract i (i + d.size)).toList == d.toList
def fdN (x d : ByteArray) (a : Nat) : Nat := fB (fI x d) (x.size + 1 - d.size - a) a
def fdR (x d : ByteArray) (a : Nat) : Int := if fdN x d a + d.size ≤ x.size then (fdN x d a : Int) else -1

theorem tl_cut (x : ByteArray) (a b : Nat) : (x.extract a b).data.toList = (x.data.toList.drop a).take (b - a) := by
  rw [ByteArray.data_extract, Array.toList_extract]
theorem len_tl (x : ByteArray) : x.data.toList.length = x.size := Array.length_toList
theorem ba_list {x y : ByteArray} : x = y ↔ x.data.toList = y.data.toList := by
  constructor
  · intro h; rw [h]
  · intro h
    obtain ⟨⟨l⟩⟩ := x
    obtain ⟨⟨m⟩⟩ := y
    simp at h
    rw [h]
theorem fI_occ (x d : ByteArray) (a j : Nat) (h : a + j + d.size ≤ x.size) : fI x d (a + j) = Lib.occAt (x.extract a x.size).data.toList d.data.toList j := by
  have hl := len_tl x
  have hd := len_tl d
  rw [tl_cut, List.take_of_length_le (by rw [List.length_drop, hl]; omega), Lib.occAt_iff_take _ _ _ (by rw [List.length_drop, hl, hd]; omega), List.drop_drop]
  unfold fI
  rw [ByteArray.toList_eq, ByteArray.toList_eq, tl_cut, hd, show a + j + d.size - (a + j) = d.size by omega]
theorem fB_before (f : Nat → Bool) : ∀ m i k, i ≤ k → k < fB f m i → f k = false
  | 0, i, k, h, h' => by simp [fB] at h'; omega
  | m + 1, i, k, h, h' => by
    by_cases hf : f i = true
    · rw [fB_yes (by omega) hf] at h'; omega
    · have hf' : f i = false := by simpa using hf
      rcases Nat.eq_or_lt_of_le h with e | e
      · rw [← e]; exact hf'
      · rw [fB, if_neg (by rw [hf']; decide)] at h'
        exact fB_before f m (i + 1) k e h'
/-- strings.Index behind a place, and the reference's first place. -/
theorem fd_index (x d : ByteArray) (a : Nat) (ha : a ≤ x.size) (hd : d.size ≠ 0) :
    (fdR x d a = -1 ∧ Lib.index (x.extract a x.size).data.toList d.data.toList = -1) ∨ (∃ k : Nat, fdR x d a = ((a + k : Nat) : Int) ∧ a + k ≤ x.size ∧ Lib.index (x.extract a x.size).data.toList d.data.toList = k) := by
  have hl := len_tl (x.extract a x.size)
  rw [ByteArray.size_extract] at hl
  have hdl := len_tl d
  have hle := fB_le (fI x d) (x.size + 1 - d.size - a) a
  by_cases h : fdN x d a + d.size ≤ x.size
  · right
    unfold fdN at h
    obtain ⟨k, hk⟩ : ∃ k, fB (fI x d) (x.size + 1 - d.size - a) a = a + k := ⟨_, (Nat.add_sub_of_le hle.1).symm⟩
    have hyes := fB_bad (fI x d) (x.size + 1 - d.size - a) a (by omega)
    rw [hk] at h hyes
    refine ⟨k, by unfold fdR fdN; rw [hk, if_pos h], by omega, Lib.index_first (by omega) (by rw [← fI_occ x d a k (by omega)]; exact hyes) fun j hj => ?_⟩
    rw [← fI_occ x d a j (by omega)]
    exact fB_before (fI x d) (x.size + 1 - d.size - a) a (a + j) (by omega) (by rw [hk]; omega)
  · left
    refine ⟨by unfold fdR; rw [if_neg h], Lib.index_none fun j hj => ?_⟩
    unfold fdN at h
    have hall : fB (fI x d) (x.size + 1 - d.size - a) a = a + (x.size + 1 - d.size - a) := by omega
    rcases Bool.eq_false_or_eq_true (Lib.occAt (x.extract a x.size).data.toList d.data.toList j) with ho | ho
    · exfalso
      rcases Lib.occAt_room ho with hr | hr
      · have hr' : a + j + d.size ≤ x.size := by omega
        rw [← fI_occ x d a j hr'] at ho
        rw [fB_all (fI x d) _ a hall (a + j) (by omega) (by omega)] at ho
        cases ho
      · rw [hr] at hdl; simp at hdl; omega
    · exact ho

set_option maxHeartbeats 2000000 in
set_option maxRecDepth 100000 in
theorem Find_any (x d : ByteArray) (A : Option Addr) (n c : Nat) (a : Nat) (R : Int) (hR : fdR x d a = R) (w : World) (hx : x.size ≤ 1024) (hd : d.size ≤ 1200) (ha : a ≤ x.size) :
    Calls Try.prog 44 #[.agg #[.string x, .slice A n c], .int .i64 a, .string d] w fun e w' => e = .returned (.int .i64 R) ∧ Gr w w' := by
  have HR := Lib.hid hR
  clear hR
  go_enter Try.func44, Try.ntmps44
  go_wp2
  go_loopw [7] (fun i wr => ∃ q : Nat, a ≤ q ∧ q ≤ x.size + 1 ∧ i = .int .i64 q ∧ Hid (fB (fI x d) (x.size + 1 - d.size - q) q = fdN x d a) ∧ Hid (Gr (w.alloc (.cells #[.string x, .slice A n c] 40)) wr)) (fun i _ => x.size + 1 - (intOf i).toNat)
  case atStart => exact ⟨a, Nat.le_refl _, by omega, rfl, Lib.hid rfl, Lib.hid (Gr.refl _)⟩
  case round =>
    obtain ⟨q, hq, hq2, rfl, hF, hG⟩ := hrel
    have c0 := hG.out.keep (p := ⟨w.heap.size, 0, none⟩) (v := .string x) (by simp)
    have hz : w.heap.size + 1 ≤ wr.heap.size := by have := hG.out.size; simpa using this
    by_cases hlt : q + d.size ≤ x.size
    · have hsl := cut_ij x q (q + d.size) q (q + d.size) rfl rfl (by omega) hlt
      have hlt' : (q : Int) + d.size ≤ x.size := by omega
      rcases Bool.eq_false_or_eq_true (fI x d q) with ht | ht
      · have F := Lib.hid ht
        have hf : ((x.extract q (q + d.size)).toList == d.toList) = true := ht
        clear ht
        go_wp2
        go_ret
        refine ⟨ret_int ?_, ((Gr.refl _).alloc _).trans hG.out⟩
        have h1 := hF.out
        rw [fB_yes (by omega) F.out] at h1
        rw [← HR.out]; unfold fdR; rw [← h1, if_pos hlt]
      · have F := Lib.hid ht
        have hf : ((x.extract q (q + d.size)).toList == d.toList) = false := ht
        clear ht
        go_wp2
        go_roundw
        case rel =>
          refine ⟨q + 1, by omega, by omega, by go_num, Lib.hid ?_, hG⟩
          rw [← hF.out, show x.size + 1 - d.size - q = (x.size + 1 - d.size) - q by omega]
          exact (fB_no (by omega) F.out).symm
        case measure => simp [intOf]; omega
    · have hlt' : ¬ (q : Int) + d.size ≤ x.size := by omega
      have E := Lib.hid (show R = -1 by
        have h1 := hF.out
        rw [show x.size + 1 - d.size - q = 0 by omega] at h1
        simp only [fB] at h1
        rw [← HR.out]; unfold fdR; rw [← h1, if_neg hlt])
      go_wp2
      go_ret
      exact ⟨ret_int E.out.symm, ((Gr.refl _).alloc _).trans hG.out⟩
end Go.Proofs.Ytbgeghodiibmmaa
