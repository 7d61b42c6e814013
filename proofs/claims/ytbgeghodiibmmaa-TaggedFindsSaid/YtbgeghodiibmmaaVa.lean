/- New storages: the program's NewStorage, the reference's New. -/
import Derived.Test.YtbgeghodiibmmaaTo
import Derived.Test.YtbgeghodiibmmaaF0
import Derived.Test.YtbgeghodiibmmaaShelf
namespace Go.Proofs.Ytbgeghodiibmmaa
set_option linter.unusedSimpArgs false
set_option linter.unusedVariables false
open Go.RowKit

/-- make([]bool, n) -/
theorem mk_bl (N : Int) (n : Nat) (hN : N = n) (hb : n ≤ 100000) (w : World) :
    (Instr.makeSlice 38 (.int .i64 N) (.int .i64 N)).run Try.prog w = .ok (.slice (some ⟨w.heap.size, 0, none⟩) n n) (w.alloc (.cells (madeCells #[.bool false] n) 4)) := by
  obtain ⟨i0, hi, hz0, hz1, hz2⟩ := info_parts infoBool
  subst hN
  have h := run_make (w := w) 38 4 i0 (.bool false) Try.underlying38 hi hz0 .i64 .i64 n n (by omega) (by omega) (by rw [hz2]; omega) (by omega)
  rw [hz1, Int.toNat_natCast, Nat.mul_one] at h
  exact h
theorem Wv.made (w : World) (B : Nat) (hB : B ≤ w.heap.size) (z : Value) (n : Nat) (hn : n ≤ 100000) (t : TypeId) : Wv (w.alloc (.cells (madeCells #[z] n) t)) B (some ⟨w.heap.size, 0, none⟩) n n 1 (List.replicate n z) := by
  have hc : ∀ j, j < n * 1 → (w.alloc (.cells (madeCells #[z] n) t)).cell? ⟨w.heap.size, j, none⟩ = (List.replicate n z)[j]? := by
    intro j hj
    rw [World.cell?_alloc_new, ← Array.getElem?_toList, toList_madeCells_one]
  have hl : w.heap.size < (w.alloc (.cells (madeCells #[z] n) t)).heap.size := by simp
  exact ⟨⟨by simp, Nat.le_refl _, by unfold maxLen; omega, (fun h => by cases h), fun _ => ⟨w.heap.size, 0, rfl, hl, fun j hj => by rw [Nat.zero_add]; exact hc j hj⟩⟩, fun _ => ⟨w.heap.size, rfl, hB, hl, hc, fun j => by rw [World.frozen?_alloc_new]⟩⟩
theorem bv_rep (n : Nat) : bv (List.replicate n false) = List.replicate n (.bool false) := by simp [bv]

theorem cv_own {w : World} {B : Nat} {v : Value} {xs : List Int} (h : Own w B .u8 5 v xs) : (convert 98 9 v).run Try.prog w = .ok (.string (strOfNums xs)) w := by
  rcases h.2 with ⟨h', h0⟩ | ⟨g', cap', cur, h', _, hg, _⟩
  · have e : xs = [] := List.eq_nil_of_length_eq_zero h0
    subst e h'
    exact run_convert_bytes_nil w 98 5 Try.underlying98 Try.underlying5 0 0 9 Try.underlying9
  · subst h'
    exact run_convert_bytes_arg w 98 5 Try.underlying98 Try.underlying5 g' 0 _ cap' xs rfl (fun i hi => by rw [Nat.zero_add]; exact Own.cell h i hi) 9 Try.underlying9

set_option maxHeartbeats 2000000 in
set_option maxRecDepth 100000 in
theorem baseRepeat_any (N : Nat) (C : Int) (hC : C = N) (hN : N ≤ 100000) (w : World) :
    Calls Try.prog 57 #[.int .u8 0, .int .i64 C] w fun e w' => e = .returned (.string (strOfNums (List.replicate N 0))) ∧ Gr w w' := by
  obtain ⟨i0, hi, hz0, hz1, hz2⟩ := info_parts infoB
  subst hC
  go_enter Try.func57, Try.ntmps57
  go_wp2
  go_loopw [5, 6] (fun l x wr => ∃ q : Nat, q ≤ N ∧ x = .int .i64 q ∧ Hid (Own wr w.heap.size .u8 5 l (List.replicate q 0)) ∧ Hid (Gr w wr)) (fun _ x _ => ((N : Int) - intOf x).toNat)
  case atStart => exact ⟨0, by omega, rfl, Lib.hid (Own.nil _ _ _ _), Lib.hid (by repeat (first | (with_reducible exact Gr.refl _) | (with_reducible assumption) | (with_reducible refine Gr.alloc ?_ _) | (with_reducible refine Gr.drew ?_) | (with_reducible refine Gr.drewN ?_ _) | (with_reducible refine Gr.setCell ?_ (by simp <;> omega) _) | (with_reducible refine Gr.trans ?_ (by with_reducible assumption)) | exact Gr.refl _ | assumption | refine Gr.alloc ?_ _ | refine Gr.drew ?_ | refine Gr.drewN ?_ _ | refine Gr.setCell ?_ (by simp <;> omega) _ | refine Gr.trans ?_ (by assumption)))⟩
  case round =>
    obtain ⟨q, hq, rfl, hO, hG⟩ := hrel
    have hsz := hG.out.size
    by_cases hlt : (q : Int) < N
    · have hq1 : q + 1 ≤ N := by omega
      go_wp2_with (at_builtin; go_loud (refine wp_append_ints _ rfl _ _ 98 5 rfl .u8 i0 1 Try.underlying98 hi hz0 hz1 hz2 (by decide) w.heap.size _ (List.replicate q 0) rfl (hO.out.alloc _) (q + 1) wr.heap.size 1 1 [0] (by first | rfl | simp) rfl (by omega) (fun j hj => one_cell _ _ _ _ j hj) (by simp) (by omega) (by simp <;> omega) ?_); intro g1 cap1 w2 hO2 hB2 hgr2 hg1 hg1l)
      go_roundw
      case rel =>
        refine ⟨q + 1, hq1, by simp, Lib.hid ?_, Lib.hid (Below.trans (Gr.alloc hG.out _) hB2)⟩
        rw [List.replicate_succ']; exact hO2
      case measure => simp [intOf]; omega
    · obtain rfl : q = N := by omega
      have hcv := cv_own hO.out
      have HO := hO
      clear hO
      go_wp2
      go_ret
      exact ⟨rfl, hG.out⟩

/-- A storage of zeros. -/
def zS (n : Nat) : ByteArray := strOfNums (List.replicate (16 * n) 0)
theorem rep_zero (n : Nat) : (⟨(Lib.repeatL (⟨#[0]⟩ : ByteArray).data.toList (16 * n)).toArray⟩ : ByteArray) = zS n := by
  have h : ∀ m, Lib.repeatL [(0 : UInt8)] m = List.replicate m 0 := by
    intro m
    induction m with
    | zero => rfl
    | succ m ih => simp [Lib.repeatL, ih, List.replicate_succ]
  unfold zS
  rw [h]
  simp [strOfNums]
theorem strRepeat_any (n : Nat) (C : Int) (hC : C = ((16 * n : Nat) : Int)) (hn : n ≤ 100000) (w : World) :
    Calls Try.prog 55 #[.string ⟨#[0]⟩, .int .i64 C] w fun e w' => e = .returned (.string (zS n)) ∧ Gr w w' := by
  subst hC
  have h := Try.strings_Repeat ⟨#[0]⟩ (16 * n) w (by omega) (by simp [ByteArray.size]; omega)
  rw [rep_zero] at h
  exact h

set_option maxHeartbeats 2000000 in
set_option maxRecDepth 100000 in
theorem NewStorage_no (N : Int) (hN : inI N 64 = false) (w : World) :
    Calls Try.prog 21 #[.int .i64 N] w (StE ⟨#[]⟩ 0 [] 3 w) := by
  go_enter Try.func21, Try.ntmps21
  go_wp2_with (go_at_call 48; refine (isIn_any _ _ _).mono ?_; rintro e w1 ⟨rfl, rfl⟩)
  refine bodyPost_ret (v := .tuple #[.agg #[.string ⟨#[]⟩, .slice none 0 0], .int .i64 3]) (by simp [results, Try.results21, go_sem, *]) rfl ⟨none, 0, rfl, ⟨Sv.nil _ _, fun h => absurd h (by omega)⟩, (by repeat (first | (with_reducible exact Gr.refl _) | (with_reducible assumption) | (with_reducible refine Gr.alloc ?_ _) | (with_reducible refine Gr.drew ?_) | (with_reducible refine Gr.drewN ?_ _) | (with_reducible refine Gr.setCell ?_ (by simp <;> omega) _) | (with_reducible refine Gr.trans ?_ (by with_reducible assumption)) | exact Gr.refl _ | assumption | refine Gr.alloc ?_ _ | refine Gr.drew ?_ | refine Gr.drewN ?_ _ | refine Gr.setCell ?_ (by simp <;> omega) _ | refine Gr.trans ?_ (by assumption)))⟩

set_option maxHeartbeats 2000000 in
set_option maxRecDepth 100000 in
theorem NewStorage_yes (n : Nat) (hn : n ≤ 64) (w : World) :
    Calls Try.prog 21 #[.int .i64 n] w (StE (zS n) n (List.replicate n false) 0 w) := by
  have hi : inI n 64 = true := by simp [inI]; omega
  have hmk := mk_bl n n rfl (by omega)
  have hwr : IntKind.i64.wrap ((n : Int) * 16) = ((16 * n : Nat) : Int) := by rw [IntKind.wrap_i64]; omega
  go_enter Try.func21, Try.ntmps21
  go_upto_region 3 with (go_at_call 48; refine (isIn_any _ _ _).mono ?_; rintro e w1 ⟨rfl, rfl⟩)
  go_region_held3 (fun _ => True) (trivial)
    ((go_at_call 55; (with_reducible refine (strRepeat_any n _ (by first | exact hwr | omega) (by omega) _).mono ?_); rintro e w1 ⟨rfl, hb⟩; obtain ⟨hc, hf⟩ := gcells hb (w.heap.size + 1) (by first | (simp; done) | (simp; omega)); have hz : w.heap.size + 1 ≤ w1.heap.size := (by have h := hb.size; (try simp at h); omega); have hz0 : w.heap.size < w1.heap.size := (by omega)))
  all_goals go_wp2
  · refine bodyPost_ret (v := .tuple #[.agg #[.string (zS n), .slice (some ⟨w1.heap.size, 0, none⟩) n n], .int .i64 0]) (by simp [results, Try.results21, go_sem, *]) rfl ⟨_, _, rfl, by rw [bv_rep]; have h := Wv.made ((w1.setCell ⟨w.heap.size, 0, none⟩ (.string (zS n))).setCell ⟨w.heap.size, 1, none⟩ (.slice (some ⟨w1.heap.size, 0, none⟩) n n)) w.heap.size (by simp; omega) (.bool false) n (by omega) 4; (simp only [World.size_setCell] at h); exact h, (by repeat (first | (with_reducible exact Gr.refl _) | (with_reducible assumption) | (with_reducible refine Gr.alloc ?_ _) | (with_reducible refine Gr.drew ?_) | (with_reducible refine Gr.drewN ?_ _) | (with_reducible refine Gr.setCell ?_ (by simp <;> omega) _) | (with_reducible refine Gr.trans ?_ (by with_reducible assumption)) | exact Gr.refl _ | assumption | refine Gr.alloc ?_ _ | refine Gr.drew ?_ | refine Gr.drewN ?_ _ | refine Gr.setCell ?_ (by simp <;> omega) _ | refine Gr.trans ?_ (by assumption)))⟩
  · have hW : Wv w1 (w.heap.size + 1) (some ⟨w.heap.size + 1, 0, none⟩) n n 1 (List.replicate n (.bool false)) := by
      refine Wv.gr ?_ hb
      have h := Wv.made (w.alloc (Obj.cells #[Value.string { data := #[] }, Value.slice none 0 0] 40)) (w.heap.size + 1) (by simp) (.bool false) n (by omega) 4
      simp only [World.size_alloc] at h
      exact h
    refine bodyPost_ret (v := .tuple #[.agg #[.string (zS n), .slice (some ⟨w.heap.size + 1, 0, none⟩) n n], .int .i64 0]) (by simp [results, Try.results21, go_sem, *]) rfl ⟨_, _, rfl, by rw [bv_rep]; exact ((hW.setLow (by simp) _).setLow (by simp) _).mono (by omega), (by repeat (first | (with_reducible exact Gr.refl _) | (with_reducible assumption) | (with_reducible refine Gr.alloc ?_ _) | (with_reducible refine Gr.drew ?_) | (with_reducible refine Gr.drewN ?_ _) | (with_reducible refine Gr.setCell ?_ (by simp <;> omega) _) | (with_reducible refine Gr.trans ?_ (by with_reducible assumption)) | exact Gr.refl _ | assumption | refine Gr.alloc ?_ _ | refine Gr.drew ?_ | refine Gr.drewN ?_ _ | refine Gr.setCell ?_ (by simp <;> omega) _ | refine Gr.trans ?_ (by assumption)))⟩

theorem baseRepeat_z (n : Nat) (C : Int) (hC : C = ((16 * n : Nat) : Int)) (hn : n ≤ 1000) (w : World) :
    Calls Try.prog 57 #[.int .u8 0, .int .i64 C] w fun e w' => e = .returned (.string (zS n)) ∧ Gr w w' := baseRepeat_any (16 * n) C hC (by omega) w

set_option maxHeartbeats 2000000 in
set_option maxRecDepth 100000 in
theorem New_any (n : Nat) (hn : n ≤ 64) (w : World) :
    Calls Try.prog 25 #[.int .i64 n] w (StR (zS n) n (List.replicate n false) w) := by
  have hmk := mk_bl n n rfl (by omega)
  have hwr : IntKind.i64.wrap ((n : Int) * 16) = ((16 * n : Nat) : Int) := by rw [IntKind.wrap_i64]; omega
  go_enter Try.func25, Try.ntmps25
  go_upto_region 1 with (fail)
  go_region_held3 (fun _ => True) (trivial)
    ((go_at_call 57; (with_reducible refine (baseRepeat_z n _ (by first | exact hwr | omega) (by omega) _).mono ?_); rintro e w1 ⟨rfl, hb⟩; obtain ⟨hc, hf⟩ := gcells hb (w.heap.size + 1) (by first | (simp; done) | (simp; omega)); have hz : w.heap.size + 1 ≤ w1.heap.size := (by have h := hb.size; (try simp at h); omega); have hz0 : w.heap.size < w1.heap.size := (by omega)))
  all_goals go_wp2
  · refine bodyPost_ret (v := .agg #[.string (zS n), .slice (some ⟨w1.heap.size, 0, none⟩) n n]) (by simp [results, Try.results25, go_sem, *]) rfl ⟨_, _, rfl, by rw [bv_rep]; have h := Wv.made ((w1.setCell ⟨w.heap.size, 0, none⟩ (.string (zS n))).setCell ⟨w.heap.size, 1, none⟩ (.slice (some ⟨w1.heap.size, 0, none⟩) n n)) w.heap.size (by simp; omega) (.bool false) n (by omega) 4; (simp only [World.size_setCell] at h); exact h, (by repeat (first | (with_reducible exact Gr.refl _) | (with_reducible assumption) | (with_reducible refine Gr.alloc ?_ _) | (with_reducible refine Gr.drew ?_) | (with_reducible refine Gr.drewN ?_ _) | (with_reducible refine Gr.setCell ?_ (by simp <;> omega) _) | (with_reducible refine Gr.trans ?_ (by with_reducible assumption)) | exact Gr.refl _ | assumption | refine Gr.alloc ?_ _ | refine Gr.drew ?_ | refine Gr.drewN ?_ _ | refine Gr.setCell ?_ (by simp <;> omega) _ | refine Gr.trans ?_ (by assumption)))⟩
  · have hW : Wv w1 (w.heap.size + 1) (some ⟨w.heap.size + 1, 0, none⟩) n n 1 (List.replicate n (.bool false)) := by
      refine Wv.gr ?_ hb
      have h := Wv.made (w.alloc (Obj.cells #[Value.string { data := #[] }, Value.slice none 0 0] 40)) (w.heap.size + 1) (by simp) (.bool false) n (by omega) 4
      simp only [World.size_alloc] at h
      exact h
    refine bodyPost_ret (v := .agg #[.string (zS n), .slice (some ⟨w.heap.size + 1, 0, none⟩) n n]) (by simp [results, Try.results25, go_sem, *]) rfl ⟨_, _, rfl, by rw [bv_rep]; exact ((hW.setLow (by simp) _).setLow (by simp) _).mono (by omega), (by repeat (first | (with_reducible exact Gr.refl _) | (with_reducible assumption) | (with_reducible refine Gr.alloc ?_ _) | (with_reducible refine Gr.drew ?_) | (with_reducible refine Gr.drewN ?_ _) | (with_reducible refine Gr.setCell ?_ (by simp <;> omega) _) | (with_reducible refine Gr.trans ?_ (by with_reducible assumption)) | exact Gr.refl _ | assumption | refine Gr.alloc ?_ _ | refine Gr.drew ?_ | refine Gr.drewN ?_ _ | refine Gr.setCell ?_ (by simp <;> omega) _ | refine Gr.trans ?_ (by assumption)))⟩
end Go.Proofs.Ytbgeghodiibmmaa
