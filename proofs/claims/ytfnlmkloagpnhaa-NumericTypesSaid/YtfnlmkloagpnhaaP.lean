/- Walks: SizeOf, LeastOf, GreatestOf, and their references. -/
import Derived.Test.YtfnlmkloagpnhaaO
import Derived.Test.YtfnlmkloagpnhaaShelf
import Derived.Lib.Repeat
namespace Go.Proofs.Ytfnlmkloagpnhaa
set_option linter.unusedSimpArgs false
set_option linter.unusedVariables false
open Go.RowKit

theorem typeErr_l {k l s : Int} (h : typeErr k l s = 0) : 0 ≤ l ∧ l ≤ 256 := by
  by_cases hk : k = 4
  · subst hk
    have h' : rightLen 4 l = true := by
      by_cases e : rightLen 4 l = true
      · exact e
      · exfalso; simp [typeErr, e] at h
    simp [rightLen] at h'; omega
  · have := typeErr_len h hk; omega

theorem SizeOf_any (k l s : Int) (w : World) :
    Calls Try.prog 14 #[.agg #[.int .i64 k, .int .i64 l, .int .i64 s]] w fun e w' => e = .returned (.tuple #[.int .i64 (if typeErr k l s = 0 then sizeI k l else 0), .int .i64 (typeErr k l s)]) ∧ Gr w w' := by
  by_cases he : typeErr k l s = 0
  · have hb0 : (typeErr k l s != 0) = false := by simp [he]
    obtain ⟨l0, l1⟩ := typeErr_l he
    have HE := Lib.hid he
    clear he
    go_enter Try.func14, Try.ntmps14
    go_wp2_with (first | (go_at_call 18; refine (CheckType_any _ _ _ _).mono ?_; rintro e w1 ⟨rfl, hb⟩; obtain ⟨hc, hf⟩ := hb.cells; have hz : w.heap.size < w1.heap.size := by have h := hb.size; (try simp at h); omega) | (go_at_call 40; refine (sizeOf_any _ _ _ l0 l1 _).mono ?_; rintro e w1 ⟨rfl, hb⟩; obtain ⟨hc, hf⟩ := hb.cells; have hz : w.heap.size < w1.heap.size := by have h := hb.size; (try simp at h); omega))
    go_ret2
    exact ⟨by simp [HE.out], (by repeat (first | exact Gr.refl _ | assumption | refine Gr.alloc ?_ _ | refine Gr.drew ?_ | refine Gr.drewN ?_ _ | refine Gr.setCell ?_ (by simp <;> omega) _ | refine Gr.trans ?_ (by assumption)))⟩
  · have hb0 : (typeErr k l s != 0) = true := by simp [he]
    have HE := Lib.hid he
    clear he
    go_enter Try.func14, Try.ntmps14
    go_wp2_with (go_at_call 18; refine (CheckType_any _ _ _ _).mono ?_; rintro e w1 ⟨rfl, hb⟩; obtain ⟨hc, hf⟩ := hb.cells; have hz : w.heap.size < w1.heap.size := by have h := hb.size; (try simp at h); omega)
    go_ret2
    exact ⟨by simp [HE.out], (by repeat (first | exact Gr.refl _ | assumption | refine Gr.alloc ?_ _ | refine Gr.drew ?_ | refine Gr.drewN ?_ _ | refine Gr.setCell ?_ (by simp <;> omega) _ | refine Gr.trans ?_ (by assumption)))⟩

/-- So many copies of a byte. -/
def repS (c : Int) (n : Nat) : ByteArray := strOfNums (List.replicate n c)
theorem repS_shelf (c : UInt8) (n : Nat) : (⟨(Lib.repeatL [c] n).toArray⟩ : ByteArray) = repS c.toNat n := by
  have h := Lib.repeatL_replicate c 1 n
  rw [show List.replicate 1 c = [c] from rfl, Nat.mul_one] at h
  rw [h]
  unfold repS strOfNums
  rw [List.map_replicate]
  simp

/-- The error of a type that must have values. -/
def vdErr (k l s : Int) : Int := first0 [typeErr k l s, pick (k == 4) 17]
def leastN (k l s : Int) : Int := if vdErr k l s ≠ 0 ∨ k = 0 then 0 else -most l
def mostN (k l s : Int) : Int := if vdErr k l s ≠ 0 ∨ k = 0 then 0 else most l
def edgeS (k l s c : Int) : ByteArray := if vdErr k l s ≠ 0 ∨ k ≠ 0 then ⟨#[]⟩ else repS c l.toNat

theorem repeat_any (c : UInt8) (n : Nat) (hn : n ≤ 256) (w : World) :
    Calls Try.prog 42 #[.string ⟨#[c]⟩, .int .i64 n] w fun e w' => e = .returned (.string (repS c.toNat n)) ∧ Gr w w' :=
  (Try.strings_Repeat ⟨#[c]⟩ n w (by omega) (by show 1 * n ≤ _; omega)).mono fun e w' ⟨a, b⟩ => ⟨by rw [a]; exact congrArg (fun s => Ending.returned (.string s)) (repS_shelf c n), b⟩

theorem checkValued_vd (k l s : Int) (w : World) :
    Calls Try.prog 41 #[.agg #[.int .i64 k, .int .i64 l, .int .i64 s]] w fun e w' => e = .returned (.int .i64 (vdErr k l s)) ∧ Gr w w' := checkValued_any k l s w
theorem vd_ok {k l s : Int} (h : vdErr k l s = 0) : typeErr k l s = 0 ∧ k ≠ 4 := by
  have ht : typeErr k l s = 0 := by by_cases e : typeErr k l s = 0; exact e; simp [vdErr, first0, e] at h
  exact ⟨ht, by intro e; subst e; simp [vdErr, first0, pick, ht] at h⟩

set_option maxHeartbeats 1000000 in
set_option maxRecDepth 100000 in
theorem LeastOf_any (k l s : Int) (w : World) :
    Calls Try.prog 15 #[.agg #[.int .i64 k, .int .i64 l, .int .i64 s]] w fun e w' => e = .returned (.tuple #[.agg #[.int .i64 (leastN k l s), .string (edgeS k l s 0)], .int .i64 (vdErr k l s)]) ∧ Gr w w' := by
  by_cases he : vdErr k l s = 0
  · have hb0 : (vdErr k l s != 0) = false := by simp [he]
    obtain ⟨ht, h4⟩ := vd_ok he
    obtain ⟨l0, l1, l2, _, _⟩ := typeErr_len ht h4
    have HE := Lib.hid he
    clear he ht h4
    by_cases k0 : k = 0
    · subst k0
      obtain ⟨L, rfl⟩ := Int.eq_ofNat_of_zero_le (show 0 ≤ l by omega)
      clear l2
      go_enter Try.func15, Try.ntmps15
      go_wp2_with (first | (go_at_call 41; refine (checkValued_vd _ _ _ _).mono ?_; rintro e w1 ⟨rfl, hb⟩; obtain ⟨hc, hf⟩ := cellsB hb (w.heap.size + 2) (by first | omega | ((try simp) <;> omega)); have hz : w.heap.size + 1 < w1.heap.size := (by have h := hb.size; (try simp at h); omega)) | (go_at_call 42; refine (repeat_any 0 _ (by omega) _).mono ?_; rintro e w1 ⟨rfl, hb⟩; obtain ⟨hc, hf⟩ := cellsB hb (w.heap.size + 2) (by first | omega | ((try simp) <;> omega)); have hz : w.heap.size + 1 < w1.heap.size := (by have h := hb.size; (try simp at h); omega)))
      refine bodyPost_ret (v := .tuple #[.agg #[.int .i64 0, .string (repS 0 L)], .int .i64 0]) (by simp [results, Try.results15, go_sem, *]) rfl ⟨by simp [leastN, edgeS, HE.out], (by repeat (first | exact Gr.refl _ | assumption | refine Gr.alloc ?_ _ | refine Gr.drew ?_ | refine Gr.drewN ?_ _ | refine Gr.setCell ?_ (by simp <;> omega) _ | refine Gr.trans ?_ (by assumption)))⟩
    · have kb : (k == 0) = false := by simp [k0]
      have l15 := l2 k0
      have HK := Lib.hid k0
      clear k0 l2
      have hm : 0 ≤ most l ∧ most l ≤ 1000000000000000000 := by have := p10_bd l (by omega); unfold most; omega
      go_enter Try.func15, Try.ntmps15
      go_wp2_with (first | (go_at_call 41; refine (checkValued_vd _ _ _ _).mono ?_; rintro e w1 ⟨rfl, hb⟩; obtain ⟨hc, hf⟩ := cellsB hb (w.heap.size + 2) (by first | omega | ((try simp) <;> omega)); have hz : w.heap.size + 1 < w1.heap.size := (by have h := hb.size; (try simp at h); omega)) | (go_at_call 43; refine (greatest_any _ _ _ (by omega) _).mono ?_; rintro e w1 ⟨rfl, hb⟩; obtain ⟨hc, hf⟩ := cellsB hb (w.heap.size + 2) (by first | omega | ((try simp) <;> omega)); have hz : w.heap.size + 1 < w1.heap.size := (by have h := hb.size; (try simp at h); omega)))
      refine bodyPost_ret (v := .tuple #[.agg #[.int .i64 (-most l), .string ⟨#[]⟩], .int .i64 0]) (by simp [results, Try.results15, go_sem, *]) rfl ⟨by simp [leastN, edgeS, HE.out, HK.out], (by repeat (first | exact Gr.refl _ | assumption | refine Gr.alloc ?_ _ | refine Gr.drew ?_ | refine Gr.drewN ?_ _ | refine Gr.setCell ?_ (by simp <;> omega) _ | refine Gr.trans ?_ (by assumption)))⟩
  · have hb0 : (vdErr k l s != 0) = true := by simp [he]
    have HE := Lib.hid he
    clear he
    go_enter Try.func15, Try.ntmps15
    go_wp2_with (go_at_call 41; refine (checkValued_vd _ _ _ _).mono ?_; rintro e w1 ⟨rfl, hb⟩; obtain ⟨hc, hf⟩ := cellsB hb (w.heap.size + 2) (by first | omega | ((try simp) <;> omega)); have hz : w.heap.size + 1 < w1.heap.size := (by have h := hb.size; (try simp at h); omega))
    refine bodyPost_ret (v := .tuple #[.agg #[.int .i64 0, .string ⟨#[]⟩], .int .i64 (vdErr k l s)]) (by simp [results, Try.results15, go_sem, *]) rfl ⟨by simp [leastN, edgeS, HE.out], (by repeat (first | exact Gr.refl _ | assumption | refine Gr.alloc ?_ _ | refine Gr.drew ?_ | refine Gr.drewN ?_ _ | refine Gr.setCell ?_ (by simp <;> omega) _ | refine Gr.trans ?_ (by assumption)))⟩
end Go.Proofs.Ytfnlmkloagpnhaa
