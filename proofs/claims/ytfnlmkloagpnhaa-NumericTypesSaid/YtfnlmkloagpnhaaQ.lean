/- Walks: GreatestOf; Repeat of the base. -/
import Derived.Test.YtfnlmkloagpnhaaP
namespace Go.Proofs.Ytfnlmkloagpnhaa
set_option linter.unusedSimpArgs false
set_option linter.unusedVariables false
open Go.RowKit

set_option maxHeartbeats 1000000 in
set_option maxRecDepth 100000 in
theorem GreatestOf_any (k l s : Int) (w : World) :
    Calls Try.prog 16 #[.agg #[.int .i64 k, .int .i64 l, .int .i64 s]] w fun e w' => e = .returned (.tuple #[.agg #[.int .i64 (mostN k l s), .string (edgeS k l s 255)], .int .i64 (vdErr k l s)]) ∧ Gr w w' := by
  by_cases he : vdErr k l s = 0
  · have hb0 : (vdErr k l s != 0) = false := by simp [he]
    obtain ⟨ht, h4⟩ := vd_ok he
    obtain ⟨l0, l1, l2, _, _⟩ := typeErr_len ht h4
    have HE := Lib.hid he
    clear he ht h4
    by_cases k0 : k = 0
    · subst k0
      obtain ⟨L, rfl⟩ := Int.eq_ofNat_of_zero_le (show 0 ≤ l by omega)
      clear l2
      go_enter Try.func16, Try.ntmps16
      go_wp2_with (first | (go_at_call 41; refine (checkValued_vd _ _ _ _).mono ?_; rintro e w1 ⟨rfl, hb⟩; obtain ⟨hc, hf⟩ := cellsB hb (w.heap.size + 2) (by first | omega | ((try simp) <;> omega)); have hz : w.heap.size + 1 < w1.heap.size := (by have h := hb.size; (try simp at h); omega)) | (go_at_call 42; refine (repeat_any 255 _ (by omega) _).mono ?_; rintro e w1 ⟨rfl, hb⟩; obtain ⟨hc, hf⟩ := cellsB hb (w.heap.size + 2) (by first | omega | ((try simp) <;> omega)); have hz : w.heap.size + 1 < w1.heap.size := (by have h := hb.size; (try simp at h); omega)))
      refine bodyPost_ret (v := .tuple #[.agg #[.int .i64 0, .string (repS 255 L)], .int .i64 0]) (by simp [results, Try.results16, go_sem, *]) rfl ⟨by simp [mostN, edgeS, HE.out], (by repeat (first | exact Gr.refl _ | assumption | refine Gr.alloc ?_ _ | refine Gr.drew ?_ | refine Gr.drewN ?_ _ | refine Gr.setCell ?_ (by simp <;> omega) _ | refine Gr.trans ?_ (by assumption)))⟩
    · have kb : (k == 0) = false := by simp [k0]
      have l15 := l2 k0
      have HK := Lib.hid k0
      clear k0 l2
      have hm : 0 ≤ most l ∧ most l ≤ 1000000000000000000 := by have := p10_bd l (by omega); unfold most; omega
      go_enter Try.func16, Try.ntmps16
      go_wp2_with (first | (go_at_call 41; refine (checkValued_vd _ _ _ _).mono ?_; rintro e w1 ⟨rfl, hb⟩; obtain ⟨hc, hf⟩ := cellsB hb (w.heap.size + 2) (by first | omega | ((try simp) <;> omega)); have hz : w.heap.size + 1 < w1.heap.size := (by have h := hb.size; (try simp at h); omega)) | (go_at_call 43; refine (greatest_any _ _ _ (by omega) _).mono ?_; rintro e w1 ⟨rfl, hb⟩; obtain ⟨hc, hf⟩ := cellsB hb (w.heap.size + 2) (by first | omega | ((try simp) <;> omega)); have hz : w.heap.size + 1 < w1.heap.size := (by have h := hb.size; (try simp at h); omega)))
      refine bodyPost_ret (v := .tuple #[.agg #[.int .i64 (most l), .string ⟨#[]⟩], .int .i64 0]) (by simp [results, Try.results16, go_sem, *]) rfl ⟨by simp [mostN, edgeS, HE.out, HK.out], (by repeat (first | exact Gr.refl _ | assumption | refine Gr.alloc ?_ _ | refine Gr.drew ?_ | refine Gr.drewN ?_ _ | refine Gr.setCell ?_ (by simp <;> omega) _ | refine Gr.trans ?_ (by assumption)))⟩
  · have hb0 : (vdErr k l s != 0) = true := by simp [he]
    have HE := Lib.hid he
    clear he
    go_enter Try.func16, Try.ntmps16
    go_wp2_with (go_at_call 41; refine (checkValued_vd _ _ _ _).mono ?_; rintro e w1 ⟨rfl, hb⟩; obtain ⟨hc, hf⟩ := cellsB hb (w.heap.size + 2) (by first | omega | ((try simp) <;> omega)); have hz : w.heap.size + 1 < w1.heap.size := (by have h := hb.size; (try simp at h); omega))
    refine bodyPost_ret (v := .tuple #[.agg #[.int .i64 0, .string ⟨#[]⟩], .int .i64 (vdErr k l s)]) (by simp [results, Try.results16, go_sem, *]) rfl ⟨by simp [mostN, edgeS, HE.out], (by repeat (first | exact Gr.refl _ | assumption | refine Gr.alloc ?_ _ | refine Gr.drew ?_ | refine Gr.drewN ?_ _ | refine Gr.setCell ?_ (by simp <;> omega) _ | refine Gr.trans ?_ (by assumption)))⟩

/-! ### The reference -/
set_option maxHeartbeats 1000000 in
set_option maxRecDepth 100000 in
theorem refRepeat_any (c : Int) (hc : 0 ≤ c ∧ c ≤ 255) (n : Nat) (hn1 : 1 ≤ n) (hn : n ≤ 256) (w : World) :
    Calls Try.prog 52 #[.int .u8 c, .int .i64 n] w fun e w' => e = .returned (.string (repS c n)) ∧ Gr w w' := by
  obtain ⟨i0, hi, hz0, hz1, hz2⟩ := info_parts info5
  go_enter Try.func52, Try.ntmps52
  go_wp2
  go_loopw [5, 6] (fun v i wr => ∃ q : Nat, q ≤ n ∧ i = .int .i64 q ∧ Hid (Own wr w.heap.size .u8 5 v (List.replicate q c)) ∧ Hid (Gr w wr)) (fun _ i _ => n - (intOf i).toNat)
  case atStart => exact ⟨0, by omega, rfl, Lib.hid (Own.nil _ _ _ _), Gr.refl _⟩
  case round =>
    obtain ⟨q, hq, rfl, hO, hG⟩ := hrel
    by_cases hlt : q < n
    · go_wp2_with (at_builtin; go_loud (refine wp_append_ints _ rfl (.tmp 12) (.tmp 14) 140 5 rfl .u8 i0 1 Try.underlying140 hi hz0 hz1 hz2 (by decide) w.heap.size _ (List.replicate q c) rfl (hO.out.alloc _) (q + 1) wr.heap.size 1 1 [c] rfl rfl (by omega) (one_cell _ _ _ _) (by simp) (by omega) (by have := hG.out.size; simp; omega) ?_; intro g cap w1 hO1 hB1 hgr hg hgl))
      refine ⟨⟨q + 1, by omega, by go_num, Lib.hid ?_, Lib.hid (Below.trans (hG.out.alloc _) hB1)⟩, by simp [intOf]; omega⟩
      rw [List.replicate_succ']; exact hO1
    · have hqn : q = n := by omega
      subst hqn
      obtain ⟨g, cap, rfl, hg, hgl⟩ : ∃ g cap, u5 = .slice (some ⟨g, 0, none⟩) q cap ∧ w.heap.size ≤ g ∧ g < wr.heap.size := by
        have := hO.out.slice (by intro e; have := congrArg List.length e; simp at this; omega)
        rw [List.length_replicate] at this; exact this
      have hs : (convert 140 9 (.slice (some ⟨g, 0, none⟩) q cap)).run Try.prog wr = .ok (.string (repS c q)) wr :=
        run_convert_bytes_arg wr 140 5 Try.underlying140 Try.underlying5 g 0 q cap (List.replicate q c) (List.length_replicate) (fun i hi => by rw [Nat.zero_add]; exact hO.out.cell i (by rw [List.length_replicate]; exact hi)) 9 Try.underlying9
      go_wp2
      go_ret
      exact ⟨rfl, hG.out⟩
end Go.Proofs.Ytfnlmkloagpnhaa
