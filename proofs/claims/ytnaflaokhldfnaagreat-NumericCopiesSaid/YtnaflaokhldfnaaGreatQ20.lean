/- Texts of the walks, merged. -/
import Derived.Test.YtnaflaokhldfnaaGreatQ19
import Derived.Test.YtnaflaokhldfnaaGreatShelf
import Derived.Lib.Repeat
namespace Go.Proofs.YtnaflaokhldfnaaGreat
set_option linter.unusedSimpArgs false
set_option linter.unusedVariables false
open Go.RowKit

theorem typeErr_l {k l s : Int} (h : typeErr k l s = 0) : 0 ≤ l ∧ l ≤ 256 := by
  by_cases hk : k = 4
  · subst hk
    have h' : rightLen 4 l = true := by
      by_cases e : rightLen 4 l = true
      · exact e
      · exfalso; simp [typeErr, e] at h
    simp [rightLen] at h'; omega
  · have := typeErr_len h hk; omega

/-- So many copies of a byte. -/
def repS (c : Int) (n : Nat) : ByteArray := strOfNums (List.replicate n c)
theorem repS_shelf (c : UInt8) (n : Nat) : (⟨(Lib.repeatL [c] n).toArray⟩ : ByteArray) = repS c.toNat n := by
  have h := Lib.repeatL_replicate c 1 n
  rw [show List.replicate 1 c = [c] from rfl, Nat.mul_one] at h
  rw [h]
  unfold repS strOfNums
  rw [List.map_replicate]
  simp

/-- The error of a type that must have values. -/
def vdErr (k l s : Int) : Int := first0 [typeErr k l s, pick (k == 4) 17]
def leastN (k l s : Int) : Int := if vdErr k l s ≠ 0 ∨ k = 0 then 0 else -most l
def mostN (k l s : Int) : Int := if vdErr k l s ≠ 0 ∨ k = 0 then 0 else most l
def edgeS (k l s c : Int) : ByteArray := if vdErr k l s ≠ 0 ∨ k ≠ 0 then ⟨#[]⟩ else repS c l.toNat

theorem repeat_any (c : UInt8) (n : Nat) (hn : n ≤ 256) (w : World) :
    Calls Tryz.prog 32 #[.string ⟨#[c]⟩, .int .i64 n] w fun e w' => e = .returned (.string (repS c.toNat n)) ∧ Gr w w' :=
  (Tryz.strings_Repeat ⟨#[c]⟩ n w (by omega) (by show 1 * n ≤ _; omega)).mono fun e w' ⟨a, b⟩ => ⟨by rw [a]; exact congrArg (fun s => Ending.returned (.string s)) (repS_shelf c n), b⟩

theorem checkValued_vd (k l s : Int) (w : World) :
    Calls Tryz.prog 23 #[.agg #[.int .i64 k, .int .i64 l, .int .i64 s]] w fun e w' => e = .returned (.int .i64 (vdErr k l s)) ∧ Gr w w' := checkValued_any k l s w
theorem vd_ok {k l s : Int} (h : vdErr k l s = 0) : typeErr k l s = 0 ∧ k ≠ 4 := by
  have ht : typeErr k l s = 0 := by by_cases e : typeErr k l s = 0; exact e; simp [vdErr, first0, e] at h
  exact ⟨ht, by intro e; subst e; simp [vdErr, first0, pick, ht] at h⟩

end Go.Proofs.YtnaflaokhldfnaaGreat
namespace Go.Proofs.YtnaflaokhldfnaaGreat
set_option linter.unusedSimpArgs false
set_option linter.unusedVariables false
open Go.RowKit

/-! ### The reference -/
set_option maxHeartbeats 1000000 in
set_option maxRecDepth 100000 in
theorem refRepeat_any (c : Int) (hc : 0 ≤ c ∧ c ≤ 255) (n : Nat) (hn1 : 1 ≤ n) (hn : n ≤ 256) (w : World) :
    Calls Tryz.prog 44 #[.int .u8 c, .int .i64 n] w fun e w' => e = .returned (.string (repS c n)) ∧ Gr w w' := by
  obtain ⟨i0, hi, hz0, hz1, hz2⟩ := info_parts info5
  go_enter Tryz.func44, Tryz.ntmps44
  go_wp2
  go_loopw [5, 6] (fun v i wr => ∃ q : Nat, q ≤ n ∧ i = .int .i64 q ∧ Hid (Own wr w.heap.size .u8 5 v (List.replicate q c)) ∧ Hid (Gr w wr)) (fun _ i _ => n - (intOf i).toNat)
  case atStart => exact ⟨0, by omega, rfl, Lib.hid (Own.nil _ _ _ _), Gr.refl _⟩
  case round =>
    obtain ⟨q, hq, rfl, hO, hG⟩ := hrel
    by_cases hlt : q < n
    · go_wp2_with (at_builtin; go_loud (refine wp_append_ints _ rfl (.tmp 12) (.tmp 14) 93 5 rfl .u8 i0 1 Tryz.underlying93 hi hz0 hz1 hz2 (by decide) w.heap.size _ (List.replicate q c) rfl (hO.out.alloc _) (q + 1) wr.heap.size 1 1 [c] rfl rfl (by omega) (one_cell _ _ _ _) (by simp) (by omega) (by have := hG.out.size; simp; omega) ?_; intro g cap w1 hO1 hB1 hgr hg hgl))
      refine ⟨⟨q + 1, by omega, by go_num, Lib.hid ?_, Lib.hid (Below.trans (hG.out.alloc _) hB1)⟩, by simp [intOf]; omega⟩
      rw [List.replicate_succ']; exact hO1
    · have hqn : q = n := by omega
      subst hqn
      obtain ⟨g, cap, rfl, hg, hgl⟩ : ∃ g cap, u5 = .slice (some ⟨g, 0, none⟩) q cap ∧ w.heap.size ≤ g ∧ g < wr.heap.size := by
        have := hO.out.slice (by intro e; have := congrArg List.length e; simp at this; omega)
        rw [List.length_replicate] at this; exact this
      have hs : (convert 93 9 (.slice (some ⟨g, 0, none⟩) q cap)).run Tryz.prog wr = .ok (.string (repS c q)) wr :=
        run_convert_bytes_arg wr 93 5 Tryz.underlying93 Tryz.underlying5 g 0 q cap (List.replicate q c) (List.length_replicate) (fun i hi => by rw [Nat.zero_add]; exact hO.out.cell i (by rw [List.length_replicate]; exact hi)) 9 Tryz.underlying9
      go_wp2
      go_ret
      exact ⟨rfl, hG.out⟩
end Go.Proofs.YtnaflaokhldfnaaGreat
