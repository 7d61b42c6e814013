/- Texts of the walks, merged. -/
import Derived.Test.YtmdpejllbalnnaaDoorQ06
import Derived.Test.YtmdpejllbalnnaaDoorQ01
import Derived.Lib.LaidTab
import Derived.Lib.Repeat
namespace Go.Proofs.YtmdpejllbalnnaaDoor
set_option linter.unusedSimpArgs false
set_option linter.unusedVariables false
open Go.RowKit

/-- The table of powers of ten is laid. -/
def TabW (w : World) : Prop := Lib.TabIs Tryd.prog w "internal/strconv.uint64pow10" .u64 Lib.pow10Tab
theorem TabW.gr {a w : World} (h : TabW a) (g : Gr a w) : TabW w := by
  unfold TabW Lib.TabIs World.var? at *
  generalize Tryd.prog.globalNamed "internal/strconv.uint64pow10" = o at *
  cases o with
  | none => simp at h
  | some gi =>
    simp only [Option.bind_some] at h ⊢
    have hlt : gi < a.heap.size := by
      rcases Nat.lt_or_ge gi a.heap.size with k | k
      · exact k
      · rw [Array.getElem?_eq_none k] at h; simp at h
    rw [g.below.block gi hlt]; exact h
theorem gr_grow (w : World) (k : Nat) (os : Array Obj) : Gr w (Sort.grow (w.drewN k) os) := by
  refine (Gr.drewN (Gr.refl w) k).trans ⟨rfl, rfl, rfl, ?_, fun b hb => ?_⟩
  · show _ ≤ (_ ++ os).size
    rw [Array.size_append]; omega
  · show (_ ++ os)[b]? = _
    rw [Array.getElem?_append_left hb]
/-- strconv.Itoa of a number from 0 on. -/
theorem Itoa_any (n : Int) (h0 : 0 ≤ n) (h1 : n ≤ 9223372036854775807) (w : World) (hT : TabW w) :
    Calls Tryd.prog 50 #[.int .i64 n] w fun e w' => e = .returned (.string (dcS n.toNat)) ∧ Gr w w' := by
  refine (Tryd.strconv_Itoa n (by omega) h1 w hT).mono fun e w' ⟨a, k, os, b⟩ => ⟨?_, by rw [b]; exact gr_grow w k os⟩
  rw [a]
  unfold Lib.itoa dcS
  rw [if_neg (by omega)]
theorem zeros_any (j : Nat) (hj : j ≤ 256) (w : World) :
    Calls Tryd.prog 51 #[.string ⟨#[48]⟩, .int .i64 j] w fun e w' => e = .returned (.string (zrS j)) ∧ Gr w w' := by
  refine (Tryd.strings_Repeat ⟨#[48]⟩ j w (by omega) (by show 1 * j ≤ _; omega)).mono fun e w' ⟨a, b⟩ => ⟨?_, b⟩
  rw [a]
  have h := Lib.repeatL_replicate (48 : UInt8) 1 j
  rw [show List.replicate 1 (48 : UInt8) = [48] from rfl, Nat.mul_one] at h
  refine congrArg (fun s => Ending.returned (.string s)) ?_
  show (⟨(Lib.repeatL [48] j).toArray⟩ : ByteArray) = _
  rw [h]
  unfold zrS strOfNums
  rw [List.map_replicate]
  rfl

theorem str_one {w : World} {b : Nat} {c : Int} (h : w.cell? ⟨b, 0, none⟩ = some (.int .u8 c)) : (convert 84 9 (.slice (some ⟨b, 0, none⟩) 1 1)).run Tryd.prog w = .ok (.string (strOfNums [c])) w :=
  run_convert_bytes_arg w 84 5 Tryd.underlying84 Tryd.underlying5 b 0 1 1 [c] rfl (fun | 0, _ => h | i + 1, hi => absurd hi (by simp)) 9 Tryd.underlying9
theorem dcS_le (u : Nat) (h : u ≤ 1000000000000000000) : (dcS u).size ≤ 19 := (dcS_len u 19 (by omega) (by omega)).2
end Go.Proofs.YtmdpejllbalnnaaDoor
