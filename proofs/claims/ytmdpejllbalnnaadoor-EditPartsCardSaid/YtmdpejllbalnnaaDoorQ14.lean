/- Texts of the walks, merged. -/
import Derived.Test.YtmdpejllbalnnaaDoorQ13
namespace Go.Proofs.YtmdpejllbalnnaaDoor
set_option linter.unusedSimpArgs false
set_option linter.unusedVariables false
open Go.RowKit

theorem add_bl (a b : List UInt8) (x y : ByteArray) (hx : x = BL a) (hy : y = BL b) (h : a.length + b.length ≤ 100000) (w : World) : (Op.stringOp .add x y).run Tryd.prog w = .ok (.string (BL (a ++ b))) w := by
  subst hx hy
  rw [add_ss _ _ (by rw [BL_size, BL_size]; omega), BL_append]
theorem drop_one (D : List UInt8) (q : Nat) (h : q < D.length) : (D.drop q).take 1 = [dAt D q] := by
  rw [List.drop_eq_getElem_cons h, List.take_succ_cons, List.take_zero]
  simp [dAt, List.getD_eq_getElem?_getD, List.getElem?_eq_getElem h]
theorem cut1 (D : List UInt8) (q : Nat) (h : q < D.length) (j : Int) (hj : j = (q : Int) + 1) (w : World) : (Instr.slice 9 (.string (BL D)) (some (.int .i64 q)) (some (.int .i64 j)) none).run Tryd.prog w = .ok (.string (BL [dAt D q])) w := by
  rw [cut_ij (BL D) (q : Int) j q (q + 1) rfl (by omega) (by omega) (by rw [BL_size]; omega) w, BL_cut, show q + 1 - q = 1 by omega, drop_one D q h]
def hasB (C : List UInt8) (c : UInt8) : Bool := C.contains c
theorem contains_drop (C : List UInt8) (c : UInt8) (q : Nat) (h : q < C.length) : hasB (C.drop q) c = (c == dAt C q || hasB (C.drop (q + 1)) c) := by
  unfold hasB
  rw [List.drop_eq_getElem_cons h, List.contains_cons]
  simp [dAt, List.getD_eq_getElem?_getD, List.getElem?_eq_getElem h]
theorem u8_eq (a b : UInt8) : ((a.toNat : Int) == (b.toNat : Int)) = (a == b) := by
  by_cases h : a = b
  · subst h; rw [beq_self_eq_true, beq_self_eq_true]
  · have : ¬ (a.toNat : Int) = b.toNat := fun e => h (by rw [← UInt8.toNat_inj]; omega)
    rw [beq_eq_false_iff_ne.2 this, beq_eq_false_iff_ne.2 h]
theorem infoB8 : (Tryd.prog.info? 5).map (fun i => (i.zero, i.size, i.bytes)) = some (some (.int .u8 0), 1, 1) := by kernel_rfl
theorem cv_ownL {w : World} {B : Nat} {v : Value} {l : List UInt8} (h : Own w B .u8 5 v (bI l)) : (convert 84 9 v).run Tryd.prog w = .ok (.string (BL l)) w := by
  rw [← bI_str]
  rcases h.2 with ⟨h', h0⟩ | ⟨g', cap', cur, h', _, hg, _⟩
  · have e : bI l = [] := List.eq_nil_of_length_eq_zero h0
    rw [e]
    subst h'
    exact run_convert_bytes_nil w 84 5 Tryd.underlying84 Tryd.underlying5 0 0 9 Tryd.underlying9
  · subst h'
    exact run_convert_bytes_arg w 84 5 Tryd.underlying84 Tryd.underlying5 g' 0 _ cap' (bI l) rfl (fun i hi => by rw [Nat.zero_add]; exact Own.cell h i hi) 9 Tryd.underlying9
end Go.Proofs.YtmdpejllbalnnaaDoor
