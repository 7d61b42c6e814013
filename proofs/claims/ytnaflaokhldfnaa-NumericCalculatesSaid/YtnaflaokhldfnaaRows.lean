/-
  No cell of these rows narrows 'for every input' (looked for: loops, veiled, ifaces, maps, wideKeys, modest, calm, conditions, laid).
  DERIVED. THE GIVEN ROWS OF THIS SEAT. 4 by the template 'for every input the law returns true; each argument reads behind the call as it read before'; 0 by the template 'total and deterministic' (their statements: YtnaflaokhldfnaaTotals.lean).
  GIVEN WITH THE SEED: the statements are not yours to turn. If you find one false, say at which input.
  Laid BY PROGRAM, IN A SANDBOX (cutbox-rows.mjs): the forced cells as the released guide's own fill.sh prints them over the translation e5fa67609ec5716b… (all of the seat's roots in one cut). By AI agents, Wed Nov 11 2026. No macro, syntax, notation, axiom, sorry.
-/
import Derived.Test.YtnaflaokhldfnaaChecked
import GoSem.Claim
import GoSem.ClaimJoined
import GoSem.ClaimMapViews
import Derived.JoinedTies
import Derived.KernelRfl
namespace Go.Proofs.Ytnaflaokhldfnaa
/- THE CELL 'sum', in the pinned program and in every row, IS THE sha256 OF THE DUMP (.gsa) THAT YtnaflaokhldfnaaProg.lean LOADS. Nothing in Lean hashes anything: it is a label: what it is worth is what the hold of that sum in a sandbox is worth. -/
noncomputable def Try.pinned : Pinned := { name := "ytnaflaokhldfnaa", sum := "e5fa67609ec5716b19ae6996d4563b04a4774728872a7726d92e1e243dcb8f61", checked := Try.checked }
namespace Rows
def none {H : Type} : Left H := { results := [], args := [] }

/-- 'midrangelaw01.NumericCalculates': WHATEVER THE INPUT: true; the input reads as it did. -/
def numericCalculatesSpec : ChangeSpec := { name := "numericCalculates", fn := fun _ => fun
  | [d1, d2] => { results := [.lit (.bool true)], args := [d1, d2] }
  | _ => none }
def numericCalculatesRow : OpenClaim := { program := "ytnaflaokhldfnaa", sum := "e5fa67609ec5716b19ae6996d4563b04a4774728872a7726d92e1e243dcb8f61", func := "midrange/midrangelaw01.NumericCalculates", spec := "numericCalculates", inPlace := ["math/bits.Add64", "math/bits.Sub64"], named := ["math/bits.divideError", "math/bits.overflowError"], apart := false }
def NumericCalculatesSaid : Prop := numericCalculatesRow.holds Try.pinned (OpenSpec.ofChange numericCalculatesSpec)

/-- ITS FALSE NEIGHBOUR: 'it returns false'. Refute it at one input. -/
def numericCalculatesWrong : ChangeSpec := { name := "numericCalculates", fn := fun _ => fun
  | [d1, d2] => { results := [.lit (.bool false)], args := [d1, d2] }
  | _ => none }
def NumericCalculatesWrongFalsely : Prop := numericCalculatesRow.holds Try.pinned (OpenSpec.ofChange numericCalculatesWrong)

/-- 'midrangelaw01.NumericBytes': WHATEVER THE INPUT: true; the input reads as it did. -/
def numericBytesSpec : ChangeSpec := { name := "numericBytes", fn := fun _ => fun
  | [d1, d2, d3] => { results := [.lit (.bool true)], args := [d1, d2, d3] }
  | _ => none }
def numericBytesRow : OpenClaim := { program := "ytnaflaokhldfnaa", sum := "e5fa67609ec5716b19ae6996d4563b04a4774728872a7726d92e1e243dcb8f61", func := "midrange/midrangelaw01.NumericBytes", spec := "numericBytes", inPlace := ["math/bits.Add64", "math/bits.Sub64"], named := ["math/bits.divideError", "math/bits.overflowError"], apart := false }
def NumericBytesSaid : Prop := numericBytesRow.holds Try.pinned (OpenSpec.ofChange numericBytesSpec)

/-- ITS FALSE NEIGHBOUR: 'it returns false'. Refute it at one input. -/
def numericBytesWrong : ChangeSpec := { name := "numericBytes", fn := fun _ => fun
  | [d1, d2, d3] => { results := [.lit (.bool false)], args := [d1, d2, d3] }
  | _ => none }
def NumericBytesWrongFalsely : Prop := numericBytesRow.holds Try.pinned (OpenSpec.ofChange numericBytesWrong)

/-- 'midrangelaw01.NumericLaws': WHATEVER THE INPUT: true; the input reads as it did. -/
def numericLawsSpec : ChangeSpec := { name := "numericLaws", fn := fun _ => fun
  | [d] => { results := [.lit (.bool true)], args := [d] }
  | _ => none }
def numericLawsRow : OpenClaim := { program := "ytnaflaokhldfnaa", sum := "e5fa67609ec5716b19ae6996d4563b04a4774728872a7726d92e1e243dcb8f61", func := "midrange/midrangelaw01.NumericLaws", spec := "numericLaws", inPlace := ["math/bits.Add64", "math/bits.Sub64"], named := ["math/bits.divideError", "math/bits.overflowError"], apart := false }
def NumericLawsSaid : Prop := numericLawsRow.holds Try.pinned (OpenSpec.ofChange numericLawsSpec)

/-- ITS FALSE NEIGHBOUR: 'it returns false'. Refute it at one input. -/
def numericLawsWrong : ChangeSpec := { name := "numericLaws", fn := fun _ => fun
  | [d] => { results := [.lit (.bool false)], args := [d] }
  | _ => none }
def NumericLawsWrongFalsely : Prop := numericLawsRow.holds Try.pinned (OpenSpec.ofChange numericLawsWrong)

/-- 'midrangelaw01.NumericTexts': WHATEVER THE INPUT: true; the input reads as it did. -/
def numericTextsSpec : ChangeSpec := { name := "numericTexts", fn := fun _ => fun
  | [d] => { results := [.lit (.bool true)], args := [d] }
  | _ => none }
def numericTextsRow : OpenClaim := { program := "ytnaflaokhldfnaa", sum := "e5fa67609ec5716b19ae6996d4563b04a4774728872a7726d92e1e243dcb8f61", func := "midrange/midrangelaw01.NumericTexts", spec := "numericTexts", inPlace := ["internal/bytealg.IndexByteString", "internal/bytealg.IndexString"], named := ["internal/bytealg.MaxLen"], apart := false }
def NumericTextsSaid : Prop := numericTextsRow.holds Try.pinned (OpenSpec.ofChange numericTextsSpec)

/-- ITS FALSE NEIGHBOUR: 'it returns false'. Refute it at one input. -/
def numericTextsWrong : ChangeSpec := { name := "numericTexts", fn := fun _ => fun
  | [d] => { results := [.lit (.bool false)], args := [d] }
  | _ => none }
def NumericTextsWrongFalsely : Prop := numericTextsRow.holds Try.pinned (OpenSpec.ofChange numericTextsWrong)

/- THE SECOND FORM. 'bulk': how many values and letters a reading holds, each counted each time it is reached (what is shared counts as often as it is met; a slice's spare places count too). A statement '..UptoSaid' is the law's where the arguments, and the package variables that the reading takes, are together of bulk at most 1048576: NARROWER than '..Said'. Prove '..Said' where nothing that the law and all that it calls make is longer than what came in: it says more and counts as full. Else prove '..UptoSaid'. A law counts once. -/
mutual
def uptoBulk {H : Type} : DataW H → Nat
  | .lit (.string bytes) => bytes.length + 1
  | .lit _ => 1
  | .nil => 1
  | .ptr d => uptoBulk d + 1
  | .slice elems spare => uptoBulkAll elems + uptoBulkAll spare + 1
  | .agg parts => uptoBulkAll parts + 1
  | .iface _ d => uptoBulk d + 1
  | .map entries => uptoBulkEntries entries + 1
  | .held _ => 1
def uptoBulkAll {H : Type} : List (DataW H) → Nat
  | [] => 0
  | d :: r => uptoBulk d + uptoBulkAll r
def uptoBulkEntries {H : Type} : List (Lit × DataW H) → Nat
  | [] => 0
  | x :: r => uptoBulkEntry x + uptoBulkEntries r
def uptoBulkEntry {H : Type} : Lit × DataW H → Nat
  | (.string bytes, d) => bytes.length + uptoBulk d + 1
  | (_, d) => uptoBulk d + 1
 end
def uptoSmall : (H : Type) → List (DataW H) → Bool := fun _ ds => decide (uptoBulkAll ds ≤ 1048576)
def OpenSpec.upto (s : _root_.Go.ChangeSpec) : _root_.Go.OpenSpec := { _root_.Go.OpenSpec.ofChange s with cond := some uptoSmall }

/-- 'midrangelaw01.NumericCalculates', WHERE WHAT IT READS IS OF BULK AT MOST 1048576: true; the input reads as it did. -/
def numericCalculatesUptoRow : OpenClaim := { program := "ytnaflaokhldfnaa", sum := "e5fa67609ec5716b19ae6996d4563b04a4774728872a7726d92e1e243dcb8f61", func := "midrange/midrangelaw01.NumericCalculates", spec := "numericCalculates", inPlace := ["math/bits.Add64", "math/bits.Sub64"], named := ["math/bits.divideError", "math/bits.overflowError"], apart := false, narrowed := true }
def NumericCalculatesUptoSaid : Prop := numericCalculatesUptoRow.holds Try.pinned (OpenSpec.upto numericCalculatesSpec)

/-- 'midrangelaw01.NumericBytes', WHERE WHAT IT READS IS OF BULK AT MOST 1048576: true; the input reads as it did. -/
def numericBytesUptoRow : OpenClaim := { program := "ytnaflaokhldfnaa", sum := "e5fa67609ec5716b19ae6996d4563b04a4774728872a7726d92e1e243dcb8f61", func := "midrange/midrangelaw01.NumericBytes", spec := "numericBytes", inPlace := ["math/bits.Add64", "math/bits.Sub64"], named := ["math/bits.divideError", "math/bits.overflowError"], apart := false, narrowed := true }
def NumericBytesUptoSaid : Prop := numericBytesUptoRow.holds Try.pinned (OpenSpec.upto numericBytesSpec)

/-- 'midrangelaw01.NumericLaws', WHERE WHAT IT READS IS OF BULK AT MOST 1048576: true; the input reads as it did. -/
def numericLawsUptoRow : OpenClaim := { program := "ytnaflaokhldfnaa", sum := "e5fa67609ec5716b19ae6996d4563b04a4774728872a7726d92e1e243dcb8f61", func := "midrange/midrangelaw01.NumericLaws", spec := "numericLaws", inPlace := ["math/bits.Add64", "math/bits.Sub64"], named := ["math/bits.divideError", "math/bits.overflowError"], apart := false, narrowed := true }
def NumericLawsUptoSaid : Prop := numericLawsUptoRow.holds Try.pinned (OpenSpec.upto numericLawsSpec)

/-- 'midrangelaw01.NumericTexts', WHERE WHAT IT READS IS OF BULK AT MOST 1048576: true; the input reads as it did. -/
def numericTextsUptoRow : OpenClaim := { program := "ytnaflaokhldfnaa", sum := "e5fa67609ec5716b19ae6996d4563b04a4774728872a7726d92e1e243dcb8f61", func := "midrange/midrangelaw01.NumericTexts", spec := "numericTexts", inPlace := ["internal/bytealg.IndexByteString", "internal/bytealg.IndexString"], named := ["internal/bytealg.MaxLen"], apart := false, narrowed := true }
def NumericTextsUptoSaid : Prop := numericTextsUptoRow.holds Try.pinned (OpenSpec.upto numericTextsSpec)

end Rows
end Go.Proofs.Ytnaflaokhldfnaa
