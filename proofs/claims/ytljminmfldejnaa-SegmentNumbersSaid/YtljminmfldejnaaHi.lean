/- Helpers of chapter 4's laws. -/
import Derived.Test.YtljminmfldejnaaHh
namespace Go.Proofs.Ytljminmfldejnaa
set_option linter.unusedSimpArgs false
set_option linter.unusedVariables false
open Go.RowKit
/-- A store of the call's own, of n segments, is returned. -/
def StN (gs : List (Int × ByteArray)) (n : Nat) (nx : Int) (w : World) (e : Ending) (w' : World) : Prop :=
  ∃ A c, e = .returned (.agg #[.slice A n c, .int .i64 nx]) ∧ Wv w' w.heap.size A n c 2 (sg gs) ∧ Gr w w' ∧ w.heap.size < w'.heap.size
theorem Own_n (A : Option Addr) (n c : Nat) (gs : List (Int × ByteArray)) (nx : Int) (w : World) (hs : Sv w A n c 2 (sg gs)) (hn : n ≤ 1000000) :
    Calls Try.prog 15 #[.agg #[.slice A n c, .int .i64 nx]] w (StN gs n nx w) := by
  have h := Own_any A n c gs nx w hs hn
  unfold StR at h
  rw [hs.segs] at h
  exact h
theorem few_is (A : Option Addr) (n c : Nat) (gs : List (Int × ByteArray)) (nx : Int) (r : Bool) (hr : fewB gs = r) (w : World) (hs : Sv w A n c 2 (sg gs)) (hb : Sh gs) :
    Calls Try.prog 13 #[.agg #[.slice A n c, .int .i64 nx]] w fun e w' => e = .returned (.bool r) ∧ Gr w w' := by
  subst hr
  exact few_any A n c gs nx w hs hb
end Go.Proofs.Ytljminmfldejnaa
