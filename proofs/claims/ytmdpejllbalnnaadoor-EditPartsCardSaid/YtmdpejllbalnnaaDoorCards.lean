/-
  DERIVED. GIVEN WITH THE SEED: THE CARDS: each row of YtmdpejllbalnnaaDoorRows.lean that lists a variable, with what it lists TIED to the program's text (the seventh form; the later family's looks); each row that meets fmt, with fmt's text TOLD by the authors' own Lean function (tested against real Go, not proved from fmt's source: count such statements apart). THE CARD IS WHAT COUNTS. Prove the row's statement (the work); the ties are given (YtmdpejllbalnnaaDoorTie.lean); close each card by the builder's one call (the guide's Derived/Test/ToyasCard.lean, 'card_holds'). Laid BY PROGRAM, IN A SANDBOX (cutbox-door.mjs). By AI agents, Wed Nov 11 2026. No macro, syntax, notation, axiom, sorry.
-/
import Derived.Test.YtmdpejllbalnnaaDoorRows
import GoSem.ClaimSeven
namespace Go.Proofs.YtmdpejllbalnnaaDoor
namespace Rows

/-- THE TIED CARD OF 'midrangelaw02.EditParts'. -/
def editPartsCard : Claim7 := { stood := { row := editPartsRow, standIns := [], harness := (true, "5226cfc24cdfe3fcc6d41d6b9f331afe4f79600655548d87aa2b2c7802eca124"), looks := false }, kinds := [], alts := [], laidByText := true, laidKinds := [.data, .data, .data, .data, .pinned], laidTests := true, laidLooks := .later }
def EditPartsCardSaid : Prop := Claim7.holds Tryd.pinned (.plain (OpenSpec.ofChange editPartsSpec)) editPartsCard

/-- THE TIED CARD OF 'midrangelaw02.EditAlike'. -/
def editAlikeCard : Claim7 := { stood := { row := editAlikeRow, standIns := [], harness := (true, "5226cfc24cdfe3fcc6d41d6b9f331afe4f79600655548d87aa2b2c7802eca124"), looks := false }, kinds := [], alts := [], laidByText := true, laidKinds := [.data, .data, .data, .data, .pinned], laidTests := true, laidLooks := .later }
def EditAlikeCardSaid : Prop := Claim7.holds Tryd.pinned (.plain (OpenSpec.ofChange editAlikeSpec)) editAlikeCard

/-- THE SECOND FORM's CARD OF 'midrangelaw02.EditParts'. -/
def editPartsUptoCard : Claim7 := { stood := { row := editPartsUptoRow, standIns := [], harness := (true, "5226cfc24cdfe3fcc6d41d6b9f331afe4f79600655548d87aa2b2c7802eca124"), looks := false }, kinds := [], alts := [], laidByText := true, laidKinds := [.data, .data, .data, .data, .pinned], laidTests := true, laidLooks := .later }
def EditPartsUptoCardSaid : Prop := Claim7.holds Tryd.pinned (.plain (OpenSpec.upto editPartsSpec)) editPartsUptoCard

/-- THE SECOND FORM's CARD OF 'midrangelaw02.EditAlike'. -/
def editAlikeUptoCard : Claim7 := { stood := { row := editAlikeUptoRow, standIns := [], harness := (true, "5226cfc24cdfe3fcc6d41d6b9f331afe4f79600655548d87aa2b2c7802eca124"), looks := false }, kinds := [], alts := [], laidByText := true, laidKinds := [.data, .data, .data, .data, .pinned], laidTests := true, laidLooks := .later }
def EditAlikeUptoCardSaid : Prop := Claim7.holds Tryd.pinned (.plain (OpenSpec.upto editAlikeSpec)) editAlikeUptoCard
end Rows
end Go.Proofs.YtmdpejllbalnnaaDoor
