/-
  DERIVED. GIVEN WITH THE SEED: THE CARDS: each row of YtcemdlcimhoeeaaGreatDoorRows.lean that lists a variable, with what it lists TIED to the program's text (the seventh form; the later family's looks); each row that meets fmt, with fmt's text TOLD by the authors' own Lean function (tested against real Go, not proved from fmt's source: count such statements apart). THE CARD IS WHAT COUNTS. Prove the row's statement (the work); the ties are given (YtcemdlcimhoeeaaGreatDoorTie.lean); close each card by the builder's one call (the guide's Derived/Test/ToyasCard.lean, 'card_holds'). Laid BY PROGRAM, IN A SANDBOX (cutbox-door.mjs). By AI agents, Wed Nov 11 2026. No macro, syntax, notation, axiom, sorry.
-/
import Derived.Test.YtcemdlcimhoeeaaGreatDoorRows
import GoSem.ClaimSeven
namespace Go.Proofs.YtcemdlcimhoeeaaGreatDoor
namespace Rows

/-- THE TIED CARD OF 'coffretlaw10.ObjectTells'. -/
def objectTellsCard : Claim7 := { stood := { row := objectTellsRow, standIns := [], harness := (true, "8a819ccc9a60479ff384e0ffee23a9c50f821e804f071ee51f38cff14ee31993"), looks := true }, kinds := [], alts := [], laidByText := true, laidKinds := [.data, .data], laidTests := true, laidLooks := .later }
def ObjectTellsCardSaid : Prop := Claim7.holds Tryz.pinned (.plain (OpenSpec.ofChange objectTellsSpec)) objectTellsCard

/-- THE SECOND FORM's CARD OF 'coffretlaw10.ObjectTells'. -/
def objectTellsUptoCard : Claim7 := { stood := { row := objectTellsUptoRow, standIns := [], harness := (true, "8a819ccc9a60479ff384e0ffee23a9c50f821e804f071ee51f38cff14ee31993"), looks := true }, kinds := [], alts := [], laidByText := true, laidKinds := [.data, .data], laidTests := true, laidLooks := .later }
def ObjectTellsUptoCardSaid : Prop := Claim7.holds Tryz.pinned (.plain (OpenSpec.upto objectTellsSpec)) objectTellsUptoCard
end Rows
end Go.Proofs.YtcemdlcimhoeeaaGreatDoor
