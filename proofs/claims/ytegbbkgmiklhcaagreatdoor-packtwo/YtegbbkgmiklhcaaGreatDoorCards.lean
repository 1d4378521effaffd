/-
  DERIVED. GIVEN WITH THE SEED: THE CARDS: each row of YtegbbkgmiklhcaaGreatDoorRows.lean that lists a variable, with what it lists TIED to the program's text (the seventh form; the later family's looks); each row that meets fmt, with fmt's text TOLD by the authors' own Lean function (tested against real Go, not proved from fmt's source: count such statements apart). THE CARD IS WHAT COUNTS. Prove the row's statement (the work); the ties are given (YtegbbkgmiklhcaaGreatDoorTie.lean); close each card by the builder's one call (the guide's Derived/Test/ToyasCard.lean, 'card_holds'). Laid BY PROGRAM, IN A SANDBOX (cutbox-door.mjs). By AI agents, Wed Nov 11 2026. No macro, syntax, notation, axiom, sorry.
-/
import Derived.Test.YtegbbkgmiklhcaaGreatDoorRows
import GoSem.ClaimSeven
namespace Go.Proofs.YtegbbkgmiklhcaaGreatDoor
namespace Rows

/-- THE TIED CARD OF 'coffretlaw13.PackPuts'. -/
def packPutsCard : Claim7 := { stood := { row := packPutsRow, standIns := [], harness := (true, "c61e2c680fd6f15f8052830339f5eede1322fb6ddbf862543665ba6b0f9ff5b7"), looks := true }, kinds := [], alts := [], laidByText := true, laidKinds := [.data, .data], laidTests := true, laidLooks := .later }
def PackPutsCardSaid : Prop := Claim7.holds Tryz.pinned (.plain (OpenSpec.ofChange packPutsSpec)) packPutsCard

/-- THE TIED CARD OF 'coffretlaw13.PackReads'. -/
def packReadsCard : Claim7 := { stood := { row := packReadsRow, standIns := [], harness := (true, "c61e2c680fd6f15f8052830339f5eede1322fb6ddbf862543665ba6b0f9ff5b7"), looks := true }, kinds := [], alts := [], laidByText := true, laidKinds := [.data, .data], laidTests := true, laidLooks := .later }
def PackReadsCardSaid : Prop := Claim7.holds Tryz.pinned (.plain (OpenSpec.ofChange packReadsSpec)) packReadsCard

/-- THE TIED CARD OF 'coffretlaw13.PackBack'. -/
def packBackCard : Claim7 := { stood := { row := packBackRow, standIns := [], harness := (true, "c61e2c680fd6f15f8052830339f5eede1322fb6ddbf862543665ba6b0f9ff5b7"), looks := true }, kinds := [], alts := [], laidByText := true, laidKinds := [.data, .data], laidTests := true, laidLooks := .later }
def PackBackCardSaid : Prop := Claim7.holds Tryz.pinned (.plain (OpenSpec.ofChange packBackSpec)) packBackCard

/-- THE TIED CARD OF 'coffretlaw13.PackTwo'. -/
def packTwoCard : Claim7 := { stood := { row := packTwoRow, standIns := [], harness := (true, "c61e2c680fd6f15f8052830339f5eede1322fb6ddbf862543665ba6b0f9ff5b7"), looks := true }, kinds := [], alts := [], laidByText := true, laidKinds := [.data, .data], laidTests := true, laidLooks := .later }
def PackTwoCardSaid : Prop := Claim7.holds Tryz.pinned (.plain (OpenSpec.ofChange packTwoSpec)) packTwoCard

/-- THE SECOND FORM's CARD OF 'coffretlaw13.PackPuts'. -/
def packPutsUptoCard : Claim7 := { stood := { row := packPutsUptoRow, standIns := [], harness := (true, "c61e2c680fd6f15f8052830339f5eede1322fb6ddbf862543665ba6b0f9ff5b7"), looks := true }, kinds := [], alts := [], laidByText := true, laidKinds := [.data, .data], laidTests := true, laidLooks := .later }
def PackPutsUptoCardSaid : Prop := Claim7.holds Tryz.pinned (.plain (OpenSpec.upto packPutsSpec)) packPutsUptoCard

/-- THE SECOND FORM's CARD OF 'coffretlaw13.PackReads'. -/
def packReadsUptoCard : Claim7 := { stood := { row := packReadsUptoRow, standIns := [], harness := (true, "c61e2c680fd6f15f8052830339f5eede1322fb6ddbf862543665ba6b0f9ff5b7"), looks := true }, kinds := [], alts := [], laidByText := true, laidKinds := [.data, .data], laidTests := true, laidLooks := .later }
def PackReadsUptoCardSaid : Prop := Claim7.holds Tryz.pinned (.plain (OpenSpec.upto packReadsSpec)) packReadsUptoCard

/-- THE SECOND FORM's CARD OF 'coffretlaw13.PackBack'. -/
def packBackUptoCard : Claim7 := { stood := { row := packBackUptoRow, standIns := [], harness := (true, "c61e2c680fd6f15f8052830339f5eede1322fb6ddbf862543665ba6b0f9ff5b7"), looks := true }, kinds := [], alts := [], laidByText := true, laidKinds := [.data, .data], laidTests := true, laidLooks := .later }
def PackBackUptoCardSaid : Prop := Claim7.holds Tryz.pinned (.plain (OpenSpec.upto packBackSpec)) packBackUptoCard

/-- THE SECOND FORM's CARD OF 'coffretlaw13.PackTwo'. -/
def packTwoUptoCard : Claim7 := { stood := { row := packTwoUptoRow, standIns := [], harness := (true, "c61e2c680fd6f15f8052830339f5eede1322fb6ddbf862543665ba6b0f9ff5b7"), looks := true }, kinds := [], alts := [], laidByText := true, laidKinds := [.data, .data], laidTests := true, laidLooks := .later }
def PackTwoUptoCardSaid : Prop := Claim7.holds Tryz.pinned (.plain (OpenSpec.upto packTwoSpec)) packTwoUptoCard
end Rows
end Go.Proofs.YtegbbkgmiklhcaaGreatDoor
