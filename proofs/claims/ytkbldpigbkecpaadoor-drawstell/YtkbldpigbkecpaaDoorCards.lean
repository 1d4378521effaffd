/-
  DERIVED. GIVEN WITH THE SEED: THE CARDS: each row of YtkbldpigbkecpaaDoorRows.lean that lists a variable, with what it lists TIED to the program's text (the seventh form; the later family's looks); each row that meets fmt, with fmt's text TOLD by the authors' own Lean function (tested against real Go, not proved from fmt's source: count such statements apart). THE CARD IS WHAT COUNTS. Prove the row's statement (the work); the ties are given (YtkbldpigbkecpaaDoorTie.lean); close each card by the builder's one call (the guide's Derived/Test/ToyasCard.lean, 'card_holds'). Laid BY PROGRAM, IN A SANDBOX (cutbox-door.mjs). By AI agents, Wed Nov 11 2026. No macro, syntax, notation, axiom, sorry.
-/
import Derived.Test.YtkbldpigbkecpaaDoorRows
import GoSem.ClaimSeven
namespace Go.Proofs.YtkbldpigbkecpaaDoor
namespace Rows

/-- THE TIED CARD OF 'coffretlaw07.DrawsTell'. -/
def drawsTellCard : Claim7 := { stood := { row := drawsTellRow, standIns := [], harness := (true, "e6e355fdf89e36e478cd4e5afa22ae8a807e400a5a64997ceaa8fe91e064bc41"), looks := false }, kinds := [], alts := [], laidByText := true, laidKinds := [.data, .data], laidTests := true, laidLooks := .later }
def DrawsTellCardSaid : Prop := Claim7.holds Tryd.pinned (.plain (OpenSpec.ofChange drawsTellSpec)) drawsTellCard

/-- THE TIED CARD OF 'coffretlaw07.DrawsParts'. -/
def drawsPartsCard : Claim7 := { stood := { row := drawsPartsRow, standIns := [], harness := (true, "e6e355fdf89e36e478cd4e5afa22ae8a807e400a5a64997ceaa8fe91e064bc41"), looks := false }, kinds := [], alts := [], laidByText := true, laidKinds := [.data, .data], laidTests := true, laidLooks := .later }
def DrawsPartsCardSaid : Prop := Claim7.holds Tryd.pinned (.plain (OpenSpec.ofChange drawsPartsSpec)) drawsPartsCard

/-- THE TIED CARD OF 'coffretlaw07.DrawsFirst'. -/
def drawsFirstCard : Claim7 := { stood := { row := drawsFirstRow, standIns := [], harness := (true, "e6e355fdf89e36e478cd4e5afa22ae8a807e400a5a64997ceaa8fe91e064bc41"), looks := false }, kinds := [], alts := [], laidByText := true, laidKinds := [.data, .data], laidTests := true, laidLooks := .later }
def DrawsFirstCardSaid : Prop := Claim7.holds Tryd.pinned (.plain (OpenSpec.ofChange drawsFirstSpec)) drawsFirstCard

/-- THE SECOND FORM's CARD OF 'coffretlaw07.DrawsTell'. -/
def drawsTellUptoCard : Claim7 := { stood := { row := drawsTellUptoRow, standIns := [], harness := (true, "e6e355fdf89e36e478cd4e5afa22ae8a807e400a5a64997ceaa8fe91e064bc41"), looks := false }, kinds := [], alts := [], laidByText := true, laidKinds := [.data, .data], laidTests := true, laidLooks := .later }
def DrawsTellUptoCardSaid : Prop := Claim7.holds Tryd.pinned (.plain (OpenSpec.upto drawsTellSpec)) drawsTellUptoCard

/-- THE SECOND FORM's CARD OF 'coffretlaw07.DrawsParts'. -/
def drawsPartsUptoCard : Claim7 := { stood := { row := drawsPartsUptoRow, standIns := [], harness := (true, "e6e355fdf89e36e478cd4e5afa22ae8a807e400a5a64997ceaa8fe91e064bc41"), looks := false }, kinds := [], alts := [], laidByText := true, laidKinds := [.data, .data], laidTests := true, laidLooks := .later }
def DrawsPartsUptoCardSaid : Prop := Claim7.holds Tryd.pinned (.plain (OpenSpec.upto drawsPartsSpec)) drawsPartsUptoCard

/-- THE SECOND FORM's CARD OF 'coffretlaw07.DrawsFirst'. -/
def drawsFirstUptoCard : Claim7 := { stood := { row := drawsFirstUptoRow, standIns := [], harness := (true, "e6e355fdf89e36e478cd4e5afa22ae8a807e400a5a64997ceaa8fe91e064bc41"), looks := false }, kinds := [], alts := [], laidByText := true, laidKinds := [.data, .data], laidTests := true, laidLooks := .later }
def DrawsFirstUptoCardSaid : Prop := Claim7.holds Tryd.pinned (.plain (OpenSpec.upto drawsFirstSpec)) drawsFirstUptoCard
end Rows
end Go.Proofs.YtkbldpigbkecpaaDoor
