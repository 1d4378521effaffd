/-
  DERIVED. GIVEN WITH THE SEED: THE CARDS: each row of YtceiehkbhebnpaaDoorRows.lean that lists a variable, with what it lists TIED to the program's text (the seventh form; the later family's looks); each row that meets fmt, with fmt's text TOLD by the authors' own Lean function (tested against real Go, not proved from fmt's source: count such statements apart). THE CARD IS WHAT COUNTS. Prove the row's statement (the work); the ties are given (YtceiehkbhebnpaaDoorTie.lean); close each card by the builder's one call (the guide's Derived/Test/ToyasCard.lean, 'card_holds'). Laid BY PROGRAM, IN A SANDBOX (cutbox-door.mjs). By AI agents, Wed Nov 11 2026. No macro, syntax, notation, axiom, sorry.
-/
import Derived.Test.YtceiehkbhebnpaaDoorRows
import GoSem.ClaimSeven
namespace Go.Proofs.YtceiehkbhebnpaaDoor
namespace Rows

/-- THE TIED CARD OF 'coffretlaw06.AeadSeals'. -/
def aeadSealsCard : Claim7 := { stood := { row := aeadSealsRow, standIns := [], harness := (true, "2ccef91761cd5045ae3633753acb2220c91aa0a3c41c8e7eeadc94413c1733ae"), looks := false }, kinds := [], alts := [], laidByText := true, laidKinds := [.data], laidTests := true, laidLooks := .later }
def AeadSealsCardSaid : Prop := Claim7.holds Tryd.pinned (.plain (OpenSpec.ofChange aeadSealsSpec)) aeadSealsCard

/-- THE TIED CARD OF 'coffretlaw06.AeadBack'. -/
def aeadBackCard : Claim7 := { stood := { row := aeadBackRow, standIns := [], harness := (true, "2ccef91761cd5045ae3633753acb2220c91aa0a3c41c8e7eeadc94413c1733ae"), looks := false }, kinds := [], alts := [], laidByText := true, laidKinds := [.data], laidTests := true, laidLooks := .later }
def AeadBackCardSaid : Prop := Claim7.holds Tryd.pinned (.plain (OpenSpec.ofChange aeadBackSpec)) aeadBackCard

/-- THE TIED CARD OF 'coffretlaw06.AeadBegins'. -/
def aeadBeginsCard : Claim7 := { stood := { row := aeadBeginsRow, standIns := [], harness := (true, "2ccef91761cd5045ae3633753acb2220c91aa0a3c41c8e7eeadc94413c1733ae"), looks := false }, kinds := [], alts := [], laidByText := true, laidKinds := [.data], laidTests := true, laidLooks := .later }
def AeadBeginsCardSaid : Prop := Claim7.holds Tryd.pinned (.plain (OpenSpec.ofChange aeadBeginsSpec)) aeadBeginsCard

/-- THE SECOND FORM's CARD OF 'coffretlaw06.AeadSeals'. -/
def aeadSealsUptoCard : Claim7 := { stood := { row := aeadSealsUptoRow, standIns := [], harness := (true, "2ccef91761cd5045ae3633753acb2220c91aa0a3c41c8e7eeadc94413c1733ae"), looks := false }, kinds := [], alts := [], laidByText := true, laidKinds := [.data], laidTests := true, laidLooks := .later }
def AeadSealsUptoCardSaid : Prop := Claim7.holds Tryd.pinned (.plain (OpenSpec.upto aeadSealsSpec)) aeadSealsUptoCard

/-- THE SECOND FORM's CARD OF 'coffretlaw06.AeadBack'. -/
def aeadBackUptoCard : Claim7 := { stood := { row := aeadBackUptoRow, standIns := [], harness := (true, "2ccef91761cd5045ae3633753acb2220c91aa0a3c41c8e7eeadc94413c1733ae"), looks := false }, kinds := [], alts := [], laidByText := true, laidKinds := [.data], laidTests := true, laidLooks := .later }
def AeadBackUptoCardSaid : Prop := Claim7.holds Tryd.pinned (.plain (OpenSpec.upto aeadBackSpec)) aeadBackUptoCard

/-- THE SECOND FORM's CARD OF 'coffretlaw06.AeadBegins'. -/
def aeadBeginsUptoCard : Claim7 := { stood := { row := aeadBeginsUptoRow, standIns := [], harness := (true, "2ccef91761cd5045ae3633753acb2220c91aa0a3c41c8e7eeadc94413c1733ae"), looks := false }, kinds := [], alts := [], laidByText := true, laidKinds := [.data], laidTests := true, laidLooks := .later }
def AeadBeginsUptoCardSaid : Prop := Claim7.holds Tryd.pinned (.plain (OpenSpec.upto aeadBeginsSpec)) aeadBeginsUptoCard
end Rows
end Go.Proofs.YtceiehkbhebnpaaDoor
