/-
  DERIVED. GIVEN WITH THE SEED: THE CARDS: each row of YtjckdgapefaokaaDoorRows.lean that lists a variable, with what it lists TIED to the program's text (the seventh form; the later family's looks); each row that meets fmt, with fmt's text TOLD by the authors' own Lean function (tested against real Go, not proved from fmt's source: count such statements apart). THE CARD IS WHAT COUNTS. Prove the row's statement (the work); the ties are given (YtjckdgapefaokaaDoorTie.lean); close each card by the builder's one call (the guide's Derived/Test/ToyasCard.lean, 'card_holds'). Laid BY PROGRAM, IN A SANDBOX (cutbox-door.mjs). By AI agents, Wed Nov 11 2026. No macro, syntax, notation, axiom, sorry.
-/
import Derived.Test.YtjckdgapefaokaaDoorRows
import GoSem.ClaimSeven
namespace Go.Proofs.YtjckdgapefaokaaDoor
namespace Rows

/-- THE TIED CARD OF 'coffretlaw08.BoxPlays'. -/
def boxPlaysCard : Claim7 := { stood := { row := boxPlaysRow, standIns := [], harness := (true, "446d128526843037e8b617128bf42857d77648476b4b54a2dbf248bdd09c2d37"), looks := false }, kinds := [], alts := [], laidByText := true, laidKinds := [.data, .data, .data], laidTests := true, laidLooks := .later }
def BoxPlaysCardSaid : Prop := Claim7.holds Tryd.pinned (.plain (OpenSpec.ofChange boxPlaysSpec)) boxPlaysCard

/-- THE TIED CARD OF 'coffretlaw08.BoxBack'. -/
def boxBackCard : Claim7 := { stood := { row := boxBackRow, standIns := [], harness := (true, "446d128526843037e8b617128bf42857d77648476b4b54a2dbf248bdd09c2d37"), looks := false }, kinds := [], alts := [], laidByText := true, laidKinds := [.data, .data, .data], laidTests := true, laidLooks := .later }
def BoxBackCardSaid : Prop := Claim7.holds Tryd.pinned (.plain (OpenSpec.ofChange boxBackSpec)) boxBackCard

/-- THE TIED CARD OF 'coffretlaw08.BoxIdeal'. -/
def boxIdealCard : Claim7 := { stood := { row := boxIdealRow, standIns := [], harness := (true, "446d128526843037e8b617128bf42857d77648476b4b54a2dbf248bdd09c2d37"), looks := false }, kinds := [], alts := [], laidByText := true, laidKinds := [.data, .data, .data], laidTests := true, laidLooks := .later }
def BoxIdealCardSaid : Prop := Claim7.holds Tryd.pinned (.plain (OpenSpec.ofChange boxIdealSpec)) boxIdealCard

/-- THE TIED CARD OF 'coffretlaw08.BoxNobody'. -/
def boxNobodyCard : Claim7 := { stood := { row := boxNobodyRow, standIns := [], harness := (true, "446d128526843037e8b617128bf42857d77648476b4b54a2dbf248bdd09c2d37"), looks := false }, kinds := [], alts := [], laidByText := true, laidKinds := [.data, .data, .data], laidTests := true, laidLooks := .later }
def BoxNobodyCardSaid : Prop := Claim7.holds Tryd.pinned (.plain (OpenSpec.ofChange boxNobodySpec)) boxNobodyCard

/-- THE TIED CARD OF 'coffretlaw08.BoxReal'. -/
def boxRealCard : Claim7 := { stood := { row := boxRealRow, standIns := [], harness := (true, "446d128526843037e8b617128bf42857d77648476b4b54a2dbf248bdd09c2d37"), looks := false }, kinds := [], alts := [], laidByText := true, laidKinds := [.data, .data, .data], laidTests := true, laidLooks := .later }
def BoxRealCardSaid : Prop := Claim7.holds Tryd.pinned (.plain (OpenSpec.ofChange boxRealSpec)) boxRealCard

/-- THE SECOND FORM's CARD OF 'coffretlaw08.BoxPlays'. -/
def boxPlaysUptoCard : Claim7 := { stood := { row := boxPlaysUptoRow, standIns := [], harness := (true, "446d128526843037e8b617128bf42857d77648476b4b54a2dbf248bdd09c2d37"), looks := false }, kinds := [], alts := [], laidByText := true, laidKinds := [.data, .data, .data], laidTests := true, laidLooks := .later }
def BoxPlaysUptoCardSaid : Prop := Claim7.holds Tryd.pinned (.plain (OpenSpec.upto boxPlaysSpec)) boxPlaysUptoCard

/-- THE SECOND FORM's CARD OF 'coffretlaw08.BoxBack'. -/
def boxBackUptoCard : Claim7 := { stood := { row := boxBackUptoRow, standIns := [], harness := (true, "446d128526843037e8b617128bf42857d77648476b4b54a2dbf248bdd09c2d37"), looks := false }, kinds := [], alts := [], laidByText := true, laidKinds := [.data, .data, .data], laidTests := true, laidLooks := .later }
def BoxBackUptoCardSaid : Prop := Claim7.holds Tryd.pinned (.plain (OpenSpec.upto boxBackSpec)) boxBackUptoCard

/-- THE SECOND FORM's CARD OF 'coffretlaw08.BoxIdeal'. -/
def boxIdealUptoCard : Claim7 := { stood := { row := boxIdealUptoRow, standIns := [], harness := (true, "446d128526843037e8b617128bf42857d77648476b4b54a2dbf248bdd09c2d37"), looks := false }, kinds := [], alts := [], laidByText := true, laidKinds := [.data, .data, .data], laidTests := true, laidLooks := .later }
def BoxIdealUptoCardSaid : Prop := Claim7.holds Tryd.pinned (.plain (OpenSpec.upto boxIdealSpec)) boxIdealUptoCard

/-- THE SECOND FORM's CARD OF 'coffretlaw08.BoxNobody'. -/
def boxNobodyUptoCard : Claim7 := { stood := { row := boxNobodyUptoRow, standIns := [], harness := (true, "446d128526843037e8b617128bf42857d77648476b4b54a2dbf248bdd09c2d37"), looks := false }, kinds := [], alts := [], laidByText := true, laidKinds := [.data, .data, .data], laidTests := true, laidLooks := .later }
def BoxNobodyUptoCardSaid : Prop := Claim7.holds Tryd.pinned (.plain (OpenSpec.upto boxNobodySpec)) boxNobodyUptoCard

/-- THE SECOND FORM's CARD OF 'coffretlaw08.BoxReal'. -/
def boxRealUptoCard : Claim7 := { stood := { row := boxRealUptoRow, standIns := [], harness := (true, "446d128526843037e8b617128bf42857d77648476b4b54a2dbf248bdd09c2d37"), looks := false }, kinds := [], alts := [], laidByText := true, laidKinds := [.data, .data, .data], laidTests := true, laidLooks := .later }
def BoxRealUptoCardSaid : Prop := Claim7.holds Tryd.pinned (.plain (OpenSpec.upto boxRealSpec)) boxRealUptoCard
end Rows
end Go.Proofs.YtjckdgapefaokaaDoor
