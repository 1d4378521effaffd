/-
  DERIVED. GIVEN WITH THE SEED: THE CARDS: each row of YthhnfloohbdaiaaGreatDoorRows.lean that lists a variable, with what it lists TIED to the program's text (the seventh form; the later family's looks); each row that meets fmt, with fmt's text TOLD by the authors' own Lean function (tested against real Go, not proved from fmt's source: count such statements apart). THE CARD IS WHAT COUNTS. Prove the row's statement (the work); the ties are given (YthhnfloohbdaiaaGreatDoorTie.lean); close each card by the builder's one call (the guide's Derived/Test/ToyasCard.lean, 'card_holds'). Laid BY PROGRAM, IN A SANDBOX (cutbox-door.mjs). By AI agents, Wed Nov 11 2026. No macro, syntax, notation, axiom, sorry.
-/
import Derived.Test.YthhnfloohbdaiaaGreatDoorRows
import GoSem.ClaimSeven
namespace Go.Proofs.YthhnfloohbdaiaaGreatDoor
namespace Rows

/-- THE TIED CARD OF 'coffretlaw11.GraphSets'. -/
def graphSetsCard : Claim7 := { stood := { row := graphSetsRow, standIns := [], harness := (true, "866b85d73c07a9873b9281ab2f0d9bff7bff00d546a1f5859986f19e8c6babe6"), looks := true }, kinds := [], alts := [], laidByText := true, laidKinds := [.data, .data], laidTests := true, laidLooks := .later }
def GraphSetsCardSaid : Prop := Claim7.holds Tryz.pinned (.plain (OpenSpec.ofChange graphSetsSpec)) graphSetsCard

/-- THE TIED CARD OF 'coffretlaw11.GraphReaches'. -/
def graphReachesCard : Claim7 := { stood := { row := graphReachesRow, standIns := [], harness := (true, "866b85d73c07a9873b9281ab2f0d9bff7bff00d546a1f5859986f19e8c6babe6"), looks := true }, kinds := [], alts := [], laidByText := true, laidKinds := [.data, .data], laidTests := true, laidLooks := .later }
def GraphReachesCardSaid : Prop := Claim7.holds Tryz.pinned (.plain (OpenSpec.ofChange graphReachesSpec)) graphReachesCard

/-- THE TIED CARD OF 'coffretlaw11.GraphLogs'. -/
def graphLogsCard : Claim7 := { stood := { row := graphLogsRow, standIns := [], harness := (true, "866b85d73c07a9873b9281ab2f0d9bff7bff00d546a1f5859986f19e8c6babe6"), looks := true }, kinds := [], alts := [], laidByText := true, laidKinds := [.data, .data], laidTests := true, laidLooks := .later }
def GraphLogsCardSaid : Prop := Claim7.holds Tryz.pinned (.plain (OpenSpec.ofChange graphLogsSpec)) graphLogsCard

/-- THE TIED CARD OF 'coffretlaw11.GraphOrders'. -/
def graphOrdersCard : Claim7 := { stood := { row := graphOrdersRow, standIns := [], harness := (true, "866b85d73c07a9873b9281ab2f0d9bff7bff00d546a1f5859986f19e8c6babe6"), looks := true }, kinds := [], alts := [], laidByText := true, laidKinds := [.data, .data], laidTests := true, laidLooks := .later }
def GraphOrdersCardSaid : Prop := Claim7.holds Tryz.pinned (.plain (OpenSpec.ofChange graphOrdersSpec)) graphOrdersCard

/-- THE TIED CARD OF 'coffretlaw11.GraphFollows'. -/
def graphFollowsCard : Claim7 := { stood := { row := graphFollowsRow, standIns := [], harness := (true, "866b85d73c07a9873b9281ab2f0d9bff7bff00d546a1f5859986f19e8c6babe6"), looks := true }, kinds := [], alts := [], laidByText := true, laidKinds := [.data, .data], laidTests := true, laidLooks := .later }
def GraphFollowsCardSaid : Prop := Claim7.holds Tryz.pinned (.plain (OpenSpec.ofChange graphFollowsSpec)) graphFollowsCard

/-- THE TIED CARD OF 'coffretlaw11.GraphClones'. -/
def graphClonesCard : Claim7 := { stood := { row := graphClonesRow, standIns := [], harness := (true, "866b85d73c07a9873b9281ab2f0d9bff7bff00d546a1f5859986f19e8c6babe6"), looks := true }, kinds := [], alts := [], laidByText := true, laidKinds := [.data, .data], laidTests := true, laidLooks := .later }
def GraphClonesCardSaid : Prop := Claim7.holds Tryz.pinned (.plain (OpenSpec.ofChange graphClonesSpec)) graphClonesCard

/-- THE SECOND FORM's CARD OF 'coffretlaw11.GraphSets'. -/
def graphSetsUptoCard : Claim7 := { stood := { row := graphSetsUptoRow, standIns := [], harness := (true, "866b85d73c07a9873b9281ab2f0d9bff7bff00d546a1f5859986f19e8c6babe6"), looks := true }, kinds := [], alts := [], laidByText := true, laidKinds := [.data, .data], laidTests := true, laidLooks := .later }
def GraphSetsUptoCardSaid : Prop := Claim7.holds Tryz.pinned (.plain (OpenSpec.upto graphSetsSpec)) graphSetsUptoCard

/-- THE SECOND FORM's CARD OF 'coffretlaw11.GraphReaches'. -/
def graphReachesUptoCard : Claim7 := { stood := { row := graphReachesUptoRow, standIns := [], harness := (true, "866b85d73c07a9873b9281ab2f0d9bff7bff00d546a1f5859986f19e8c6babe6"), looks := true }, kinds := [], alts := [], laidByText := true, laidKinds := [.data, .data], laidTests := true, laidLooks := .later }
def GraphReachesUptoCardSaid : Prop := Claim7.holds Tryz.pinned (.plain (OpenSpec.upto graphReachesSpec)) graphReachesUptoCard

/-- THE SECOND FORM's CARD OF 'coffretlaw11.GraphLogs'. -/
def graphLogsUptoCard : Claim7 := { stood := { row := graphLogsUptoRow, standIns := [], harness := (true, "866b85d73c07a9873b9281ab2f0d9bff7bff00d546a1f5859986f19e8c6babe6"), looks := true }, kinds := [], alts := [], laidByText := true, laidKinds := [.data, .data], laidTests := true, laidLooks := .later }
def GraphLogsUptoCardSaid : Prop := Claim7.holds Tryz.pinned (.plain (OpenSpec.upto graphLogsSpec)) graphLogsUptoCard

/-- THE SECOND FORM's CARD OF 'coffretlaw11.GraphOrders'. -/
def graphOrdersUptoCard : Claim7 := { stood := { row := graphOrdersUptoRow, standIns := [], harness := (true, "866b85d73c07a9873b9281ab2f0d9bff7bff00d546a1f5859986f19e8c6babe6"), looks := true }, kinds := [], alts := [], laidByText := true, laidKinds := [.data, .data], laidTests := true, laidLooks := .later }
def GraphOrdersUptoCardSaid : Prop := Claim7.holds Tryz.pinned (.plain (OpenSpec.upto graphOrdersSpec)) graphOrdersUptoCard

/-- THE SECOND FORM's CARD OF 'coffretlaw11.GraphFollows'. -/
def graphFollowsUptoCard : Claim7 := { stood := { row := graphFollowsUptoRow, standIns := [], harness := (true, "866b85d73c07a9873b9281ab2f0d9bff7bff00d546a1f5859986f19e8c6babe6"), looks := true }, kinds := [], alts := [], laidByText := true, laidKinds := [.data, .data], laidTests := true, laidLooks := .later }
def GraphFollowsUptoCardSaid : Prop := Claim7.holds Tryz.pinned (.plain (OpenSpec.upto graphFollowsSpec)) graphFollowsUptoCard

/-- THE SECOND FORM's CARD OF 'coffretlaw11.GraphClones'. -/
def graphClonesUptoCard : Claim7 := { stood := { row := graphClonesUptoRow, standIns := [], harness := (true, "866b85d73c07a9873b9281ab2f0d9bff7bff00d546a1f5859986f19e8c6babe6"), looks := true }, kinds := [], alts := [], laidByText := true, laidKinds := [.data, .data], laidTests := true, laidLooks := .later }
def GraphClonesUptoCardSaid : Prop := Claim7.holds Tryz.pinned (.plain (OpenSpec.upto graphClonesSpec)) graphClonesUptoCard
end Rows
end Go.Proofs.YthhnfloohbdaiaaGreatDoor
