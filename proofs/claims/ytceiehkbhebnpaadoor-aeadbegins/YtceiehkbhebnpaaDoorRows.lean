/-
  NARROWER THAN 'FOR EVERY INPUT', by the rows' own cells (each row's printed sentence says how): AeadSeals: laid · AeadBack: laid · AeadBegins: laid.
  DERIVED. THE GIVEN ROWS OF THIS SEAT. 3 by the template 'for every input the law returns true; each argument reads behind the call as it read before'; 0 by the template 'total and deterministic' (their statements: YtceiehkbhebnpaaDoorTotals.lean).
  GIVEN WITH THE SEED: the statements are not yours to turn. If you find one false, say at which input.
  Laid BY PROGRAM, IN A SANDBOX (cutbox-rows.mjs): the forced cells as the released guide's own fill.sh prints them over the translation bad13fc5693605ec… (all of the seat's roots in one cut). By AI agents, Wed Nov 11 2026. No macro, syntax, notation, axiom, sorry.
-/
import Derived.Test.YtceiehkbhebnpaaDoorChecked
import GoSem.Claim
import GoSem.ClaimJoined
import GoSem.ClaimMapViews
import Derived.JoinedTies
import Derived.KernelRfl
namespace Go.Proofs.YtceiehkbhebnpaaDoor
/- THE CELL 'sum', in the pinned program and in every row, IS THE sha256 OF THE DUMP (.gsa) THAT YtceiehkbhebnpaaDoorProg.lean LOADS. Nothing in Lean hashes anything: it is a label: what it is worth is what the hold of that sum in a sandbox is worth. -/
noncomputable def Tryd.pinned : Pinned := { name := "ytceiehkbhebnpaadoor", sum := "bad13fc5693605ec96d4a4b5a0407a1febb04fa553e25e4c421dc97bcdd40087", checked := Tryd.checked }
namespace Rows
def none {H : Type} : Left H := { results := [], args := [] }

/- WHAT THE LISTED PACKAGE-LEVEL VARIABLES READ AS WHEN THE CALL BEGINS. Each datum BY PROGRAM (the guide's laid-datum.mjs) off the statement by which the dump's own 'gosem.cut.vars' lays the variable. In a bare row this is a premise. The card (YtceiehkbhebnpaaDoorCards.lean) ties it to the program's text. -/
def laid_coffret_chacha_firstWords {H : Type} : DataW H := .agg [.lit (.int .u32 1634760805), .lit (.int .u32 857760878), .lit (.int .u32 2036477234), .lit (.int .u32 1797285236)]

/-- 'coffretlaw06.AeadSeals': WHATEVER THE INPUT: true; the input reads as it did. -/
def aeadSealsSpec : ChangeSpec := { name := "aeadSeals", fn := fun _ => fun
  | [d1, d2, d3] => { results := [.lit (.bool true)], args := [d1, d2, d3] }
  | _ => none }
def aeadSealsRow : OpenClaim := { program := "ytceiehkbhebnpaadoor", sum := "bad13fc5693605ec96d4a4b5a0407a1febb04fa553e25e4c421dc97bcdd40087", func := "coffret/coffretlaw06.AeadSeals", spec := "aeadSeals", unfollowed := true, recurses := true, named := ["coffret/chacha.firstWords"], apart := false, laid := [("coffret/chacha.firstWords", laid_coffret_chacha_firstWords)] }
def AeadSealsSaid : Prop := aeadSealsRow.holds Tryd.pinned (OpenSpec.ofChange aeadSealsSpec)

/-- ITS FALSE NEIGHBOUR: 'it returns false'. Refute it at one input. -/
def aeadSealsWrong : ChangeSpec := { name := "aeadSeals", fn := fun _ => fun
  | [d1, d2, d3] => { results := [.lit (.bool false)], args := [d1, d2, d3] }
  | _ => none }
def AeadSealsWrongFalsely : Prop := aeadSealsRow.holds Tryd.pinned (OpenSpec.ofChange aeadSealsWrong)

/-- 'coffretlaw06.AeadBack': WHATEVER THE INPUT: true; the input reads as it did. -/
def aeadBackSpec : ChangeSpec := { name := "aeadBack", fn := fun _ => fun
  | [d1, d2, d3] => { results := [.lit (.bool true)], args := [d1, d2, d3] }
  | _ => none }
def aeadBackRow : OpenClaim := { program := "ytceiehkbhebnpaadoor", sum := "bad13fc5693605ec96d4a4b5a0407a1febb04fa553e25e4c421dc97bcdd40087", func := "coffret/coffretlaw06.AeadBack", spec := "aeadBack", unfollowed := true, recurses := true, named := ["coffret/chacha.firstWords"], apart := false, laid := [("coffret/chacha.firstWords", laid_coffret_chacha_firstWords)] }
def AeadBackSaid : Prop := aeadBackRow.holds Tryd.pinned (OpenSpec.ofChange aeadBackSpec)

/-- ITS FALSE NEIGHBOUR: 'it returns false'. Refute it at one input. -/
def aeadBackWrong : ChangeSpec := { name := "aeadBack", fn := fun _ => fun
  | [d1, d2, d3] => { results := [.lit (.bool false)], args := [d1, d2, d3] }
  | _ => none }
def AeadBackWrongFalsely : Prop := aeadBackRow.holds Tryd.pinned (OpenSpec.ofChange aeadBackWrong)

/-- 'coffretlaw06.AeadBegins': WHATEVER THE INPUT: true; the input reads as it did. -/
def aeadBeginsSpec : ChangeSpec := { name := "aeadBegins", fn := fun _ => fun
  | [d1, d2, d3] => { results := [.lit (.bool true)], args := [d1, d2, d3] }
  | _ => none }
def aeadBeginsRow : OpenClaim := { program := "ytceiehkbhebnpaadoor", sum := "bad13fc5693605ec96d4a4b5a0407a1febb04fa553e25e4c421dc97bcdd40087", func := "coffret/coffretlaw06.AeadBegins", spec := "aeadBegins", unfollowed := true, recurses := true, named := ["coffret/chacha.firstWords"], apart := false, laid := [("coffret/chacha.firstWords", laid_coffret_chacha_firstWords)] }
def AeadBeginsSaid : Prop := aeadBeginsRow.holds Tryd.pinned (OpenSpec.ofChange aeadBeginsSpec)

/-- ITS FALSE NEIGHBOUR: 'it returns false'. Refute it at one input. -/
def aeadBeginsWrong : ChangeSpec := { name := "aeadBegins", fn := fun _ => fun
  | [d1, d2, d3] => { results := [.lit (.bool false)], args := [d1, d2, d3] }
  | _ => none }
def AeadBeginsWrongFalsely : Prop := aeadBeginsRow.holds Tryd.pinned (OpenSpec.ofChange aeadBeginsWrong)

/- THE SECOND FORM. 'bulk': how many values and letters a reading holds, each counted each time it is reached (what is shared counts as often as it is met; a slice's spare places count too). A statement '..UptoSaid' is the law's where the arguments, and the package variables that the reading takes, are together of bulk at most 1048576: NARROWER than '..Said'. Prove '..Said' where nothing that the law and all that it calls make is longer than what came in: it says more and counts as full. Else prove '..UptoSaid'. A law counts once. -/
mutual
def uptoBulk {H : Type} : DataW H → Nat
  | .lit (.string bytes) => bytes.length + 1
  | .lit _ => 1
  | .nil => 1
  | .ptr d => uptoBulk d + 1
  | .slice elems spare => uptoBulkAll elems + uptoBulkAll spare + 1
  | .agg parts => uptoBulkAll parts + 1
  | .iface _ d => uptoBulk d + 1
  | .map entries => uptoBulkEntries entries + 1
  | .held _ => 1
def uptoBulkAll {H : Type} : List (DataW H) → Nat
  | [] => 0
  | d :: r => uptoBulk d + uptoBulkAll r
def uptoBulkEntries {H : Type} : List (Lit × DataW H) → Nat
  | [] => 0
  | x :: r => uptoBulkEntry x + uptoBulkEntries r
def uptoBulkEntry {H : Type} : Lit × DataW H → Nat
  | (.string bytes, d) => bytes.length + uptoBulk d + 1
  | (_, d) => uptoBulk d + 1
 end
def uptoSmall : (H : Type) → List (DataW H) → Bool := fun _ ds => decide (uptoBulkAll ds ≤ 1048576)
def OpenSpec.upto (s : _root_.Go.ChangeSpec) : _root_.Go.OpenSpec := { _root_.Go.OpenSpec.ofChange s with cond := some uptoSmall }

/-- 'coffretlaw06.AeadSeals', WHERE WHAT IT READS IS OF BULK AT MOST 1048576: true; the input reads as it did. -/
def aeadSealsUptoRow : OpenClaim := { program := "ytceiehkbhebnpaadoor", sum := "bad13fc5693605ec96d4a4b5a0407a1febb04fa553e25e4c421dc97bcdd40087", func := "coffret/coffretlaw06.AeadSeals", spec := "aeadSeals", unfollowed := true, recurses := true, named := ["coffret/chacha.firstWords"], apart := false, laid := [("coffret/chacha.firstWords", laid_coffret_chacha_firstWords)], narrowed := true }
def AeadSealsUptoSaid : Prop := aeadSealsUptoRow.holds Tryd.pinned (OpenSpec.upto aeadSealsSpec)

/-- 'coffretlaw06.AeadBack', WHERE WHAT IT READS IS OF BULK AT MOST 1048576: true; the input reads as it did. -/
def aeadBackUptoRow : OpenClaim := { program := "ytceiehkbhebnpaadoor", sum := "bad13fc5693605ec96d4a4b5a0407a1febb04fa553e25e4c421dc97bcdd40087", func := "coffret/coffretlaw06.AeadBack", spec := "aeadBack", unfollowed := true, recurses := true, named := ["coffret/chacha.firstWords"], apart := false, laid := [("coffret/chacha.firstWords", laid_coffret_chacha_firstWords)], narrowed := true }
def AeadBackUptoSaid : Prop := aeadBackUptoRow.holds Tryd.pinned (OpenSpec.upto aeadBackSpec)

/-- 'coffretlaw06.AeadBegins', WHERE WHAT IT READS IS OF BULK AT MOST 1048576: true; the input reads as it did. -/
def aeadBeginsUptoRow : OpenClaim := { program := "ytceiehkbhebnpaadoor", sum := "bad13fc5693605ec96d4a4b5a0407a1febb04fa553e25e4c421dc97bcdd40087", func := "coffret/coffretlaw06.AeadBegins", spec := "aeadBegins", unfollowed := true, recurses := true, named := ["coffret/chacha.firstWords"], apart := false, laid := [("coffret/chacha.firstWords", laid_coffret_chacha_firstWords)], narrowed := true }
def AeadBeginsUptoSaid : Prop := aeadBeginsUptoRow.holds Tryd.pinned (OpenSpec.upto aeadBeginsSpec)

end Rows
end Go.Proofs.YtceiehkbhebnpaaDoor
