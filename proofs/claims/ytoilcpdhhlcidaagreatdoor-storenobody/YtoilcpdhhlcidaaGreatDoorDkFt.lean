/- Lemmas. -/
import Derived.ProofKit
import Derived.OpenShut
import Derived.Deep.Slices
import Derived.SizedLaws
import Derived.Test.YtoilcpdhhlcidaaGreatDoorDkL
namespace Go.Proofs.YtoilcpdhhlcidaaGreatDoor
open Go.ChangeShapes Go.WideShapes Go.ChangeAt Go.RowKit Go.Deep
theorem znx:ownKnob Tryz.prog.godebug=none:=by kernel_rfl
end Go.Proofs.YtoilcpdhhlcidaaGreatDoor

/- Lemmas. -/
namespace Go.Proofs.YtoilcpdhhlcidaaGreatDoor
open Go.RowKit
def ivc (z:Int):Value := .int .i64 z
end Go.Proofs.YtoilcpdhhlcidaaGreatDoor
