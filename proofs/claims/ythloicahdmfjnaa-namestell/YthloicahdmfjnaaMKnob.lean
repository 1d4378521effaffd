/- Two facts of the program that a row asks. -/
import Derived.Test.YthloicahdmfjnaaMem
import Derived.ProofKit
import Derived.OpenShut
namespace Go.Proofs.Ythloicahdmfjnaa

theorem own_knobN : ownKnob Try.prog.godebug = none := by kernel_rfl

end Go.Proofs.Ythloicahdmfjnaa
