/- ObjectBounds answers true of any three numbers, and nothing that was in memory has changed. No condition. -/
import Derived.Test.YtcemdlcimhoeeaaWOBoundsA
import Derived.Test.YtcemdlcimhoeeaaWOBoundsB
import Derived.Test.YtcemdlcimhoeeaaMem
import Derived.ProofKit
import Derived.OpenShut
namespace Go.Proofs.Ytcemdlcimhoeeaa
open Go.RowKit

theorem bounds_law (w : World) (a b q : Int) : Calls Try.prog 5 #[.int .i64 a, .int .i64 b, .int .i64 q] w fun e w' => e = .returned (.bool true) ∧ w.grownBy w' none := by
  obtain ⟨n1, hn1, e1⟩ := and_mask 32767 (by omega) a
  obtain ⟨m, hm, e2⟩ := and_mask 16383 (by omega) b
  obtain ⟨p, hp, e3⟩ := and_mask 3 (by omega) q
  by_cases hc : 16400 < n1
  · exact bounds_A w a b q n1 m p hn1 hm hp e1 e2 e3 hc
  · exact bounds_B w a b q n1 m p hn1 hm hp e1 e2 e3 hc

end Go.Proofs.Ytcemdlcimhoeeaa

/- Two facts of the program that a row asks. -/
namespace Go.Proofs.Ytcemdlcimhoeeaa

theorem own_knobN : ownKnob Try.prog.godebug = none := by kernel_rfl

end Go.Proofs.Ytcemdlcimhoeeaa
