/- Bytes, as a walk spells them. No condition but those that each lemma names. -/
import Derived.Test.YtceiehkbhebnpaaDoorMBlk
import Derived.Laws.BitsAllLaws
namespace Go.Proofs.YtceiehkbhebnpaaDoor
open Go.RowKit

theorem b_xor (x y : UInt8) : bits .xor .u8 ((x.toNat : Nat) : Int) ((y.toNat : Nat) : Int) = (((x ^^^ y).toNat : Nat) : Int) := by
  rw [u8_xor_nat _ _ x.toNat_lt y.toNat_lt, UInt8.toNat_xor]
theorem b_or (x y : UInt8) : bits .or .u8 ((x.toNat : Nat) : Int) ((y.toNat : Nat) : Int) = (((x ||| y).toNat : Nat) : Int) := by
  rw [u8_or_nat _ _ x.toNat_lt y.toNat_lt, UInt8.toNat_or]

end Go.Proofs.YtceiehkbhebnpaaDoor
