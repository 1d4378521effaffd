/- A number under a mask. -/
import Derived.Test.YtfaipdifkmjdeaaMem
namespace Go.Proofs.Ytfaipdifkmjdeaa
open Go.RowKit

theorem and_mask (M : Nat) (hM : M < 4611686018427387904) (a : Int) : ∃ j : Nat, j ≤ M ∧ bits .and .i64 a (M : Int) = (j : Int) := by
  have hm : (BitVec.ofInt 64 (M : Int)).toNat = M := by rw [BitVec.toNat_ofInt]; omega
  have h : (BitVec.ofInt 64 a &&& BitVec.ofInt 64 (M : Int)).toNat ≤ M := by
    rw [BitVec.toNat_and, hm]
    exact Nat.and_le_right
  refine ⟨(BitVec.ofInt 64 a &&& BitVec.ofInt 64 (M : Int)).toNat, h, ?_⟩
  show IntKind.i64.wrap (((BitVec.ofInt 64 a &&& BitVec.ofInt 64 (M : Int)).toNat : Nat) : Int) = _
  rw [IntKind.wrap_i64]
  omega

end Go.Proofs.Ytfaipdifkmjdeaa
