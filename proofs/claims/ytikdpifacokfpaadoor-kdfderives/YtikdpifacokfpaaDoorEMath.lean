/- What HKDF's expanding tells, as a function of lists. No program is spoken of here. No condition but those that each lemma names. -/
import Derived.Test.YtikdpifacokfpaaDoorKMath
namespace Go.Proofs.YtikdpifacokfpaaDoor

/-- The parts, the first being of no bytes. -/
def partE (k info : List UInt8) : Nat → List UInt8
  | 0 => []
  | i + 1 => macL k (partE k info i ++ info ++ [UInt8.ofNat (i + 1)])
theorem partE_length (k info : List UInt8) (i : Nat) : (partE k info (i + 1)).length = 32 := macL_length _ _
theorem partE_le (k info : List UInt8) : ∀ i, (partE k info i).length ≤ 32
  | 0 => by simp [partE]
  | i + 1 => by rw [partE_length]; exact Nat.le_refl _
/-- The first parts, one behind the other. -/
def outE (k info : List UInt8) : Nat → List UInt8
  | 0 => []
  | i + 1 => outE k info i ++ partE k info (i + 1)
theorem outE_length (k info : List UInt8) (i : Nat) : (outE k info i).length = 32 * i := by
  induction i with
  | zero => rfl
  | succ i ih => rw [outE, List.length_append, ih, partE_length]; omega
theorem outE_take (k info : List UInt8) (i j : Nat) : (outE k info (i + j)).take (32 * i) = outE k info i := by
  induction j with
  | zero => rw [Nat.add_zero, List.take_of_length_le (by rw [outE_length]; exact Nat.le_refl _)]
  | succ j ih => rw [← Nat.add_assoc, outE, List.take_append_of_le_length (by rw [outE_length]; omega), ih]
/-- WHAT IS TOLD of n bytes. -/
def expL (k info : List UInt8) (n : Nat) : List UInt8 := (outE k info 255).take n
theorem expL_length (k info : List UInt8) (n : Nat) (h : n ≤ 8160) : (expL k info n).length = n := by
  rw [expL, List.length_take, outE_length]; omega
theorem expL_of (k info : List UInt8) (n r : Nat) (hr : r ≤ 255) (hn : n ≤ 32 * r) : (outE k info r).take n = expL k info n := by
  have h := outE_take k info r (255 - r)
  rw [show r + (255 - r) = 255 by omega] at h
  rw [← h, expL, List.take_take, Nat.min_eq_left hn]
theorem expL_less (k info : List UInt8) (m n : Nat) (h : m ≤ n) : (expL k info n).take m = expL k info m := by
  rw [expL, expL, List.take_take, Nat.min_eq_left h]
theorem expL_next (k info : List UInt8) (r d : Nat) (hr : r < 255) (hd : d ≤ 32) : expL k info (32 * r) ++ (partE k info (r + 1)).take d = expL k info (32 * r + d) := by
  rw [← expL_of k info (32 * r + d) (r + 1) (by omega) (by omega), outE, ← expL_of k info (32 * r) r (by omega) (Nat.le_refl _), List.take_of_length_le (by rw [outE_length]; exact Nat.le_refl _)]
  have := outE_length k info r
  rw [← this, List.take_length_add_append]

end Go.Proofs.YtikdpifacokfpaaDoor
