/- A padded text whose last byte is another one. Pure. -/
import Derived.Test.YtadkpkdojbhigaaCkM
namespace Go.Proofs.Ytadkpkdojbhigaa
open Go.RowKit

theorem set_last {α : Type} (l : List α) (y v : α) (k : Nat) (h : k = l.length) : (l ++ [y]).set k v = l ++ [v] := by
  subst h
  rw [List.set_append_right _ _ (Nat.le_refl _), Nat.sub_self]
  rfl

theorem byte_up (x : UInt8) : x + 1 ≠ x := by
  intro h
  have := congrArg UInt8.toNat h
  rw [UInt8.toNat_add] at this
  have hx := x.toNat_lt
  simp at this
  omega

/-- Where the zeros are not none the last one is a zero. -/
theorem unp_zero (b : List UInt8) (h : b.length + 4 ≠ pdN b.length) (hb : b.length ≤ 4194304) : (padL b)[pdN b.length - 1]? = some 0 ∧ unpL ((padL b).set (pdN b.length - 1) 1) = none := by
  have h1 := pdN_le b.length
  obtain ⟨k, hk⟩ : ∃ k, pdN b.length - (4 + b.length) = k + 1 := ⟨pdN b.length - (4 + b.length) - 1, by omega⟩
  have e : padL b = (layS b ++ List.replicate k 0) ++ [0] := by
    unfold padL
    rw [hk, List.replicate_succ', List.append_assoc]
  have el : (layS b ++ List.replicate k (0 : UInt8)).length = pdN b.length - 1 := by
    rw [List.length_append, layS_length, List.length_replicate]
    omega
  rw [e, set_last _ _ _ _ el.symm, ← el]
  refine ⟨by simp, ?_⟩
  unfold unpL
  rw [List.append_assoc, tolN_pad b _ (by omega), drop4_pad, if_neg ?_]
  intro hc
  have := hc.2
  simp at this

/-- Where there is none the last byte is the text's. -/
theorem unp_full (b : List UInt8) (h : b.length + 4 = pdN b.length) (hb : b.length ≤ 4194304) : ∃ x b', (padL b)[pdN b.length - 1]? = some x ∧ unpL ((padL b).set (pdN b.length - 1) (x + 1)) = some b' ∧ b' ≠ b ∧ b'.length = b.length := by
  have h1 := pdN_mod b.length
  have hne : b ≠ [] := by
    intro e
    rw [e] at h h1
    simp at h h1
    rw [← h] at h1
    omega
  obtain ⟨y, t, e⟩ : ∃ y t, b = t ++ [y] := ⟨b.getLast hne, b.dropLast, (List.dropLast_concat_getLast hne).symm⟩
  have hl : t.length + 1 = b.length := by rw [e]; simp
  have ep : ∀ v, padL (t ++ [v]) = (lb b.length 4 ++ t) ++ [v] := by
    intro v
    have hlv : (t ++ [v]).length = b.length := by simp; omega
    unfold padL layS
    rw [hlv, ← h, show b.length + 4 - (4 + b.length) = 0 from by omega, List.replicate_zero, List.append_nil, List.append_assoc]
  have el : (lb b.length 4 ++ t).length = pdN b.length - 1 := by rw [List.length_append, lb_len]; omega
  refine ⟨y, t ++ [y + 1], ?_, ?_, ?_, ?_⟩
  · rw [← el]
    conv => lhs; rw [e]
    rw [ep y]
    rw [← e]
    simp
  · have e2 : (padL b).set (pdN b.length - 1) (y + 1) = padL (t ++ [y + 1]) := by
      rw [ep (y + 1), ← set_last (lb b.length 4 ++ t) y (y + 1) _ el.symm, ← ep y, ← e]
    rw [e2]
    exact unp_pad _ (by simp; omega)
  · intro hh
    rw [e] at hh
    have := List.append_cancel_left hh
    injection this with this
    exact byte_up y this
  · simp; omega

theorem u8_up (x : UInt8) : IntKind.u8.wrap ((x.toNat : Int) + 1) = ((x + 1).toNat : Int) := by
  rw [IntKind.wrap_u8, UInt8.toNat_add]
  simp

end Go.Proofs.Ytadkpkdojbhigaa
