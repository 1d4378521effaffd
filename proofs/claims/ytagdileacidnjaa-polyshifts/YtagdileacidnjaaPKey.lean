/- A key whose second half is laid place by place; and a number that is carried digit by digit. No condition but those that each lemma names. -/
import Derived.Test.YtagdileacidnjaaPOne
namespace Go.Proofs.Ytagdileacidnjaa
open Go.RowKit

def keyF (base s : List UInt8) (j : Nat) : UInt8 := if j < 16 then base.getD j 0 else s.getD (j - 16) 0
def keyS (base s : List UInt8) (r : Nat) : List UInt8 := stepL 32 (16 + r) (keyF base s) (fun j => base.getD j 0)
theorem keyS_none (base s : List UInt8) (hb : base.length = 32) : keyS base s 0 = base := by
  unfold keyS
  apply List.ext_getElem
  · rw [stepL_length, hb]
  · intro i h1 h2
    have h3 := stepL_at 32 (16 + 0) (keyF base s) (fun j => base.getD j 0) i (by omega)
    rw [List.getElem?_eq_getElem h1] at h3
    rw [Option.some.inj h3]
    have h4 : base.getD i 0 = base[i] := by simp [List.getD, h2]
    by_cases h : i < 16 + 0
    · rw [if_pos h, keyF, if_pos (by omega), h4]
    · rw [if_neg h, h4]
theorem keyS_all (base s : List UInt8) (hb : base.length = 32) (hs : s.length = 16) : keyS base s 16 = base.take 16 ++ s := by
  unfold keyS
  apply List.ext_getElem
  · rw [stepL_length]; simp [hb, hs]
  · intro i h1 h2
    have hi : i < 32 := by rw [stepL_length] at h1; exact h1
    have h3 := stepL_at 32 (16 + 16) (keyF base s) (fun j => base.getD j 0) i hi
    rw [List.getElem?_eq_getElem h1] at h3
    rw [Option.some.inj h3, if_pos (by omega), keyF]
    by_cases h : i < 16
    · rw [if_pos h, List.getElem_append_left (by simp [hb]; omega)]
      simp [List.getD, show i < base.length by omega]
    · rw [if_neg h, List.getElem_append_right (by simp [hb]; omega)]
      simp [hb, List.getD, show i - 16 < s.length by omega]
theorem keyS_set (base s : List UInt8) (r : Nat) : (keyS base s r).set (16 + r) (s.getD r 0) = keyS base s (r + 1) := by
  unfold keyS
  have := stepL_set 32 (16 + r) (keyF base s) (fun j => base.getD j 0)
  rw [keyF, if_neg (by omega), show 16 + r - 16 = r by omega] at this
  exact this
theorem keyS_at (base s : List UInt8) (r : Nat) (h : r < 16) : ((keyS base s r).map bv)[16 + r]? = some (bv (base.getD (16 + r) 0)) := by
  rw [List.getElem?_map, keyS, stepL_at _ _ _ _ _ (by omega), if_neg (by omega)]
  rfl
theorem at8_lt (l : List UInt8) (i : Nat) : at8 l i < 256 := UInt8.toNat_lt _
theorem byte_at {w : World} {b : Nat} {t : TypeId} {l : List UInt8} (h : Blk w b t (l.map bv)) (i : Nat) (hi : i < l.length) : w.cell? ⟨b, i, none⟩ = some (.int .u8 (at8 l i : Nat)) := by
  rw [h.cell, List.getElem?_map, List.getElem?_eq_getElem hi]
  simp [at8, List.getD, hi, bv]
/-- The carry is small. -/
theorem pre_small (D : Nat → Nat) (b : Nat) (h : ∀ i, D i ≤ b * 255) (i : Nat) : pre D i / 256 ^ i ≤ b := by
  have h2 : pre D i ≤ b * (256 ^ i - 1) := by
    induction i with
    | zero => simp [pre]
    | succ i ih =>
      rw [pre]
      have h3 := Nat.mul_le_mul_left (256 ^ i) (h i)
      have h4 : 0 < 256 ^ i := Nat.pow_pos (by omega)
      have h5 : b * (256 ^ (i + 1) - 1) = b * (256 ^ i - 1) + 256 ^ i * (b * 255) := by
        rw [Nat.mul_left_comm, ← Nat.mul_add, Nat.pow_succ]
        congr 1
        omega
      omega
  have h4 : 0 < 256 ^ i := Nat.pow_pos (by omega)
  apply Nat.div_le_of_le_mul
  have h5 : b * (256 ^ i - 1) ≤ b * 256 ^ i := Nat.mul_le_mul_left _ (Nat.sub_le _ _)
  rw [Nat.mul_comm]
  omega

end Go.Proofs.Ytagdileacidnjaa
