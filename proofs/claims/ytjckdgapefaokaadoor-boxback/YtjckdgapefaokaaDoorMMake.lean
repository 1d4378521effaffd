/- What is sealed, its tag, and what is opened, as functions of lists. No program is spoken of here. No condition but those that each lemma names. -/
import Derived.Test.YtjckdgapefaokaaDoorCMath
import Derived.Test.YtjckdgapefaokaaDoorPLimb
import Derived.Test.YtjckdgapefaokaaDoorKEqual
import Derived.Test.YtjckdgapefaokaaDoorMLst
namespace Go.Proofs.YtjckdgapefaokaaDoor

/-- As few zeros as make a multiple of 16. -/
def zer16 (n : Nat) : List UInt8 := List.replicate ((16 - n % 16) % 16) 0
theorem zer16_length (n : Nat) : (zer16 n).length = (16 - n % 16) % 16 := by simp [zer16]
theorem zer16_mod (n : Nat) : (n + (zer16 n).length) % 16 = 0 := by rw [zer16_length]; omega
/-- What the tag is told of. -/
def macT (be x : List UInt8) : List UInt8 := ((((be ++ zer16 be.length) ++ x) ++ zer16 x.length) ++ leB 8 be.length) ++ leB 8 x.length
theorem macT_length (be x : List UInt8) : (macT be x).length ≤ be.length + x.length + 46 := by
  simp only [macT, List.length_append, zer16_length, leB_length]; omega
/-- THE TAG of a sealed text. -/
def tagA (k n be x : List UInt8) : List UInt8 := tagL ((blockL k n 0).take 32) (macT be x)
theorem tagA_length (k n be x : List UInt8) : (tagA k n be x).length = 16 := tagL_length _ _
/-- WHAT IS SEALED. -/
def sealL (k n be t : List UInt8) : List UInt8 := streamL k n 1 t ++ tagA k n be (streamL k n 1 t)
theorem sealL_length (k n be t : List UInt8) : (sealL k n be t).length = t.length + 16 := by simp [sealL, tagA_length, streamL_length]
/-- Is it opened? -/
def openB (k n be y : List UInt8) : Bool := decide (16 ≤ y.length) && (tagA k n be (y.take (y.length - 16)) == y.drop (y.length - 16))
/-- WHAT IS OPENED. -/
def openL (k n be y : List UInt8) : List UInt8 := if openB k n be y then streamL k n 1 (y.take (y.length - 16)) else []

theorem sealL_take (k n be t : List UInt8) : (sealL k n be t).take t.length = streamL k n 1 t := by
  rw [sealL, List.take_append_of_le_length (by rw [streamL_length]; omega), List.take_of_length_le (by rw [streamL_length]; omega)]
theorem sealL_drop (k n be t : List UInt8) : (sealL k n be t).drop t.length = tagA k n be (streamL k n 1 t) := by
  rw [sealL, List.drop_append_of_le_length (by rw [streamL_length]; omega), List.drop_of_length_le (by rw [streamL_length]; omega), List.nil_append]
theorem open_seal (k n be t : List UInt8) : openB k n be (sealL k n be t) = true := by
  rw [openB, sealL_length, show t.length + 16 - 16 = t.length by omega, sealL_take, sealL_drop]
  simp
theorem open_text (k n be t : List UInt8) : openL k n be (sealL k n be t) = t := by
  rw [openL, if_pos (open_seal k n be t), sealL_length, show t.length + 16 - 16 = t.length by omega, sealL_take, streamL_twice]
/-- With another byte in the tag it is not opened. -/
theorem open_turned (k n be t : List UInt8) (i : Nat) (x : UInt8) (h1 : t.length ≤ i) (h2 : i < t.length + 16) (hx : x ≠ (sealL k n be t).getD i 0) : openB k n be ((sealL k n be t).set i x) = false := by
  rw [openB, List.length_set, sealL_length, show t.length + 16 - 16 = t.length by omega, List.take_set_of_le h1, sealL_take]
  have hne : tagA k n be (streamL k n 1 t) ≠ ((sealL k n be t).set i x).drop t.length := by
    intro e
    have e2 := congrArg (fun l => l.getD (i - t.length) 0) e
    rw [← sealL_drop] at e2
    simp only [List.getD, List.getElem?_drop, show t.length + (i - t.length) = i by omega] at e2
    rw [List.getElem?_set_self (by rw [sealL_length]; exact h2)] at e2
    exact hx e2.symm
  rw [beq_eq_false_iff_ne.2 hne, Bool.and_false]
theorem open_short (k n be y : List UInt8) (h : y.length < 16) : openB k n be y = false := by
  rw [openB, decide_eq_false (by omega)]; rfl
theorem openL_no {k n be y : List UInt8} (h : openB k n be y = false) : openL k n be y = [] := by rw [openL, h]; rfl
/-- The first bytes do not hang on what follows, nor on what is beside. -/
theorem seal_begins (k n be be2 t : List UInt8) (m : Nat) (h : m ≤ t.length) : (sealL k n be t).take m = (sealL k n be2 (t.take m)).take m := by
  have h1 : (t.take m).length = m := by rw [List.length_take]; omega
  have h2 := sealL_take k n be2 (t.take m)
  rw [h1] at h2
  rw [h2, streamL_take, ← sealL_take k n be t, List.take_take, show min m t.length = m by omega]

end Go.Proofs.YtjckdgapefaokaaDoor

/- What 'make' of so many bytes answers. No condition but those that each lemma names. -/
namespace Go.Proofs.YtjckdgapefaokaaDoor
open Go.RowKit

theorem made_bv (n : Nat) : madeCells (Value.int .u8 0).cells n = ((List.replicate n (0 : UInt8)).map bv).toArray := by
  apply Array.ext
  · simp [size_madeCells]
  · intro i h1 h2
    simp [madeCells, Value.cells, bv, Nat.mod_one]

theorem make_bytes (W : World) (n : Nat) (h : n ≤ 140737488355328) : (Instr.makeSlice 22 (.int .i64 (n : Int)) (.int .i64 (n : Int))).run Tryd.prog W = .ok (.slice (some ⟨W.heap.size, 0, none⟩) n n) (W.alloc (.cells ((List.replicate n (0 : UInt8)).map bv).toArray 5)) := by
  obtain ⟨i0, hi, hz0, hz1, hz2⟩ := info_parts info_byte
  rw [run_make W 22 5 i0 (.int .u8 0) Tryd.underlying22 hi hz0 .i64 .i64 n n (by omega) (by omega) (by rw [hz2]; omega) (by omega), hz1]
  simp only [Int.toNat_natCast, Nat.mul_one]
  rw [made_bv]

end Go.Proofs.YtjckdgapefaokaaDoor
