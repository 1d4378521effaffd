/- What is left behind what is read is no longer; small facts of the plain functions of a reader. No condition but those that each lemma names. -/
import Derived.Test.YtcemdlcimhoeeaaPut
import Derived.Test.YtcemdlcimhoeeaaLaySz
import Derived.Test.YtcemdlcimhoeeaaMBlk
import Derived.Test.YtcemdlcimhoeeaaBase
namespace Go.Proofs.Ytcemdlcimhoeeaa
open Go.RowKit

theorem sizedS_len (l : List UInt8) (k : Int) : (sizedS l k).2.1.length ≤ l.length := by
  unfold sizedS
  repeat' split
  all_goals simp

theorem numS_len (l : List UInt8) (k n : Int) : (numS l k n).2.1.length ≤ l.length := by
  unfold numS
  repeat' split
  all_goals simp

theorem numS_lt2 (l : List UInt8) (k : Int) : (numS l k 2).1 < 65536 := by
  have hnb : nb 2 = 2 := by decide
  unfold numS
  rw [hnb]
  repeat' split
  · simp
  · have h1 := be_lt (l.take 2)
    have h2 : 256 ^ (l.take 2).length ≤ 256 ^ 2 := Nat.pow_le_pow_right (by omega) (by simp; omega)
    simp only
    omega
  · simp

theorem numS_bad (l : List UInt8) (k n : Int) (h : (numS l k n).2.2 ≠ 0) : (numS l k n).1 = 0 := by
  unfold numS at *
  split at h
  · split at h
    · simp [*]
    · simp at h
  · simp [*]

end Go.Proofs.Ytcemdlcimhoeeaa

/- What is laid is read as it was, whatever stands behind it: said of plain lists of bytes. Conditions: texts of at most 65536 bytes. -/
namespace Go.Proofs.Ytcemdlcimhoeeaa
open Go.RowKit

theorem be_app (x : List UInt8) (a : Nat) : x.foldl (fun a y => a * 256 + y.toNat) a = a * 256 ^ x.length + be x := by
  induction x generalizing a with
  | nil => simp [be]
  | cons y x ih =>
    unfold be
    rw [List.foldl_cons, List.foldl_cons, ih, ih (0 * 256 + y.toNat), List.length_cons, Nat.pow_succ]
    rw [Nat.add_mul, Nat.mul_assoc, Nat.mul_comm 256, Nat.zero_mul, Nat.zero_add, Nat.add_assoc]

theorem lb_succ (v n : Nat) : lb v (n + 1) = lb (v / 256) n ++ [UInt8.ofNat v] := by
  unfold lb
  rw [List.range_succ, List.map_append]
  congr 1
  · apply List.map_congr_left
    intro i hi
    have hi := List.mem_range.1 hi
    rw [show n + 1 - 1 - i = (n - 1 - i) + 1 from by omega, Nat.pow_succ, Nat.mul_comm, Nat.div_div_eq_div_mul]
  · simp

theorem be_lb (n : Nat) : ∀ v, be (lb v n) = v % 256 ^ n := by
  induction n with
  | zero => intro v; simp [lb, be, Nat.mod_one]
  | succ n ih =>
    intro v
    rw [lb_succ, be_snoc, ih, UInt8.toNat_ofNat', show (256 : Nat) ^ (n + 1) = 256 * 256 ^ n from by rw [Nat.pow_succ, Nat.mul_comm], Nat.mod_mul]
    omega

theorem be4_lay (n : Nat) (h : n < 4294967296) (m : List UInt8) : be ((lb n 4 ++ m).take 4) = n := by
  have hl := lb_len n 4
  rw [List.take_append_of_le_length (by omega), List.take_of_length_le (by omega), be_lb, Nat.mod_eq_of_lt (by omega)]

theorem drop4_lay (n : Nat) (m : List UInt8) : (lb n 4 ++ m).drop 4 = m := by
  have hl := lb_len n 4
  rw [List.drop_append_of_le_length (by omega), List.drop_of_length_le (by omega), List.nil_append]

theorem sizedS_lay (x m : List UInt8) (h : x.length ≤ 65536) : sizedS (layS x ++ m) 0 = (x, m, 0) := by
  have e1 : layS x ++ m = lb x.length 4 ++ (x ++ m) := by unfold layS; rw [List.append_assoc]
  have hl := lb_len x.length 4
  unfold sizedS
  rw [e1, be4_lay _ (by omega), drop4_lay, if_pos rfl, if_neg (by simp [hl]), if_neg (by omega), if_neg (by simp [hl])]
  simp

theorem layS_len (x : List UInt8) : (layS x).length = 4 + x.length := by simp [layS, lb_len]

theorem numS2_lay (n : Nat) (h : n < 65536) (m : List UInt8) : numS (lb n 2 ++ m) 0 2 = (n, m, 0) := by
  have hl := lb_len n 2
  have hnb : nb 2 = 2 := by decide
  unfold numS
  rw [hnb, if_pos rfl, if_neg (by simp [hl])]
  rw [List.take_append_of_le_length (by omega), List.take_of_length_le (by omega), be_lb, Nat.mod_eq_of_lt (by omega), List.drop_append_of_le_length (by omega), List.drop_of_length_le (by omega), List.nil_append]

theorem numS8_lay (v : Nat) (h : v < 18446744073709551616) (m : List UInt8) : numS (lb v 8 ++ m) 0 8 = (v, m, 0) := by
  have hl := lb_len v 8
  have hnb : nb 8 = 8 := by decide
  unfold numS
  rw [hnb, if_pos rfl, if_neg (by simp [hl])]
  rw [List.take_append_of_le_length (by omega), List.take_of_length_le (by omega), be_lb, Nat.mod_eq_of_lt (by omega), List.drop_append_of_le_length (by omega), List.drop_of_length_le (by omega), List.nil_append]

end Go.Proofs.Ytcemdlcimhoeeaa

/- A copy of bytes into a block. No condition but those that each lemma names. -/
namespace Go.Proofs.Ytcemdlcimhoeeaa
open Go.RowKit

theorem size_row : (Try.prog.info? 5).map (·.size) = some 1 := by kernel_rfl

theorem copy_bts (w : World) (b o dl dc : Nat) (ao : Option Addr) (c : Nat) (x : List UInt8) (hx : Bts w ao c x) (hth : w.there b o (min x.length dl)) :
    (Builtin.copy_ #[33, 33] 3 #[.slice (some ⟨b, o, none⟩) dl dc, .slice ao x.length c]).run Try.prog w = .ok (goInt ((min x.length dl : Nat) : Int)) (w.setCells b o ((x.take (min x.length dl)).map bv)) := by
  cases ao with
  | none =>
    have h0 := hx.zip rfl
    have : x = [] := List.eq_nil_of_length_eq_zero h0.1
    subst this
    rw [run_copy_none w _ _ _ 5 _ _ _ _ _ _ Try.underlying33 size_row (by simp)]
    simp [World.setCells]
  | some ad =>
    have hl : ((x.take (min x.length dl)).map bv).length = min x.length dl := by simp
    have := run_copy_cells (P := Try.prog) w 33 33 3 5 b o dl dc ad x.length c ((x.take (min x.length dl)).map bv) Try.underlying33 size_row hl ((hx.take _ (by omega)).news ad rfl) (fun j hj => (hth j (by rw [hl] at hj; exact hj)).1) (fun j hj => (hth j (by rw [hl] at hj; exact hj)).2) (bv_one _)
    rw [hl] at this
    exact this

theorem fill_zero (x : List UInt8) (n : Nat) (h : x.length ≤ n) : (List.replicate n (0 : UInt8)).map bv = ([] : List Value) ++ ((List.replicate x.length (0 : UInt8)).map bv ++ (List.replicate (n - x.length) (0 : UInt8)).map bv) := by
  rw [List.nil_append, ← List.map_append, List.replicate_append_replicate, Nat.add_sub_cancel' h]

/-- Zeros, of which the first are written over. -/
theorem Blk.filled {w : World} {b : Nat} {t : TypeId} {n : Nat} (h : Blk w b t ((List.replicate n (0 : UInt8)).map bv)) (x : List UInt8) (hx : x.length ≤ n) : Blk (w.setCells b 0 (x.map bv)) b t ((x ++ List.replicate (n - x.length) 0).map bv) := by
  rw [fill_zero x n hx] at h
  have := Blk.setCells (x.map bv) _ h (by simp)
  simpa using this

end Go.Proofs.Ytcemdlcimhoeeaa

/- What 'make' of so many bytes answers. No condition but those that each lemma names. -/
namespace Go.Proofs.Ytcemdlcimhoeeaa
open Go.RowKit

theorem made_bv (n : Nat) : madeCells (Value.int .u8 0).cells n = ((List.replicate n (0 : UInt8)).map bv).toArray := by
  apply Array.ext
  · simp [size_madeCells]
  · intro i h1 h2
    simp [madeCells, Value.cells, bv, Nat.mod_one]

theorem make_bytes (W : World) (n : Nat) (h : n ≤ 140737488355328) : (Instr.makeSlice 33 (.int .i64 (n : Int)) (.int .i64 (n : Int))).run Try.prog W = .ok (.slice (some ⟨W.heap.size, 0, none⟩) n n) (W.alloc (.cells ((List.replicate n (0 : UInt8)).map bv).toArray 5)) := by
  obtain ⟨i0, hi, hz0, hz1, hz2⟩ := info_parts info_byte
  rw [run_make W 33 5 i0 (.int .u8 0) Try.underlying33 hi hz0 .i64 .i64 n n (by omega) (by omega) (by rw [hz2]; omega) (by omega), hz1]
  simp only [Int.toNat_natCast, Nat.mul_one]
  rw [made_bv]

end Go.Proofs.Ytcemdlcimhoeeaa
