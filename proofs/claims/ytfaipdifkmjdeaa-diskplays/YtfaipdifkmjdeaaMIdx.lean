/- A string of bytes by its places: a byte, a part, a beginning, an end. No condition but those that each lemma names. -/
import Derived.Test.YtfaipdifkmjdeaaMNts
import Derived.Lib.Strings
namespace Go.Proofs.Ytfaipdifkmjdeaa
open Go.RowKit

theorem str_sub (l : List UInt8) (a b : Nat) : (str l).extract a b = str ((l.drop a).take (b - a)) := by
  apply ByteArray.ext
  apply Array.toList_inj.1
  rw [Lib.extract_data]
  rfl

theorem idx_str (l : List UInt8) (p : Nat) (n : Nat) (hp : p < l.length) (hn : n = l[p].toNat) (W : World) : (Instr.index 9 (.string (str l)) (.int .i64 (p : Int))).run Try.prog W = .ok (.int .u8 (n : Int)) W := by
  subst hn
  have hs : p < (str l).size := by rw [str_size]; exact hp
  rw [run_index_string _ _ _ _ _ Try.underlying9]
  simp
  rw [dif_pos hs]
  rfl

theorem slice_str (l : List UInt8) (lo hi : Nat) (h1 : lo ≤ hi) (h2 : hi ≤ l.length) (W : World) : (Instr.slice 9 (.string (str l)) (some (.int .i64 (lo : Int))) (some (.int .i64 (hi : Int))) none).run Try.prog W = .ok (.string (str ((l.drop lo).take (hi - lo)))) W := by
  rw [run_slice_string_if _ _ _ _ _ _ _ Try.underlying9]
  rw [if_pos (by rw [str_size]; omega), if_pos ⟨by omega, by omega⟩, Int.toNat_natCast, Int.toNat_natCast, str_sub]

theorem slice_str_to (l : List UInt8) (hi : Nat) (h2 : hi ≤ l.length) (W : World) : (Instr.slice 9 (.string (str l)) none (some (.int .i64 (hi : Int))) none).run Try.prog W = .ok (.string (str (l.take hi))) W := by
  rw [run_slice_string_h W 9 _ Try.underlying9 .i64 (hi : Int) (by omega) (by rw [str_size]; omega), Int.toNat_natCast, str_sub, List.drop_zero, Nat.sub_zero]

theorem slice_str_from (l : List UInt8) (lo : Nat) (h2 : lo ≤ l.length) (W : World) : (Instr.slice 9 (.string (str l)) (some (.int .i64 (lo : Int))) none none).run Try.prog W = .ok (.string (str (l.drop lo))) W := by
  rw [run_slice_string_l W 9 _ Try.underlying9 .i64 (lo : Int) (by omega) (by rw [str_size]; omega), Int.toNat_natCast, str_size, str_sub, List.take_of_length_le (by rw [List.length_drop]; omega)]

end Go.Proofs.Ytfaipdifkmjdeaa
