/- A block that is known, reckoned; and rows of bytes that are filled place by place. No condition but those that each lemma names. -/
import Derived.Test.YtceiehkbhebnpaaDoorCBlk
namespace Go.Proofs.YtceiehkbhebnpaaDoor
open Go.RowKit

def kk : List UInt8 := [0, 1, 2, 3, 4, 5, 6, 7, 8, 9, 10, 11, 12, 13, 14, 15, 16, 17, 18, 19, 20, 21, 22, 23, 24, 25, 26, 27, 28, 29, 30, 31]
def nn : List UInt8 := [0, 0, 0, 9, 0, 0, 0, 74, 0, 0, 0, 0]

set_option maxRecDepth 100000 in
theorem block_known : blockL kk nn 1 = [0x10, 0xf1, 0xe7, 0xe4, 0xd1, 0x3b, 0x59, 0x15, 0x50, 0x0f, 0xdd, 0x1f, 0xa3, 0x20, 0x71, 0xc4, 0xc7, 0xd1, 0xf4, 0xc7, 0x33, 0xc0, 0x68, 0x03, 0x04, 0x22, 0xaa, 0x9a, 0xc3, 0xd4, 0x6c, 0x4e, 0xd2, 0x82, 0x64, 0x46, 0x07, 0x9f, 0xaa, 0x09, 0x14, 0xc2, 0xd7, 0x05, 0xd9, 0x8b, 0x02, 0xa2, 0xb5, 0x12, 0x9c, 0xd1, 0xde, 0x16, 0x4e, 0xb9, 0xcb, 0xd0, 0x83, 0xe8, 0xa2, 0x50, 0x3c, 0x4e] := by kernel_rfl

theorem kk_get (r : Nat) (h : r < 32) : Value.int .u8 (r : Int) = bv (kk.getD r 0) := by
  have : ∀ k : Fin 32, (kk.getD k.val 0).toNat = k.val := by decide
  unfold bv
  rw [this ⟨r, h⟩]

theorem fill_bv (xs : List UInt8) (n k : Nat) (hk : k < xs.length) (hn : k < n) : ((xs.take k ++ List.replicate (n - k) 0).map bv).set k (bv (xs.getD k 0)) = (xs.take (k + 1) ++ List.replicate (n - (k + 1)) 0).map bv := by
  rw [← List.map_set, List.take_succ_eq_append_getElem hk, show n - k = (n - (k + 1)) + 1 by omega, List.replicate_succ, List.append_assoc]
  rw [List.set_append_right _ _ (by simp; omega)]
  have : k - (xs.take k).length = 0 := by simp; omega
  rw [this, show xs.getD k 0 = xs[k] by simp [List.getD, hk]]
  rfl

theorem zero32k (w : World) : (zeroValue 23).run Tryd.prog w = .ok (.agg ((List.replicate 32 (0 : UInt8)).map bv).toArray) w := by kernel_rfl

end Go.Proofs.YtceiehkbhebnpaaDoor
