/- Keys and the HMAC, as functions of lists. No program is spoken of here. No condition but those that each lemma names. -/
import Derived.Test.YtikdpifacokfpaaDoorSMath
namespace Go.Proofs.YtikdpifacokfpaaDoor

/-- A key, or, of a long one, its sum. -/
def keyCut (k : List UInt8) : List UInt8 := if 64 < k.length then shaL k else k
theorem keyCut_le (k : List UInt8) : (keyCut k).length ≤ 64 := by
  unfold keyCut
  split
  · rw [shaL_length]; omega
  · omega
/-- A key's block. -/
def keyB (k : List UInt8) : List UInt8 := keyCut k ++ List.replicate (64 - (keyCut k).length) 0
theorem keyB_length (k : List UInt8) : (keyB k).length = 64 := by
  have := keyCut_le k
  simp [keyB]; omega
def maskL (m : UInt8) (l : List UInt8) : List UInt8 := l.map (· ^^^ m)
theorem maskL_length (m : UInt8) (l : List UInt8) : (maskL m l).length = l.length := by simp [maskL]
/-- THE HMAC. -/
def macL (key l : List UInt8) : List UInt8 := shaL (maskL 0x5c (keyB key) ++ shaL (maskL 0x36 (keyB key) ++ l))
theorem macL_length (key l : List UInt8) : (macL key l).length = 32 := shaL_length _

theorem keyB_long (key : List UInt8) (h : 64 < key.length) : keyB (shaL key) = keyB key := by
  have h1 : keyCut (shaL key) = keyCut key := by
    unfold keyCut
    rw [if_pos h, if_neg (by rw [shaL_length]; omega)]
  unfold keyB
  rw [h1]
theorem mac_long (key l : List UInt8) (h : 64 < key.length) : macL (shaL key) l = macL key l := by unfold macL; rw [keyB_long key h]
theorem keyB_zero (key : List UInt8) (h : key.length < 64) : keyB (key ++ [0]) = keyB key := by
  unfold keyB keyCut
  rw [if_neg (by simp; omega), if_neg (by omega), List.append_assoc]
  congr 1
  rw [show 64 - key.length = (64 - (key ++ [0]).length) + 1 by simp; omega, List.replicate_succ]
  rfl
theorem mac_zero (key l : List UInt8) (h : key.length < 64) : macL (key ++ [0]) l = macL key l := by unfold macL; rw [keyB_zero key h]

end Go.Proofs.YtikdpifacokfpaaDoor
