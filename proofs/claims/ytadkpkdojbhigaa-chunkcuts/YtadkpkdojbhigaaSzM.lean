/- What a reader's Num, Raw and Sized tell, as plain functions of the bytes that are left. -/
import Derived.Test.YtadkpkdojbhigaaMem
namespace Go.Proofs.Ytadkpkdojbhigaa
open Go.RowKit

/-- How many bytes a number of n bytes has. -/
def nb (n : Int) : Nat := (min (max n 0) 8).toNat

/-- What Num tells, what it leaves, and what is wrong then. -/
def numS (l : List UInt8) (e n : Int) : Nat × List UInt8 × Int := if e = 0 then (if l.length < nb n then (0, [], 10) else (be (l.take (nb n)), l.drop (nb n), 0)) else (0, l, e)
/-- What Raw tells, what it leaves, and what is wrong then. -/
def rawS (l : List UInt8) (e n : Int) : List UInt8 × List UInt8 × Int := if e = 0 then (if l.length < n.toNat then ([], [], 10) else (l.take n.toNat, l.drop n.toNat, 0)) else ([], l, e)
/-- What Sized tells, what it leaves, and what is wrong then. -/
def sizedS (l : List UInt8) (e : Int) : List UInt8 × List UInt8 × Int :=
  if e = 0 then (if l.length < 4 then ([], [], 10) else if 65536 < be (l.take 4) then ([], [], 3) else if l.length < 4 + be (l.take 4) then ([], [], 10) else ((l.drop 4).take (be (l.take 4)), (l.drop 4).drop (be (l.take 4)), 0)) else ([], l, e)

theorem be_take_lt (l : List UInt8) (k : Nat) (hk : k < 8) : be (l.take k) < 72057594037927936 := by
  have h1 := be_lt (l.take k)
  have h2 : 256 ^ (l.take k).length ≤ 256 ^ 7 := Nat.pow_le_pow_right (by omega) (by simp; omega)
  omega

end Go.Proofs.Ytadkpkdojbhigaa
