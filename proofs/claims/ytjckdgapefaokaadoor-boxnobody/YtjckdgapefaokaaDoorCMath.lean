/- What a source tells, as a plain function of bytes: the texts' own, and behind them those of the sums that come of the texts' sum and a number. No condition but those that each lemma names. -/
import Derived.Test.YtjckdgapefaokaaDoorDPut
import Derived.Test.YtjckdgapefaokaaDoorSMath
namespace Go.Proofs.YtjckdgapefaokaaDoor
open Go.RowKit

/-- The k-th sum behind the texts. -/
def sumAt (T : List UInt8) (k : Nat) : List UInt8 := shaL (shaL T ++ lb k 8)

theorem sumAt_length (T : List UInt8) (k : Nat) : (sumAt T k).length = 32 := shaL_length _

/-- The i-th byte of a source. -/
def tell (T : List UInt8) (i : Nat) : UInt8 := if i < T.length then T.getD i 0 else (sumAt T ((i - T.length) / 32)).getD ((i - T.length) % 32) 0

/-- n bytes of a source, from the u-th on. -/
def told (T : List UInt8) (u n : Nat) : List UInt8 := (List.range n).map fun i => tell T (u + i)

theorem told_length (T : List UInt8) (u n : Nat) : (told T u n).length = n := by simp [told]

theorem told_at (T : List UInt8) (u n i : Nat) (h : i < (told T u n).length) : (told T u n)[i] = tell T (u + i) := by simp [told]

theorem told_zero (T : List UInt8) (u : Nat) : told T u 0 = [] := rfl

theorem told_add (T : List UInt8) (u n m : Nat) : told T u (n + m) = told T u n ++ told T (u + n) m := by
  apply List.ext_getElem
  · simp [told_length]
  · intro i h1 h2
    rw [told_at]
    by_cases hi : i < n
    · rw [List.getElem_append_left (by rw [told_length]; exact hi), told_at]
    · rw [List.getElem_append_right (by rw [told_length]; omega), told_at, told_length]
      congr 1
      omega

theorem told_take (T : List UInt8) (u n m : Nat) (h : m ≤ n) : (told T u n).take m = told T u m := by
  obtain ⟨k, rfl⟩ : ∃ k, n = m + k := ⟨n - m, by omega⟩
  rw [told_add, List.take_left' (told_length _ _ _)]

theorem told_texts (T : List UInt8) (u n : Nat) (h : u + n ≤ T.length) : told T u n = (T.drop u).take n := by
  apply List.ext_getElem
  · simp [told_length]; omega
  · intro i h1 h2
    rw [told_at]
    rw [told_length] at h1
    have hi : u + i < T.length := by omega
    simp [tell, hi]

theorem told_all (T : List UInt8) : told T 0 T.length = T := by
  rw [told_texts T 0 T.length (by omega)]
  simp

theorem told_sum (T : List UInt8) (f n : Nat) (h : f % 32 + n ≤ 32) : told T (T.length + f) n = ((sumAt T (f / 32)).drop (f % 32)).take n := by
  apply List.ext_getElem
  · simp [told_length, sumAt_length]; omega
  · intro i h1 h2
    rw [told_at]
    rw [told_length] at h1
    have e1 : (T.length + f + i - T.length) / 32 = f / 32 := by omega
    have e2 : (T.length + f + i - T.length) % 32 = f % 32 + i := by omega
    have e3 : ¬ T.length + f + i < T.length := by omega
    have e4 : f % 32 + i < (sumAt T (f / 32)).length := by rw [sumAt_length]; omega
    unfold tell
    rw [if_neg e3, e1, e2]
    simp [List.getD, e4]

/-- The cells of a source: of which texts, and how many bytes were told. -/
def srcC (T : List UInt8) (u : Nat) : List Value := .string (str (T.drop u)) :: ((shaL T).map bv ++ [.int .u64 ((u - T.length : Nat) : Int), .int .i64 (u : Int)])

theorem srcC_length (T : List UInt8) (u : Nat) : (srcC T u).length = 35 := by simp [srcC, shaL_length]

theorem srcC_one (T : List UInt8) (u : Nat) : ∀ v ∈ srcC T u, v.oneCell' = true := by
  intro v hv
  rcases List.mem_cons.1 hv with rfl | h
  · rfl
  · rcases List.mem_append.1 h with h | h
    · exact bv_one _ v h
    · simp at h
      rcases h with rfl | rfl <;> rfl

/-- The cells of a plain source, that nobody made. -/
def zeroC : List Value := .string (str []) :: ((List.replicate 32 (0 : UInt8)).map bv ++ [.int .u64 0, .int .i64 0])

theorem sha_nothing : shaL [] ≠ List.replicate 32 (0 : UInt8) := by
  have h : (shaL []).head? = some 227 := by kernel_rfl
  intro e
  rw [e] at h
  exact absurd h (by decide)

end Go.Proofs.YtjckdgapefaokaaDoor

/- ChaCha20's block and what a text is laid to, as functions of lists; and that what is laid over twice is as it was. No program is spoken of here. No condition but those that each lemma names. -/
namespace Go.Proofs.YtjckdgapefaokaaDoor

/-- x turned left by n. -/
def rol (x : W) (n : Nat) : W := (x <<< n) ||| (x >>> (32 - n))

structure Q4 where
  a : W
  b : W
  c : W
  d : W

/-- A quarter round of four words. -/
def quart (a b c d : W) : Q4 :=
  ⟨(a + b) + rol (b ^^^ (c + rol (d ^^^ (a + b)) 16)) 12,
   rol (rol (b ^^^ (c + rol (d ^^^ (a + b)) 16)) 12 ^^^ ((c + rol (d ^^^ (a + b)) 16) + rol (rol (d ^^^ (a + b)) 16 ^^^ ((a + b) + rol (b ^^^ (c + rol (d ^^^ (a + b)) 16)) 12)) 8)) 7,
   (c + rol (d ^^^ (a + b)) 16) + rol (rol (d ^^^ (a + b)) 16 ^^^ ((a + b) + rol (b ^^^ (c + rol (d ^^^ (a + b)) 16)) 12)) 8,
   rol (rol (d ^^^ (a + b)) 16 ^^^ ((a + b) + rol (b ^^^ (c + rol (d ^^^ (a + b)) 16)) 12)) 8⟩

/-- Four words written at four places. -/
def put4 (s : List W) (i j k l : Nat) (q : Q4) : List W := (((s.set i q.a).set j q.b).set k q.c).set l q.d
def quartL (s : List W) (i j k l : Nat) : List W := put4 s i j k l (quart (s.getD i 0) (s.getD j 0) (s.getD k 0) (s.getD l 0))
theorem quartL_length (s : List W) (i j k l : Nat) : (quartL s i j k l).length = s.length := by simp [quartL, put4]

def turnL (s : List W) : List W :=
  quartL (quartL (quartL (quartL (quartL (quartL (quartL (quartL s 0 4 8 12) 1 5 9 13) 2 6 10 14) 3 7 11 15) 0 5 10 15) 1 6 11 12) 2 7 8 13) 3 4 9 14
theorem turnL_length (s : List W) : (turnL s).length = s.length := by simp [turnL, quartL_length]
def turnsL : Nat → List W → List W
  | 0, s => s
  | n + 1, s => turnL (turnsL n s)
theorem turnsL_length (n : Nat) (s : List W) : (turnsL n s).length = s.length := by
  induction n with
  | zero => rfl
  | succ n ih => rw [turnsL, turnL_length, ih]

/-- Four bytes, the lowest first. -/
def leOf (a b c d : UInt8) : W := BitVec.ofNat 32 (a.toNat + b.toNat * 256 + c.toNat * 65536 + d.toNat * 16777216)
def leAt (l : List UInt8) (i : Nat) : W := leOf (l.getD (4 * i) 0) (l.getD (4 * i + 1) 0) (l.getD (4 * i + 2) 0) (l.getD (4 * i + 3) 0)

def Fw : List W := [0x61707865, 0x3320646e, 0x79622d32, 0x6b206574]
/-- The words that a block begins with. -/
def firstL (k n : List UInt8) (c : W) : List W := Fw ++ ((List.range 8).map (leAt k) ++ ([c] ++ (List.range 3).map (leAt n)))
theorem firstL_length (k n : List UInt8) (c : W) : (firstL k n c).length = 16 := by simp [firstL, Fw]

/-- A word's four bytes, the lowest first. -/
def le4 (x : W) : List UInt8 := (List.range 4).map fun i => UInt8.ofNat (x.toNat / 2 ^ (8 * i))
theorem le4_length (x : W) : (le4 x).length = 4 := by simp [le4]
theorem le4_get (x : W) (i : Nat) (h : i < (le4 x).length) : (le4 x)[i] = UInt8.ofNat (x.toNat / 2 ^ (8 * i)) := by simp [le4]

def leBytes (ws : List W) : List UInt8 := ws.flatMap le4
theorem leBytes_length (ws : List W) : (leBytes ws).length = 4 * ws.length := by
  induction ws with
  | nil => rfl
  | cons w ws ih =>
    have e : leBytes (w :: ws) = le4 w ++ leBytes ws := rfl
    rw [e, List.length_append, le4_length, ih, List.length_cons]; omega
theorem leBytes_append (a b : List W) : leBytes (a ++ b) = leBytes a ++ leBytes b := by simp [leBytes]
theorem leBytes_get (ws : List W) : ∀ i, i < 4 * ws.length → (leBytes ws).getD i 0 = UInt8.ofNat ((ws.getD (i / 4) 0).toNat / 2 ^ (8 * (i % 4))) := by
  induction ws with
  | nil => intro i h; simp at h
  | cons w ws ih =>
    intro i h
    have e : leBytes (w :: ws) = le4 w ++ leBytes ws := rfl
    rw [List.length_cons] at h
    by_cases hi : i < 4
    · have h4 : i < (le4 w).length := by rw [le4_length]; exact hi
      rw [e, show (le4 w ++ leBytes ws).getD i 0 = (le4 w)[i] by simp only [List.getD]; rw [List.getElem?_append_left h4, List.getElem?_eq_getElem h4]; rfl, le4_get, Nat.div_eq_of_lt hi, Nat.mod_eq_of_lt hi]
      rfl
    · have h4 : ¬ i < (le4 w).length := by rw [le4_length]; exact hi
      have := ih (i - 4) (by omega)
      rw [e, show (le4 w ++ leBytes ws).getD i 0 = (leBytes ws).getD (i - 4) 0 by
        rw [List.getD, List.getElem?_append_right (by omega), le4_length]; rfl, this, show i / 4 = (i - 4) / 4 + 1 by omega, show (i - 4) % 4 = i % 4 by omega]
      rfl

/-- The words of a block. -/
def blockW (k n : List UInt8) (c : W) : List W := List.zipWith (· + ·) (turnsL 10 (firstL k n c)) (firstL k n c)
theorem blockW_length (k n : List UInt8) (c : W) : (blockW k n c).length = 16 := by simp [blockW, turnsL_length, firstL_length]
/-- THE BLOCK. -/
def blockL (k n : List UInt8) (c : W) : List UInt8 := leBytes (blockW k n c)
theorem blockL_length (k n : List UInt8) (c : W) : (blockL k n c).length = 64 := by rw [blockL, leBytes_length, blockW_length]

/-- The byte that the i-th byte of a text is laid over. -/
def keyAt (k n : List UInt8) (c : W) (i : Nat) : UInt8 := (blockL k n (c + BitVec.ofNat 32 (i / 64))).getD (i % 64) 0
/-- A text laid over bytes. -/
def layOver (f : Nat → UInt8) (l : List UInt8) : List UInt8 := l.mapIdx fun i x => x ^^^ f i
/-- THE TEXT LAID OVER THE KEY'S BYTES. -/
def streamL (k n : List UInt8) (c : W) (l : List UInt8) : List UInt8 := layOver (keyAt k n c) l

theorem layOver_length (f : Nat → UInt8) (l : List UInt8) : (layOver f l).length = l.length := by simp [layOver]
theorem layOver_get (f : Nat → UInt8) (l : List UInt8) (i : Nat) (h : i < l.length) : (layOver f l)[i]'(by rw [layOver_length]; exact h) = l[i] ^^^ f i := by simp [layOver]
theorem streamL_length (k n : List UInt8) (c : W) (l : List UInt8) : (streamL k n c l).length = l.length := layOver_length _ _

theorem layOver_twice (f : Nat → UInt8) (l : List UInt8) : layOver f (layOver f l) = l := by
  apply List.ext_getElem
  · rw [layOver_length, layOver_length]
  · intro i h1 h2
    rw [layOver_get _ _ _ (by rw [layOver_length]; exact h2), layOver_get _ _ _ h2, UInt8.xor_assoc, UInt8.xor_self, UInt8.xor_zero]
theorem layOver_append (f : Nat → UInt8) (a b : List UInt8) : layOver f (a ++ b) = layOver f a ++ layOver (fun i => f (i + a.length)) b := by
  unfold layOver; rw [List.mapIdx_append]
theorem layOver_take (f : Nat → UInt8) (l : List UInt8) (m : Nat) : layOver f (l.take m) = (layOver f l).take m := by
  apply List.ext_getElem
  · simp [layOver]
  · intro i h1 h2
    simp [layOver]
theorem layOver_drop (f : Nat → UInt8) (l : List UInt8) (m : Nat) : layOver (fun i => f (m + i)) (l.drop m) = (layOver f l).drop m := by
  apply List.ext_getElem
  · simp [layOver]
  · intro i h1 h2
    simp [layOver]

theorem ofNat_add (a b : Nat) : (BitVec.ofNat 32 a : W) + BitVec.ofNat 32 b = BitVec.ofNat 32 (a + b) := by
  apply BitVec.eq_of_toNat_eq
  simp

theorem keyAt_later (k n : List UInt8) (c : W) (m i : Nat) : keyAt k n (c + BitVec.ofNat 32 m) i = keyAt k n c (64 * m + i) := by
  unfold keyAt
  rw [BitVec.add_assoc, ofNat_add, show (64 * m + i) / 64 = m + i / 64 by omega, show (64 * m + i) % 64 = i % 64 by omega]

theorem streamL_twice (k n : List UInt8) (c : W) (l : List UInt8) : streamL k n c (streamL k n c l) = l := layOver_twice _ _
theorem streamL_take (k n : List UInt8) (c : W) (l : List UInt8) (m : Nat) : streamL k n c (l.take m) = (streamL k n c l).take m := layOver_take _ _ _
theorem streamL_drop (k n : List UInt8) (c : W) (l : List UInt8) (m : Nat) : streamL k n (c + BitVec.ofNat 32 m) (l.drop (64 * m)) = (streamL k n c l).drop (64 * m) := by
  have e : keyAt k n (c + BitVec.ofNat 32 m) = fun i => keyAt k n c (64 * m + i) := funext fun i => keyAt_later k n c m i
  unfold streamL
  rw [e]
  exact layOver_drop (keyAt k n c) l (64 * m)

/-- Zeros are laid to the blocks themselves. -/
theorem streamL_zeros (k n : List UInt8) (c : W) (m j : Nat) (h : 64 * m ≤ j) : ((streamL k n c (List.replicate j 0)).drop (64 * m)).take 64 = (blockL k n (c + BitVec.ofNat 32 m)).take (j - 64 * m) := by
  apply List.ext_getElem
  · simp [streamL_length, blockL_length]; omega
  · intro i h1 h2
    have h3 : i < 64 := by simp at h1; omega
    have h4 : 64 * m + i < j := by simp [streamL_length] at h1; omega
    have h5 : i < (blockL k n (c + BitVec.ofNat 32 m)).length := by rw [blockL_length]; exact h3
    simp [streamL, layOver]
    unfold keyAt
    rw [show (64 * m + i) / 64 = m by omega, show (64 * m + i) % 64 = i by omega]
    simp [List.getD, h5]

end Go.Proofs.YtjckdgapefaokaaDoor
