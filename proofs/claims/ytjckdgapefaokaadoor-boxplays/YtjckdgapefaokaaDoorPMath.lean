/- The sum of bytes, as a function of lists: words, a block taken in, what stands behind a text; and what a part more does to what was taken in. No program is spoken of here. No condition but those that each lemma names. -/
import Derived.KernelRfl
namespace Go.Proofs.YtjckdgapefaokaaDoor

abbrev W := BitVec 32

/-- x right n. -/
def ror (x : W) (n : Nat) : W := (x >>> n) ||| (x <<< (32 - n))
def sm0 (x : W) : W := (ror x 7 ^^^ ror x 18) ^^^ (x >>> 3)
def sm1 (x : W) : W := (ror x 17 ^^^ ror x 19) ^^^ (x >>> 10)
def bg0 (x : W) : W := (ror x 2 ^^^ ror x 13) ^^^ ror x 22
def bg1 (x : W) : W := (ror x 6 ^^^ ror x 11) ^^^ ror x 25
def chW (e f g : W) : W := (e &&& f) ^^^ (~~~e &&& g)
def majW (a b c : W) : W := ((a &&& b) ^^^ (a &&& c)) ^^^ (b &&& c)

def Ks : List W := [
  0x428a2f98, 0x71374491, 0xb5c0fbcf, 0xe9b5dba5, 0x3956c25b, 0x59f111f1, 0x923f82a4, 0xab1c5ed5,
  0xd807aa98, 0x12835b01, 0x243185be, 0x550c7dc3, 0x72be5d74, 0x80deb1fe, 0x9bdc06a7, 0xc19bf174,
  0xe49b69c1, 0xefbe4786, 0x0fc19dc6, 0x240ca1cc, 0x2de92c6f, 0x4a7484aa, 0x5cb0a9dc, 0x76f988da,
  0x983e5152, 0xa831c66d, 0xb00327c8, 0xbf597fc7, 0xc6e00bf3, 0xd5a79147, 0x06ca6351, 0x14292967,
  0x27b70a85, 0x2e1b2138, 0x4d2c6dfc, 0x53380d13, 0x650a7354, 0x766a0abb, 0x81c2c92e, 0x92722c85,
  0xa2bfe8a1, 0xa81a664b, 0xc24b8b70, 0xc76c51a3, 0xd192e819, 0xd6990624, 0xf40e3585, 0x106aa070,
  0x19a4c116, 0x1e376c08, 0x2748774c, 0x34b0bcb5, 0x391c0cb3, 0x4ed8aa4a, 0x5b9cca4f, 0x682e6ff3,
  0x748f82ee, 0x78a5636f, 0x84c87814, 0x8cc70208, 0x90befffa, 0xa4506ceb, 0xbef9a3f7, 0xc67178f2]
def Hs : List W := [0x6a09e667, 0xbb67ae85, 0x3c6ef372, 0xa54ff53a, 0x510e527f, 0x9b05688c, 0x1f83d9ab, 0x5be0cd19]

theorem Ks_length : Ks.length = 64 := rfl
theorem Hs_length : Hs.length = 8 := rfl

/-- Four bytes, the highest first. -/
def wordOf (a b c d : UInt8) : W := BitVec.ofNat 32 (a.toNat * 16777216 + b.toNat * 65536 + c.toNat * 256 + d.toNat)
def wordAt (l : List UInt8) (i : Nat) : W := wordOf (l.getD (4 * i) 0) (l.getD (4 * i + 1) 0) (l.getD (4 * i + 2) 0) (l.getD (4 * i + 3) 0)
def w16 (l : List UInt8) : List W := (List.range 16).map (wordAt l)
theorem w16_length (l : List UInt8) : (w16 l).length = 16 := by simp [w16]

/-- The next word of those that the turns take. -/
def nxt (p : List W) : W := ((sm1 (p.getD (p.length - 2) 0) + p.getD (p.length - 7) 0) + sm0 (p.getD (p.length - 15) 0)) + p.getD (p.length - 16) 0
def sched (l : List W) : Nat → List W
  | 0 => l
  | n + 1 => sched l n ++ [nxt (sched l n)]
theorem sched_length (l : List W) (n : Nat) : (sched l n).length = l.length + n := by
  induction n with
  | zero => rfl
  | succ n ih => simp [sched, ih]; omega
def spreadL (l : List UInt8) : List W := sched (w16 l) 48
theorem spreadL_length (l : List UInt8) : (spreadL l).length = 64 := by simp [spreadL, sched_length, w16_length]

structure S8 where
  a : W
  b : W
  c : W
  d : W
  e : W
  f : W
  g : W
  h : W
def S8.ofL (l : List W) : S8 := ⟨l.getD 0 0, l.getD 1 0, l.getD 2 0, l.getD 3 0, l.getD 4 0, l.getD 5 0, l.getD 6 0, l.getD 7 0⟩
def S8.toL (s : S8) : List W := [s.a, s.b, s.c, s.d, s.e, s.f, s.g, s.h]
theorem S8.toL_length (s : S8) : s.toL.length = 8 := rfl

/-- T and U of a turn. -/
def tT (s : S8) (k w : W) : W := (((s.h + bg1 s.e) + chW s.e s.f s.g) + k) + w
def uU (s : S8) : W := bg0 s.a + majW s.a s.b s.c
def rnd (s : S8) (k w : W) : S8 := ⟨tT s k w + uU s, s.a, s.b, s.c, s.d + tT s k w, s.e, s.f, s.g⟩
def rds (s : S8) (ws : List W) : Nat → S8
  | 0 => s
  | n + 1 => rnd (rds s ws n) (Ks.getD n 0) (ws.getD n 0)
/-- A block, taken in by eight words. -/
def comp (hs : List W) (blk : List UInt8) : List W := List.zipWith (· + ·) hs (rds (S8.ofL hs) (spreadL blk) 64).toL
theorem comp_length {hs : List W} (h : hs.length = 8) (blk : List UInt8) : (comp hs blk).length = 8 := by simp [comp, h, S8.toL_length]

/-- The words behind the first k blocks. -/
def hashW : Nat → List UInt8 → List W
  | 0, _ => Hs
  | k + 1, l => comp (hashW k l) ((l.drop (64 * k)).take 64)
theorem hashW_length (k : Nat) (l : List UInt8) : (hashW k l).length = 8 := by
  induction k with
  | zero => rfl
  | succ k ih => exact comp_length ih _
theorem hashW_append (k : Nat) (l c : List UInt8) (h : 64 * k ≤ l.length) : hashW k (l ++ c) = hashW k l := by
  induction k with
  | zero => rfl
  | succ k ih =>
    simp only [hashW]
    rw [ih (by omega), List.drop_append_of_le_length (by omega), List.take_append_of_le_length (by simp; omega)]

/-- A number in n bytes, the highest first. -/
def be8 (n v : Nat) : List UInt8 := (List.range n).map fun i => UInt8.ofNat (v / 2 ^ (8 * (n - 1 - i)))
theorem be8_length (n v : Nat) : (be8 n v).length = n := by simp [be8]
theorem be8_get (n v i : Nat) (h : i < (be8 n v).length) : (be8 n v)[i] = UInt8.ofNat (v / 2 ^ (8 * (n - 1 - i))) := by simp [be8]

def zerosN (n : Nat) : Nat := (119 - n % 64) % 64
/-- What stands behind a text of n bytes. -/
def tailL (n : Nat) : List UInt8 := (0x80 :: List.replicate (zerosN n) 0) ++ be8 8 (n * 8)
theorem tailL_length (n : Nat) : (tailL n).length = zerosN n + 9 := by simp [tailL, be8_length]
def padL (l : List UInt8) : List UInt8 := l ++ tailL l.length
theorem padL_length (l : List UInt8) : (padL l).length = l.length + zerosN l.length + 9 := by simp [padL, tailL_length]; omega
theorem padL_mod (l : List UInt8) : (padL l).length % 64 = 0 := by
  rw [padL_length]; unfold zerosN; omega
theorem padL_pos (l : List UInt8) : 64 ≤ (padL l).length := by
  have := padL_mod l
  have := padL_length l
  omega
def shaW (l : List UInt8) : List W := hashW ((padL l).length / 64) (padL l)
theorem shaW_length (l : List UInt8) : (shaW l).length = 8 := hashW_length _ _
def bytesOf (ws : List W) : List UInt8 := ws.flatMap fun w => be8 4 w.toNat
theorem bytesOf_length (ws : List W) : (bytesOf ws).length = 4 * ws.length := by
  induction ws with
  | nil => rfl
  | cons w ws ih =>
    have e : bytesOf (w :: ws) = be8 4 w.toNat ++ bytesOf ws := rfl
    rw [e, List.length_append, be8_length, ih, List.length_cons]; omega
/-- THE SUM. -/
def shaL (l : List UInt8) : List UInt8 := bytesOf (shaW l)
theorem shaL_length (l : List UInt8) : (shaL l).length = 32 := by rw [shaL, bytesOf_length, shaW_length]

/-- What a Hash holds that took the bytes l in. -/
structure Took (words : List W) (rest : List UInt8) (l : List UInt8) : Prop where
  w8 : words.length = 8
  r64 : rest.length = 64
  ws : 64 ≤ l.length → words = hashW (l.length / 64) l
  rs : rest.take (l.length % 64) = l.drop (64 * (l.length / 64))

theorem Took.none : Took (List.replicate 8 0) (List.replicate 64 0) [] := ⟨rfl, rfl, (fun h => by simp at h), by simp⟩

/-- The words ahead of the next block. -/
def soFarL (words : List W) (n : Nat) : List W := if n < 64 then Hs else words
theorem Took.soFar {words : List W} {rest l : List UInt8} (h : Took words rest l) : soFarL words l.length = hashW (l.length / 64) l := by
  unfold soFarL
  split
  · rw [Nat.div_eq_of_lt (by assumption)]; rfl
  · exact h.ws (by omega)
theorem Took.soFar_length {words : List W} {rest l : List UInt8} (h : Took words rest l) : (soFarL words l.length).length = 8 := by rw [h.soFar, hashW_length]

def spliceL (rest : List UInt8) (k : Nat) (c : List UInt8) : List UInt8 := (rest.take k ++ c) ++ rest.drop (k + c.length)
theorem spliceL_length (rest : List UInt8) (k : Nat) (c : List UInt8) (h : k + c.length ≤ rest.length) : (spliceL rest k c).length = rest.length := by simp [spliceL]; omega

/-- A part that fills the block. -/
theorem Took.full {words : List W} {rest l : List UInt8} (h : Took words rest l) (c : List UInt8) (hc : l.length % 64 + c.length = 64) :
    Took (comp (soFarL words l.length) (spliceL rest (l.length % 64) c)) (spliceL rest (l.length % 64) c) (l ++ c) := by
  have hr := h.r64
  have e1 : (l ++ c).length / 64 = l.length / 64 + 1 := by simp; omega
  have e2 : (l ++ c).length % 64 = 0 := by simp; omega
  have e4 : spliceL rest (l.length % 64) c = l.drop (64 * (l.length / 64)) ++ c := by
    rw [spliceL, h.rs, hc, List.drop_eq_nil_of_le (as := rest) (by omega), List.append_nil]
  have e3 : (l ++ c).drop (64 * (l.length / 64)) = spliceL rest (l.length % 64) c := by
    rw [e4, List.drop_append_of_le_length (by omega)]
  refine ⟨comp_length h.soFar_length _, ?_, (fun _ => ?_), ?_⟩
  · rw [spliceL_length _ _ _ (by omega), hr]
  · rw [e1, h.soFar]
    simp only [hashW]
    rw [hashW_append _ _ _ (by omega), e3, List.take_of_length_le (by rw [spliceL_length _ _ _ (by omega)]; omega)]
  · rw [e2, e1, List.take_zero, List.drop_eq_nil_of_le (by simp; omega)]

/-- A part that does not. -/
theorem Took.less {words : List W} {rest l : List UInt8} (h : Took words rest l) (c : List UInt8) (hc : l.length % 64 + c.length < 64) :
    Took words (spliceL rest (l.length % 64) c) (l ++ c) := by
  have hr := h.r64
  have e1 : (l ++ c).length / 64 = l.length / 64 := by simp; omega
  have e2 : (l ++ c).length % 64 = l.length % 64 + c.length := by simp; omega
  refine ⟨h.w8, ?_, (fun h2 => ?_), ?_⟩
  · rw [spliceL_length _ _ _ (by omega), hr]
  · rw [e1, hashW_append _ _ _ (by omega)]
    exact h.ws (by simp at h2; omega)
  · rw [e2, e1, List.drop_append_of_le_length (by omega), ← h.rs, spliceL, List.take_append_of_le_length (by simp; omega), List.take_of_length_le (by simp; omega)]

/-- What is told behind the end is the sum. -/
theorem Took.ended {words : List W} {rest l : List UInt8} (h : Took words rest (padL l)) : words = shaW l := h.ws (padL_pos l)

end Go.Proofs.YtjckdgapefaokaaDoor

/- ChaCha20's block and what a text is laid to, as functions of lists; and that what is laid over twice is as it was. No program is spoken of here. No condition but those that each lemma names. -/
namespace Go.Proofs.YtjckdgapefaokaaDoor

/-- x turned left by n. -/
def rol (x : W) (n : Nat) : W := (x <<< n) ||| (x >>> (32 - n))

structure Q4 where
  a : W
  b : W
  c : W
  d : W

/-- A quarter round of four words. -/
def quart (a b c d : W) : Q4 :=
  ⟨(a + b) + rol (b ^^^ (c + rol (d ^^^ (a + b)) 16)) 12,
   rol (rol (b ^^^ (c + rol (d ^^^ (a + b)) 16)) 12 ^^^ ((c + rol (d ^^^ (a + b)) 16) + rol (rol (d ^^^ (a + b)) 16 ^^^ ((a + b) + rol (b ^^^ (c + rol (d ^^^ (a + b)) 16)) 12)) 8)) 7,
   (c + rol (d ^^^ (a + b)) 16) + rol (rol (d ^^^ (a + b)) 16 ^^^ ((a + b) + rol (b ^^^ (c + rol (d ^^^ (a + b)) 16)) 12)) 8,
   rol (rol (d ^^^ (a + b)) 16 ^^^ ((a + b) + rol (b ^^^ (c + rol (d ^^^ (a + b)) 16)) 12)) 8⟩

/-- Four words written at four places. -/
def put4 (s : List W) (i j k l : Nat) (q : Q4) : List W := (((s.set i q.a).set j q.b).set k q.c).set l q.d
def quartL (s : List W) (i j k l : Nat) : List W := put4 s i j k l (quart (s.getD i 0) (s.getD j 0) (s.getD k 0) (s.getD l 0))
theorem quartL_length (s : List W) (i j k l : Nat) : (quartL s i j k l).length = s.length := by simp [quartL, put4]

def turnL (s : List W) : List W :=
  quartL (quartL (quartL (quartL (quartL (quartL (quartL (quartL s 0 4 8 12) 1 5 9 13) 2 6 10 14) 3 7 11 15) 0 5 10 15) 1 6 11 12) 2 7 8 13) 3 4 9 14
theorem turnL_length (s : List W) : (turnL s).length = s.length := by simp [turnL, quartL_length]
def turnsL : Nat → List W → List W
  | 0, s => s
  | n + 1, s => turnL (turnsL n s)
theorem turnsL_length (n : Nat) (s : List W) : (turnsL n s).length = s.length := by
  induction n with
  | zero => rfl
  | succ n ih => rw [turnsL, turnL_length, ih]

/-- Four bytes, the lowest first. -/
def leOf (a b c d : UInt8) : W := BitVec.ofNat 32 (a.toNat + b.toNat * 256 + c.toNat * 65536 + d.toNat * 16777216)
def leAt (l : List UInt8) (i : Nat) : W := leOf (l.getD (4 * i) 0) (l.getD (4 * i + 1) 0) (l.getD (4 * i + 2) 0) (l.getD (4 * i + 3) 0)

def Fw : List W := [0x61707865, 0x3320646e, 0x79622d32, 0x6b206574]
/-- The words that a block begins with. -/
def firstL (k n : List UInt8) (c : W) : List W := Fw ++ ((List.range 8).map (leAt k) ++ ([c] ++ (List.range 3).map (leAt n)))
theorem firstL_length (k n : List UInt8) (c : W) : (firstL k n c).length = 16 := by simp [firstL, Fw]

/-- A word's four bytes, the lowest first. -/
def le4 (x : W) : List UInt8 := (List.range 4).map fun i => UInt8.ofNat (x.toNat / 2 ^ (8 * i))
theorem le4_length (x : W) : (le4 x).length = 4 := by simp [le4]
theorem le4_get (x : W) (i : Nat) (h : i < (le4 x).length) : (le4 x)[i] = UInt8.ofNat (x.toNat / 2 ^ (8 * i)) := by simp [le4]

def leBytes (ws : List W) : List UInt8 := ws.flatMap le4
theorem leBytes_length (ws : List W) : (leBytes ws).length = 4 * ws.length := by
  induction ws with
  | nil => rfl
  | cons w ws ih =>
    have e : leBytes (w :: ws) = le4 w ++ leBytes ws := rfl
    rw [e, List.length_append, le4_length, ih, List.length_cons]; omega
theorem leBytes_append (a b : List W) : leBytes (a ++ b) = leBytes a ++ leBytes b := by simp [leBytes]
theorem leBytes_get (ws : List W) : ∀ i, i < 4 * ws.length → (leBytes ws).getD i 0 = UInt8.ofNat ((ws.getD (i / 4) 0).toNat / 2 ^ (8 * (i % 4))) := by
  induction ws with
  | nil => intro i h; simp at h
  | cons w ws ih =>
    intro i h
    have e : leBytes (w :: ws) = le4 w ++ leBytes ws := rfl
    rw [List.length_cons] at h
    by_cases hi : i < 4
    · have h4 : i < (le4 w).length := by rw [le4_length]; exact hi
      rw [e, show (le4 w ++ leBytes ws).getD i 0 = (le4 w)[i] by simp only [List.getD]; rw [List.getElem?_append_left h4, List.getElem?_eq_getElem h4]; rfl, le4_get, Nat.div_eq_of_lt hi, Nat.mod_eq_of_lt hi]
      rfl
    · have h4 : ¬ i < (le4 w).length := by rw [le4_length]; exact hi
      have := ih (i - 4) (by omega)
      rw [e, show (le4 w ++ leBytes ws).getD i 0 = (leBytes ws).getD (i - 4) 0 by
        rw [List.getD, List.getElem?_append_right (by omega), le4_length]; rfl, this, show i / 4 = (i - 4) / 4 + 1 by omega, show (i - 4) % 4 = i % 4 by omega]
      rfl

/-- The words of a block. -/
def blockW (k n : List UInt8) (c : W) : List W := List.zipWith (· + ·) (turnsL 10 (firstL k n c)) (firstL k n c)
theorem blockW_length (k n : List UInt8) (c : W) : (blockW k n c).length = 16 := by simp [blockW, turnsL_length, firstL_length]
/-- THE BLOCK. -/
def blockL (k n : List UInt8) (c : W) : List UInt8 := leBytes (blockW k n c)
theorem blockL_length (k n : List UInt8) (c : W) : (blockL k n c).length = 64 := by rw [blockL, leBytes_length, blockW_length]

/-- The byte that the i-th byte of a text is laid over. -/
def keyAt (k n : List UInt8) (c : W) (i : Nat) : UInt8 := (blockL k n (c + BitVec.ofNat 32 (i / 64))).getD (i % 64) 0
/-- A text laid over bytes. -/
def layOver (f : Nat → UInt8) (l : List UInt8) : List UInt8 := l.mapIdx fun i x => x ^^^ f i
/-- THE TEXT LAID OVER THE KEY'S BYTES. -/
def streamL (k n : List UInt8) (c : W) (l : List UInt8) : List UInt8 := layOver (keyAt k n c) l

theorem layOver_length (f : Nat → UInt8) (l : List UInt8) : (layOver f l).length = l.length := by simp [layOver]
theorem layOver_get (f : Nat → UInt8) (l : List UInt8) (i : Nat) (h : i < l.length) : (layOver f l)[i]'(by rw [layOver_length]; exact h) = l[i] ^^^ f i := by simp [layOver]
theorem streamL_length (k n : List UInt8) (c : W) (l : List UInt8) : (streamL k n c l).length = l.length := layOver_length _ _

theorem layOver_twice (f : Nat → UInt8) (l : List UInt8) : layOver f (layOver f l) = l := by
  apply List.ext_getElem
  · rw [layOver_length, layOver_length]
  · intro i h1 h2
    rw [layOver_get _ _ _ (by rw [layOver_length]; exact h2), layOver_get _ _ _ h2, UInt8.xor_assoc, UInt8.xor_self, UInt8.xor_zero]
theorem layOver_append (f : Nat → UInt8) (a b : List UInt8) : layOver f (a ++ b) = layOver f a ++ layOver (fun i => f (i + a.length)) b := by
  unfold layOver; rw [List.mapIdx_append]
theorem layOver_take (f : Nat → UInt8) (l : List UInt8) (m : Nat) : layOver f (l.take m) = (layOver f l).take m := by
  apply List.ext_getElem
  · simp [layOver]
  · intro i h1 h2
    simp [layOver]
theorem layOver_drop (f : Nat → UInt8) (l : List UInt8) (m : Nat) : layOver (fun i => f (m + i)) (l.drop m) = (layOver f l).drop m := by
  apply List.ext_getElem
  · simp [layOver]
  · intro i h1 h2
    simp [layOver]

theorem ofNat_add (a b : Nat) : (BitVec.ofNat 32 a : W) + BitVec.ofNat 32 b = BitVec.ofNat 32 (a + b) := by
  apply BitVec.eq_of_toNat_eq
  simp

theorem keyAt_later (k n : List UInt8) (c : W) (m i : Nat) : keyAt k n (c + BitVec.ofNat 32 m) i = keyAt k n c (64 * m + i) := by
  unfold keyAt
  rw [BitVec.add_assoc, ofNat_add, show (64 * m + i) / 64 = m + i / 64 by omega, show (64 * m + i) % 64 = i % 64 by omega]

theorem streamL_twice (k n : List UInt8) (c : W) (l : List UInt8) : streamL k n c (streamL k n c l) = l := layOver_twice _ _
theorem streamL_take (k n : List UInt8) (c : W) (l : List UInt8) (m : Nat) : streamL k n c (l.take m) = (streamL k n c l).take m := layOver_take _ _ _
theorem streamL_drop (k n : List UInt8) (c : W) (l : List UInt8) (m : Nat) : streamL k n (c + BitVec.ofNat 32 m) (l.drop (64 * m)) = (streamL k n c l).drop (64 * m) := by
  have e : keyAt k n (c + BitVec.ofNat 32 m) = fun i => keyAt k n c (64 * m + i) := funext fun i => keyAt_later k n c m i
  unfold streamL
  rw [e]
  exact layOver_drop (keyAt k n c) l (64 * m)

/-- Zeros are laid to the blocks themselves. -/
theorem streamL_zeros (k n : List UInt8) (c : W) (m j : Nat) (h : 64 * m ≤ j) : ((streamL k n c (List.replicate j 0)).drop (64 * m)).take 64 = (blockL k n (c + BitVec.ofNat 32 m)).take (j - 64 * m) := by
  apply List.ext_getElem
  · simp [streamL_length, blockL_length]; omega
  · intro i h1 h2
    have h3 : i < 64 := by simp at h1; omega
    have h4 : 64 * m + i < j := by simp [streamL_length] at h1; omega
    have h5 : i < (blockL k n (c + BitVec.ofNat 32 m)).length := by rw [blockL_length]; exact h3
    simp [streamL, layOver]
    unfold keyAt
    rw [show (64 * m + i) / 64 = m by omega, show (64 * m + i) % 64 = i by omega]
    simp [List.getD, h5]

end Go.Proofs.YtjckdgapefaokaaDoor

/- Numbers by their digits to the base 256, the lowest first; and what Poly1305 tells, as a function of lists. No program is spoken of here. No condition but those that each lemma names. -/
namespace Go.Proofs.YtjckdgapefaokaaDoor

/-- The number of digits, the lowest first. -/
def valN : List Nat → Nat
  | [] => 0
  | d :: r => d + 256 * valN r

theorem valN_append (a b : List Nat) : valN (a ++ b) = valN a + 256 ^ a.length * valN b := by
  induction a with
  | nil => simp [valN]
  | cons d r ih =>
    rw [List.cons_append, valN, ih, valN, List.length_cons, Nat.pow_succ]
    rw [Nat.mul_add, ← Nat.mul_assoc, Nat.mul_comm 256 (256 ^ r.length)]
    omega
theorem valN_snoc (a : List Nat) (d : Nat) : valN (a ++ [d]) = valN a + 256 ^ a.length * d := by
  rw [valN_append]; simp [valN]
theorem valN_lt (a : List Nat) (h : ∀ d ∈ a, d < 256) : valN a < 256 ^ a.length := by
  induction a with
  | nil => simp [valN]
  | cons d r ih =>
    have h1 := ih (fun x hx => h x (by simp [hx]))
    have h2 := h d (by simp)
    rw [valN, List.length_cons, Nat.pow_succ]
    omega
theorem getD_out (a : List Nat) (i : Nat) (h : ¬ i < a.length) : a.getD i 0 = 0 := by
  rw [List.getD, List.getElem?_eq_none (by omega)]; rfl
theorem take_getD (ds : List Nat) (i : Nat) : valN (ds.take (i + 1)) = valN (ds.take i) + 256 ^ i * ds.getD i 0 := by
  by_cases h : i < ds.length
  · rw [List.take_succ_eq_append_getElem h, valN_snoc, show (ds.take i).length = i by simp; omega, show ds.getD i 0 = ds[i] by simp [List.getD, h]]
  · rw [List.take_of_length_le (by omega), List.take_of_length_le (by omega), getD_out ds i h]
    simp
theorem valN_zeros (n : Nat) : valN (List.replicate n 0) = 0 := by
  induction n with
  | zero => rfl
  | succ n ih => rw [List.replicate_succ, valN, ih]

/-- One more digit is carried. -/
theorem carry_step (o ds : List Nat) (i c : Nat) (hl : o.length = i) (h : valN o + 256 ^ i * c = valN (ds.take i)) :
    valN (o ++ [(c + ds.getD i 0) % 256]) + 256 ^ (i + 1) * ((c + ds.getD i 0) / 256) = valN (ds.take (i + 1)) := by
  rw [valN_snoc, hl, take_getD, ← h, Nat.pow_succ, Nat.mul_assoc]
  have e : (c + ds.getD i 0) % 256 + 256 * ((c + ds.getD i 0) / 256) = c + ds.getD i 0 := Nat.mod_add_div _ _
  rw [Nat.add_assoc, ← Nat.mul_add, e, Nat.mul_add]
  omega

/-- Digits added one by one. -/
def addD (a b : List Nat) : List Nat := (List.range (max a.length b.length)).map fun i => a.getD i 0 + b.getD i 0
theorem addD_length (a b : List Nat) : (addD a b).length = max a.length b.length := by simp [addD]
theorem valN_getD (a : List Nat) (n : Nat) (h : a.length ≤ n) : valN a = valN ((List.range n).map fun i => a.getD i 0) := by
  have : (List.range n).map (fun i => a.getD i 0) = a ++ List.replicate (n - a.length) 0 := by
    apply List.ext_getElem
    · simp; omega
    · intro i h1 h2
      simp only [List.getElem_map, List.getElem_range]
      by_cases hi : i < a.length
      · rw [List.getElem_append_left hi]; simp [List.getD, hi]
      · rw [List.getElem_append_right (by omega), getD_out a i hi]; simp
  rw [this, valN_append, valN_zeros]
  simp
theorem valN_map_add (f g : Nat → Nat) (l : List Nat) : valN (l.map fun i => f i + g i) = valN (l.map f) + valN (l.map g) := by
  induction l with
  | nil => rfl
  | cons x r ih => simp only [List.map_cons, valN, ih]; omega
theorem addD_val (a b : List Nat) : valN (addD a b) = valN a + valN b := by
  rw [addD, valN_map_add, ← valN_getD a _ (by omega), ← valN_getD b _ (by omega)]

/-- The number of bytes, the lowest first. -/
def leN (l : List UInt8) : Nat := valN (l.map UInt8.toNat)
theorem leN_lt (l : List UInt8) : leN l < 256 ^ l.length := by
  have := valN_lt (l.map UInt8.toNat) (fun d hd => by
    obtain ⟨x, _, rfl⟩ := List.mem_map.1 hd
    exact x.toNat_lt)
  simpa [leN] using this

/-- 2 to the 130, but for 5. -/
def pN : Nat := 2 ^ 130 - 5
/-- The bits of r that are let be. -/
def clampB (i : Nat) (x : UInt8) : UInt8 := if i % 4 = 3 then x % 16 else if i % 4 = 0 ∧ 0 < i then x / 4 * 4 else x
def clampL (l : List UInt8) : List UInt8 := l.mapIdx clampB
theorem clampL_length (l : List UInt8) : (clampL l).length = l.length := by simp [clampL]
/-- What a is behind the first k blocks. -/
def polyA (r : Nat) (l : List UInt8) : Nat → Nat
  | 0 => 0
  | k + 1 => ((polyA r l k + (leN ((l.drop (16 * k)).take 16) + 256 ^ ((l.drop (16 * k)).take 16).length)) * r) % pN
/-- A number's lowest n bytes, the lowest first. -/
def leB (n v : Nat) : List UInt8 := (List.range n).map fun i => UInt8.ofNat (v / 256 ^ i)
theorem leB_length (n v : Nat) : (leB n v).length = n := by simp [leB]
/-- THE TAG. -/
def tagL (key l : List UInt8) : List UInt8 := leB 16 (polyA (leN (clampL (key.take 16))) l ((l.length + 15) / 16) + leN (key.drop 16))
theorem tagL_length (key l : List UInt8) : (tagL key l).length = 16 := leB_length _ _

end Go.Proofs.YtjckdgapefaokaaDoor
