/- Numbers by their digits to the base 256, the lowest first; and what Poly1305 tells, as a function of lists. No program is spoken of here. No condition but those that each lemma names. -/
import Derived.KernelRfl
namespace Go.Proofs.YtceiehkbhebnpaaDoor

/-- The number of digits, the lowest first. -/
def valN : List Nat → Nat
  | [] => 0
  | d :: r => d + 256 * valN r

theorem valN_append (a b : List Nat) : valN (a ++ b) = valN a + 256 ^ a.length * valN b := by
  induction a with
  | nil => simp [valN]
  | cons d r ih =>
    rw [List.cons_append, valN, ih, valN, List.length_cons, Nat.pow_succ]
    rw [Nat.mul_add, ← Nat.mul_assoc, Nat.mul_comm 256 (256 ^ r.length)]
    omega
theorem valN_snoc (a : List Nat) (d : Nat) : valN (a ++ [d]) = valN a + 256 ^ a.length * d := by
  rw [valN_append]; simp [valN]
theorem valN_lt (a : List Nat) (h : ∀ d ∈ a, d < 256) : valN a < 256 ^ a.length := by
  induction a with
  | nil => simp [valN]
  | cons d r ih =>
    have h1 := ih (fun x hx => h x (by simp [hx]))
    have h2 := h d (by simp)
    rw [valN, List.length_cons, Nat.pow_succ]
    omega
theorem getD_out (a : List Nat) (i : Nat) (h : ¬ i < a.length) : a.getD i 0 = 0 := by
  rw [List.getD, List.getElem?_eq_none (by omega)]; rfl
theorem take_getD (ds : List Nat) (i : Nat) : valN (ds.take (i + 1)) = valN (ds.take i) + 256 ^ i * ds.getD i 0 := by
  by_cases h : i < ds.length
  · rw [List.take_succ_eq_append_getElem h, valN_snoc, show (ds.take i).length = i by simp; omega, show ds.getD i 0 = ds[i] by simp [List.getD, h]]
  · rw [List.take_of_length_le (by omega), List.take_of_length_le (by omega), getD_out ds i h]
    simp
theorem valN_zeros (n : Nat) : valN (List.replicate n 0) = 0 := by
  induction n with
  | zero => rfl
  | succ n ih => rw [List.replicate_succ, valN, ih]

/-- One more digit is carried. -/
theorem carry_step (o ds : List Nat) (i c : Nat) (hl : o.length = i) (h : valN o + 256 ^ i * c = valN (ds.take i)) :
    valN (o ++ [(c + ds.getD i 0) % 256]) + 256 ^ (i + 1) * ((c + ds.getD i 0) / 256) = valN (ds.take (i + 1)) := by
  rw [valN_snoc, hl, take_getD, ← h, Nat.pow_succ, Nat.mul_assoc]
  have e : (c + ds.getD i 0) % 256 + 256 * ((c + ds.getD i 0) / 256) = c + ds.getD i 0 := Nat.mod_add_div _ _
  rw [Nat.add_assoc, ← Nat.mul_add, e, Nat.mul_add]
  omega

/-- Digits added one by one. -/
def addD (a b : List Nat) : List Nat := (List.range (max a.length b.length)).map fun i => a.getD i 0 + b.getD i 0
theorem addD_length (a b : List Nat) : (addD a b).length = max a.length b.length := by simp [addD]
theorem valN_getD (a : List Nat) (n : Nat) (h : a.length ≤ n) : valN a = valN ((List.range n).map fun i => a.getD i 0) := by
  have : (List.range n).map (fun i => a.getD i 0) = a ++ List.replicate (n - a.length) 0 := by
    apply List.ext_getElem
    · simp; omega
    · intro i h1 h2
      simp only [List.getElem_map, List.getElem_range]
      by_cases hi : i < a.length
      · rw [List.getElem_append_left hi]; simp [List.getD, hi]
      · rw [List.getElem_append_right (by omega), getD_out a i hi]; simp
  rw [this, valN_append, valN_zeros]
  simp
theorem valN_map_add (f g : Nat → Nat) (l : List Nat) : valN (l.map fun i => f i + g i) = valN (l.map f) + valN (l.map g) := by
  induction l with
  | nil => rfl
  | cons x r ih => simp only [List.map_cons, valN, ih]; omega
theorem addD_val (a b : List Nat) : valN (addD a b) = valN a + valN b := by
  rw [addD, valN_map_add, ← valN_getD a _ (by omega), ← valN_getD b _ (by omega)]

/-- The number of bytes, the lowest first. -/
def leN (l : List UInt8) : Nat := valN (l.map UInt8.toNat)
theorem leN_lt (l : List UInt8) : leN l < 256 ^ l.length := by
  have := valN_lt (l.map UInt8.toNat) (fun d hd => by
    obtain ⟨x, _, rfl⟩ := List.mem_map.1 hd
    exact x.toNat_lt)
  simpa [leN] using this

/-- 2 to the 130, but for 5. -/
def pN : Nat := 2 ^ 130 - 5
/-- The bits of r that are let be. -/
def clampB (i : Nat) (x : UInt8) : UInt8 := if i % 4 = 3 then x % 16 else if i % 4 = 0 ∧ 0 < i then x / 4 * 4 else x
def clampL (l : List UInt8) : List UInt8 := l.mapIdx clampB
theorem clampL_length (l : List UInt8) : (clampL l).length = l.length := by simp [clampL]
/-- What a is behind the first k blocks. -/
def polyA (r : Nat) (l : List UInt8) : Nat → Nat
  | 0 => 0
  | k + 1 => ((polyA r l k + (leN ((l.drop (16 * k)).take 16) + 256 ^ ((l.drop (16 * k)).take 16).length)) * r) % pN
/-- A number's lowest n bytes, the lowest first. -/
def leB (n v : Nat) : List UInt8 := (List.range n).map fun i => UInt8.ofNat (v / 256 ^ i)
theorem leB_length (n v : Nat) : (leB n v).length = n := by simp [leB]
/-- THE TAG. -/
def tagL (key l : List UInt8) : List UInt8 := leB 16 (polyA (leN (clampL (key.take 16))) l ((l.length + 15) / 16) + leN (key.drop 16))
theorem tagL_length (key l : List UInt8) : (tagL key l).length = 16 := leB_length _ _

end Go.Proofs.YtceiehkbhebnpaaDoor
