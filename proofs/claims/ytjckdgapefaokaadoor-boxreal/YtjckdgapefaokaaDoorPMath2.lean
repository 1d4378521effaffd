/- Numbers by their digits to the base 256, the lowest first; and what Poly1305 tells, as a function of lists. No program is spoken of here. No condition but those that each lemma names. -/
import Derived.KernelRfl
namespace Go.Proofs.YtjckdgapefaokaaDoor

/-- The number of digits, the lowest first. -/
def valN : List Nat → Nat
  | [] => 0
  | d :: r => d + 256 * valN r

theorem valN_append (a b : List Nat) : valN (a ++ b) = valN a + 256 ^ a.length * valN b := by
  induction a with
  | nil => simp [valN]
  | cons d r ih =>
    rw [List.cons_append, valN, ih, valN, List.length_cons, Nat.pow_succ]
    rw [Nat.mul_add, ← Nat.mul_assoc, Nat.mul_comm 256 (256 ^ r.length)]
    omega
theorem valN_snoc (a : List Nat) (d : Nat) : valN (a ++ [d]) = valN a + 256 ^ a.length * d := by
  rw [valN_append]; simp [valN]
theorem valN_lt (a : List Nat) (h : ∀ d ∈ a, d < 256) : valN a < 256 ^ a.length := by
  induction a with
  | nil => simp [valN]
  | cons d r ih =>
    have h1 := ih (fun x hx => h x (by simp [hx]))
    have h2 := h d (by simp)
    rw [valN, List.length_cons, Nat.pow_succ]
    omega
theorem getD_out (a : List Nat) (i : Nat) (h : ¬ i < a.length) : a.getD i 0 = 0 := by
  rw [List.getD, List.getElem?_eq_none (by omega)]; rfl
theorem take_getD (ds : List Nat) (i : Nat) : valN (ds.take (i + 1)) = valN (ds.take i) + 256 ^ i * ds.getD i 0 := by
  by_cases h : i < ds.length
  · rw [List.take_succ_eq_append_getElem h, valN_snoc, show (ds.take i).length = i by simp; omega, show ds.getD i 0 = ds[i] by simp [List.getD, h]]
  · rw [List.take_of_length_le (by omega), List.take_of_length_le (by omega), getD_out ds i h]
    simp
theorem valN_zeros (n : Nat) : valN (List.replicate n 0) = 0 := by
  induction n with
  | zero => rfl
  | succ n ih => rw [List.replicate_succ, valN, ih]

/-- One more digit is carried. -/
theorem carry_step (o ds : List Nat) (i c : Nat) (hl : o.length = i) (h : valN o + 256 ^ i * c = valN (ds.take i)) :
    valN (o ++ [(c + ds.getD i 0) % 256]) + 256 ^ (i + 1) * ((c + ds.getD i 0) / 256) = valN (ds.take (i + 1)) := by
  rw [valN_snoc, hl, take_getD, ← h, Nat.pow_succ, Nat.mul_assoc]
  have e : (c + ds.getD i 0) % 256 + 256 * ((c + ds.getD i 0) / 256) = c + ds.getD i 0 := Nat.mod_add_div _ _
  rw [Nat.add_assoc, ← Nat.mul_add, e, Nat.mul_add]
  omega

/-- Digits added one by one. -/
def addD (a b : List Nat) : List Nat := (List.range (max a.length b.length)).map fun i => a.getD i 0 + b.getD i 0
theorem addD_length (a b : List Nat) : (addD a b).length = max a.length b.length := by simp [addD]
theorem valN_getD (a : List Nat) (n : Nat) (h : a.length ≤ n) : valN a = valN ((List.range n).map fun i => a.getD i 0) := by
  have : (List.range n).map (fun i => a.getD i 0) = a ++ List.replicate (n - a.length) 0 := by
    apply List.ext_getElem
    · simp; omega
    · intro i h1 h2
      simp only [List.getElem_map, List.getElem_range]
      by_cases hi : i < a.length
      · rw [List.getElem_append_left hi]; simp [List.getD, hi]
      · rw [List.getElem_append_right (by omega), getD_out a i hi]; simp
  rw [this, valN_append, valN_zeros]
  simp
theorem valN_map_add (f g : Nat → Nat) (l : List Nat) : valN (l.map fun i => f i + g i) = valN (l.map f) + valN (l.map g) := by
  induction l with
  | nil => rfl
  | cons x r ih => simp only [List.map_cons, valN, ih]; omega
theorem addD_val (a b : List Nat) : valN (addD a b) = valN a + valN b := by
  rw [addD, valN_map_add, ← valN_getD a _ (by omega), ← valN_getD b _ (by omega)]

/-- The number of bytes, the lowest first. -/
def leN (l : List UInt8) : Nat := valN (l.map UInt8.toNat)
theorem leN_lt (l : List UInt8) : leN l < 256 ^ l.length := by
  have := valN_lt (l.map UInt8.toNat) (fun d hd => by
    obtain ⟨x, _, rfl⟩ := List.mem_map.1 hd
    exact x.toNat_lt)
  simpa [leN] using this

/-- 2 to the 130, but for 5. -/
def pN : Nat := 2 ^ 130 - 5
/-- The bits of r that are let be. -/
def clampB (i : Nat) (x : UInt8) : UInt8 := if i % 4 = 3 then x % 16 else if i % 4 = 0 ∧ 0 < i then x / 4 * 4 else x
def clampL (l : List UInt8) : List UInt8 := l.mapIdx clampB
theorem clampL_length (l : List UInt8) : (clampL l).length = l.length := by simp [clampL]
/-- What a is behind the first k blocks. -/
def polyA (r : Nat) (l : List UInt8) : Nat → Nat
  | 0 => 0
  | k + 1 => ((polyA r l k + (leN ((l.drop (16 * k)).take 16) + 256 ^ ((l.drop (16 * k)).take 16).length)) * r) % pN
/-- A number's lowest n bytes, the lowest first. -/
def leB (n v : Nat) : List UInt8 := (List.range n).map fun i => UInt8.ofNat (v / 256 ^ i)
theorem leB_length (n v : Nat) : (leB n v).length = n := by simp [leB]
/-- THE TAG. -/
def tagL (key l : List UInt8) : List UInt8 := leB 16 (polyA (leN (clampL (key.take 16))) l ((l.length + 15) / 16) + leN (key.drop 16))
theorem tagL_length (key l : List UInt8) : (tagL key l).length = 16 := leB_length _ _

end Go.Proofs.YtjckdgapefaokaaDoor

/- Numbers by their digits: held against one another, taken from one another, and what is left by 2 to the 130 but for 5. No program is spoken of here. No condition but those that each lemma names. -/
namespace Go.Proofs.YtjckdgapefaokaaDoor

/-- The number of the first i digits. -/
def preN (a : List Nat) (i : Nat) : Nat := valN ((List.range i).map fun j => a.getD j 0)
theorem preN_succ (a : List Nat) (i : Nat) : preN a (i + 1) = preN a i + 256 ^ i * a.getD i 0 := by
  unfold preN
  rw [List.range_succ, List.map_append, List.map_cons, List.map_nil, valN_snoc]
  simp
theorem preN_zero (a : List Nat) : preN a 0 = 0 := rfl
theorem getD_lt {a : List Nat} (h : ∀ d ∈ a, d < 256) (i : Nat) : a.getD i 0 < 256 := by
  by_cases hi : i < a.length
  · rw [show a.getD i 0 = a[i] by simp [List.getD, hi]]; exact h _ (List.getElem_mem hi)
  · rw [getD_out a i hi]; omega
theorem preN_lt {a : List Nat} (h : ∀ d ∈ a, d < 256) (i : Nat) : preN a i < 256 ^ i := by
  have := valN_lt ((List.range i).map fun j => a.getD j 0) (fun d hd => by
    obtain ⟨j, _, rfl⟩ := List.mem_map.1 hd
    exact getD_lt h j)
  rw [List.length_map, List.length_range] at this
  exact this
theorem preN_all (a : List Nat) (n : Nat) (h : a.length ≤ n) : preN a n = valN a := (valN_getD a n h).symm

theorem below_eq {a b : List Nat} {i : Nat} (h : a.getD i 0 = b.getD i 0) : (preN a (i + 1) < preN b (i + 1)) ↔ (preN a i < preN b i) := by
  rw [preN_succ, preN_succ, h]; omega
theorem below_lt {a b : List Nat} {i : Nat} (ha : ∀ d ∈ a, d < 256) (h : a.getD i 0 < b.getD i 0) : preN a (i + 1) < preN b (i + 1) := by
  rw [preN_succ, preN_succ]
  have h1 := preN_lt ha i
  have h2 : 256 ^ i * (a.getD i 0 + 1) ≤ 256 ^ i * b.getD i 0 := Nat.mul_le_mul_left _ h
  rw [Nat.mul_add] at h2
  omega
theorem below_gt {a b : List Nat} {i : Nat} (hb : ∀ d ∈ b, d < 256) (h : b.getD i 0 < a.getD i 0) : ¬ preN a (i + 1) < preN b (i + 1) := by
  have := below_lt (a := b) (b := a) hb h
  omega

/-- One more digit is taken off. -/
theorem less_step (o a b : List Nat) (i c d c' : Nat) (hl : o.length = i) (h : valN o + preN b i = preN a i + 256 ^ i * c) (hd : d + b.getD i 0 + c = a.getD i 0 + 256 * c') :
    valN (o ++ [d]) + preN b (i + 1) = preN a (i + 1) + 256 ^ (i + 1) * c' := by
  rw [valN_snoc, hl, preN_succ, preN_succ, Nat.pow_succ, Nat.mul_assoc]
  have e : 256 ^ i * (d + b.getD i 0 + c) = 256 ^ i * (a.getD i 0 + 256 * c') := by rw [hd]
  rw [Nat.mul_add, Nat.mul_add, Nat.mul_add] at e
  omega

/-- What is above 2 bits of each digit. -/
def shiftD : List Nat → List Nat
  | [] => []
  | d :: r => (d / 4 + r.getD 0 0 % 4 * 64) :: shiftD r
theorem head_mod (r : List Nat) : valN r % 4 = r.getD 0 0 % 4 := by
  cases r with
  | nil => rfl
  | cons d s => rw [valN]; simp [List.getD]; omega
theorem shiftD_val (l : List Nat) : valN (shiftD l) = valN l / 4 := by
  induction l with
  | nil => rfl
  | cons d r ih =>
    have h := head_mod r
    rw [shiftD, valN, ih, valN, ← h]
    omega
theorem shiftD_length (l : List Nat) : (shiftD l).length = l.length := by
  induction l with
  | nil => rfl
  | cons d r ih => simp [shiftD, ih]
theorem shiftD_lt (l : List Nat) (h : ∀ d ∈ l, d < 256) : ∀ d ∈ shiftD l, d < 256 := by
  induction l with
  | nil => intro d hd; cases hd
  | cons d r ih =>
    intro x hx
    rcases List.mem_cons.1 hx with rfl | hx
    · have h1 := h d (by simp)
      omega
    · exact ih (fun y hy => h y (by simp [hy])) x hx
theorem shiftD_get (l : List Nat) : ∀ i, (shiftD l).getD i 0 = l.getD i 0 / 4 + l.getD (i + 1) 0 % 4 * 64 := by
  induction l with
  | nil => intro i; simp [shiftD, List.getD]
  | cons d r ih =>
    intro i
    cases i with
    | zero => simp [shiftD, List.getD]
    | succ i => have := ih i; simpa [shiftD, List.getD] using this

/-- The lowest 130 bits. -/
def lowD (n : List Nat) : List Nat := if 16 < n.length then n.take 16 ++ [n.getD 16 0 % 4] else n
def highD (n : List Nat) : List Nat := shiftD (n.drop 16)
theorem lowD_lt (n : List Nat) (h : ∀ d ∈ n, d < 256) : ∀ d ∈ lowD n, d < 256 := by
  unfold lowD
  split
  · intro d hd
    rcases List.mem_append.1 hd with hd | hd
    · exact h d (List.mem_of_mem_take hd)
    · rw [List.mem_singleton] at hd; omega
  · exact h
theorem split130 (n : List Nat) (h : ∀ d ∈ n, d < 256) : valN (lowD n) = valN n % 1361129467683753853853498429727072845824 ∧ valN (highD n) = valN n / 1361129467683753853853498429727072845824 := by
  have p16 : (256 : Nat) ^ 16 = 340282366920938463463374607431768211456 := by decide
  by_cases hl : 16 < n.length
  · have e := List.take_append_drop 16 n
    have hv : valN n = valN (n.take 16) + 340282366920938463463374607431768211456 * valN (n.drop 16) := by
      conv => lhs; rw [← e]
      rw [valN_append, show (n.take 16).length = 16 by simp; omega, p16]
    have h1 := valN_lt (n.take 16) (fun d hd => h d (List.mem_of_mem_take hd))
    rw [show (n.take 16).length = 16 by simp; omega, p16] at h1
    have h2 := head_mod (n.drop 16)
    rw [show (n.drop 16).getD 0 0 = n.getD 16 0 by simp [List.getD]] at h2
    unfold lowD highD
    rw [if_pos hl, shiftD_val, valN_snoc, show (n.take 16).length = 16 by simp; omega, p16, ← h2, hv]
    constructor <;> omega
  · have h1 := valN_lt n h
    have h2 : 256 ^ n.length ≤ (256 : Nat) ^ 16 := Nat.pow_le_pow_right (by omega) (by omega)
    rw [p16] at h2
    unfold lowD highD
    rw [if_neg hl, List.drop_of_length_le (by omega)]
    simp only [shiftD, valN]
    constructor <;> omega
/-- What counts five times. -/
def modS (v : Nat) : Nat := v % 1361129467683753853853498429727072845824 + 5 * (v / 1361129467683753853853498429727072845824)
theorem pN_eq : pN = 1361129467683753853853498429727072845819 := by decide
theorem modS_mod (v : Nat) : modS v % pN = v % pN := by
  rw [pN_eq]; unfold modS; omega
theorem modS_low (v : Nat) (h : v < 1361129467683753853853498429727072845824) : modS v = v := by unfold modS; omega
def modI : Nat → Nat → Nat
  | 0, v => v
  | k + 1, v => modS (modI k v)
theorem modI_mod (k v : Nat) : modI k v % pN = v % pN := by
  induction k with
  | zero => rfl
  | succ k ih => rw [modI, modS_mod, ih]
theorem modI_lt (v : Nat) (h : v < 57896044618658097711785492504343953926634992332820282019728792003956564819968) (k : Nat) : modI (k + 2) v < 1361129467683753853853498429727072845824 := by
  induction k with
  | zero => simp only [modI, modS]; omega
  | succ k ih => rw [show k + 1 + 2 = (k + 2) + 1 by omega, modI, modS_low _ ih]; exact ih
theorem mod_end (v : Nat) (h : v < 57896044618658097711785492504343953926634992332820282019728792003956564819968) : (if modI 8 v < pN then modI 8 v else modI 8 v - pN) = v % pN := by
  have h1 := modI_lt v h 6
  have h2 := modI_mod 8 v
  rw [show 6 + 2 = 8 from rfl] at h1
  rw [pN_eq] at h2 ⊢
  split <;> omega

end Go.Proofs.YtjckdgapefaokaaDoor
