/- Numbers by their digits to the base 256, the lowest first; and what Poly1305 tells, as a function of lists. No program is spoken of here. No condition but those that each lemma names. -/
import Derived.KernelRfl
namespace Go.Proofs.YtjckdgapefaokaaDoor

/-- The number of digits, the lowest first. -/
def valN : List Nat → Nat
  | [] => 0
  | d :: r => d + 256 * valN r

theorem valN_append (a b : List Nat) : valN (a ++ b) = valN a + 256 ^ a.length * valN b := by
  induction a with
  | nil => simp [valN]
  | cons d r ih =>
    rw [List.cons_append, valN, ih, valN, List.length_cons, Nat.pow_succ]
    rw [Nat.mul_add, ← Nat.mul_assoc, Nat.mul_comm 256 (256 ^ r.length)]
    omega
theorem valN_snoc (a : List Nat) (d : Nat) : valN (a ++ [d]) = valN a + 256 ^ a.length * d := by
  rw [valN_append]; simp [valN]
theorem valN_lt (a : List Nat) (h : ∀ d ∈ a, d < 256) : valN a < 256 ^ a.length := by
  induction a with
  | nil => simp [valN]
  | cons d r ih =>
    have h1 := ih (fun x hx => h x (by simp [hx]))
    have h2 := h d (by simp)
    rw [valN, List.length_cons, Nat.pow_succ]
    omega
theorem getD_out (a : List Nat) (i : Nat) (h : ¬ i < a.length) : a.getD i 0 = 0 := by
  rw [List.getD, List.getElem?_eq_none (by omega)]; rfl
theorem take_getD (ds : List Nat) (i : Nat) : valN (ds.take (i + 1)) = valN (ds.take i) + 256 ^ i * ds.getD i 0 := by
  by_cases h : i < ds.length
  · rw [List.take_succ_eq_append_getElem h, valN_snoc, show (ds.take i).length = i by simp; omega, show ds.getD i 0 = ds[i] by simp [List.getD, h]]
  · rw [List.take_of_length_le (by omega), List.take_of_length_le (by omega), getD_out ds i h]
    simp
theorem valN_zeros (n : Nat) : valN (List.replicate n 0) = 0 := by
  induction n with
  | zero => rfl
  | succ n ih => rw [List.replicate_succ, valN, ih]

/-- One more digit is carried. -/
theorem carry_step (o ds : List Nat) (i c : Nat) (hl : o.length = i) (h : valN o + 256 ^ i * c = valN (ds.take i)) :
    valN (o ++ [(c + ds.getD i 0) % 256]) + 256 ^ (i + 1) * ((c + ds.getD i 0) / 256) = valN (ds.take (i + 1)) := by
  rw [valN_snoc, hl, take_getD, ← h, Nat.pow_succ, Nat.mul_assoc]
  have e : (c + ds.getD i 0) % 256 + 256 * ((c + ds.getD i 0) / 256) = c + ds.getD i 0 := Nat.mod_add_div _ _
  rw [Nat.add_assoc, ← Nat.mul_add, e, Nat.mul_add]
  omega

/-- Digits added one by one. -/
def addD (a b : List Nat) : List Nat := (List.range (max a.length b.length)).map fun i => a.getD i 0 + b.getD i 0
theorem addD_length (a b : List Nat) : (addD a b).length = max a.length b.length := by simp [addD]
theorem valN_getD (a : List Nat) (n : Nat) (h : a.length ≤ n) : valN a = valN ((List.range n).map fun i => a.getD i 0) := by
  have : (List.range n).map (fun i => a.getD i 0) = a ++ List.replicate (n - a.length) 0 := by
    apply List.ext_getElem
    · simp; omega
    · intro i h1 h2
      simp only [List.getElem_map, List.getElem_range]
      by_cases hi : i < a.length
      · rw [List.getElem_append_left hi]; simp [List.getD, hi]
      · rw [List.getElem_append_right (by omega), getD_out a i hi]; simp
  rw [this, valN_append, valN_zeros]
  simp
theorem valN_map_add (f g : Nat → Nat) (l : List Nat) : valN (l.map fun i => f i + g i) = valN (l.map f) + valN (l.map g) := by
  induction l with
  | nil => rfl
  | cons x r ih => simp only [List.map_cons, valN, ih]; omega
theorem addD_val (a b : List Nat) : valN (addD a b) = valN a + valN b := by
  rw [addD, valN_map_add, ← valN_getD a _ (by omega), ← valN_getD b _ (by omega)]

/-- The number of bytes, the lowest first. -/
def leN (l : List UInt8) : Nat := valN (l.map UInt8.toNat)
theorem leN_lt (l : List UInt8) : leN l < 256 ^ l.length := by
  have := valN_lt (l.map UInt8.toNat) (fun d hd => by
    obtain ⟨x, _, rfl⟩ := List.mem_map.1 hd
    exact x.toNat_lt)
  simpa [leN] using this

/-- 2 to the 130, but for 5. -/
def pN : Nat := 2 ^ 130 - 5
/-- The bits of r that are let be. -/
def clampB (i : Nat) (x : UInt8) : UInt8 := if i % 4 = 3 then x % 16 else if i % 4 = 0 ∧ 0 < i then x / 4 * 4 else x
def clampL (l : List UInt8) : List UInt8 := l.mapIdx clampB
theorem clampL_length (l : List UInt8) : (clampL l).length = l.length := by simp [clampL]
/-- What a is behind the first k blocks. -/
def polyA (r : Nat) (l : List UInt8) : Nat → Nat
  | 0 => 0
  | k + 1 => ((polyA r l k + (leN ((l.drop (16 * k)).take 16) + 256 ^ ((l.drop (16 * k)).take 16).length)) * r) % pN
/-- A number's lowest n bytes, the lowest first. -/
def leB (n v : Nat) : List UInt8 := (List.range n).map fun i => UInt8.ofNat (v / 256 ^ i)
theorem leB_length (n v : Nat) : (leB n v).length = n := by simp [leB]
/-- THE TAG. -/
def tagL (key l : List UInt8) : List UInt8 := leB 16 (polyA (leN (clampL (key.take 16))) l ((l.length + 15) / 16) + leN (key.drop 16))
theorem tagL_length (key l : List UInt8) : (tagL key l).length = 16 := leB_length _ _

end Go.Proofs.YtjckdgapefaokaaDoor

/- Numbers by their digits: held against one another, taken from one another, and what is left by 2 to the 130 but for 5. No program is spoken of here. No condition but those that each lemma names. -/
namespace Go.Proofs.YtjckdgapefaokaaDoor

/-- The number of the first i digits. -/
def preN (a : List Nat) (i : Nat) : Nat := valN ((List.range i).map fun j => a.getD j 0)
theorem preN_succ (a : List Nat) (i : Nat) : preN a (i + 1) = preN a i + 256 ^ i * a.getD i 0 := by
  unfold preN
  rw [List.range_succ, List.map_append, List.map_cons, List.map_nil, valN_snoc]
  simp
theorem preN_zero (a : List Nat) : preN a 0 = 0 := rfl
theorem getD_lt {a : List Nat} (h : ∀ d ∈ a, d < 256) (i : Nat) : a.getD i 0 < 256 := by
  by_cases hi : i < a.length
  · rw [show a.getD i 0 = a[i] by simp [List.getD, hi]]; exact h _ (List.getElem_mem hi)
  · rw [getD_out a i hi]; omega
theorem preN_lt {a : List Nat} (h : ∀ d ∈ a, d < 256) (i : Nat) : preN a i < 256 ^ i := by
  have := valN_lt ((List.range i).map fun j => a.getD j 0) (fun d hd => by
    obtain ⟨j, _, rfl⟩ := List.mem_map.1 hd
    exact getD_lt h j)
  rw [List.length_map, List.length_range] at this
  exact this
theorem preN_all (a : List Nat) (n : Nat) (h : a.length ≤ n) : preN a n = valN a := (valN_getD a n h).symm

theorem below_eq {a b : List Nat} {i : Nat} (h : a.getD i 0 = b.getD i 0) : (preN a (i + 1) < preN b (i + 1)) ↔ (preN a i < preN b i) := by
  rw [preN_succ, preN_succ, h]; omega
theorem below_lt {a b : List Nat} {i : Nat} (ha : ∀ d ∈ a, d < 256) (h : a.getD i 0 < b.getD i 0) : preN a (i + 1) < preN b (i + 1) := by
  rw [preN_succ, preN_succ]
  have h1 := preN_lt ha i
  have h2 : 256 ^ i * (a.getD i 0 + 1) ≤ 256 ^ i * b.getD i 0 := Nat.mul_le_mul_left _ h
  rw [Nat.mul_add] at h2
  omega
theorem below_gt {a b : List Nat} {i : Nat} (hb : ∀ d ∈ b, d < 256) (h : b.getD i 0 < a.getD i 0) : ¬ preN a (i + 1) < preN b (i + 1) := by
  have := below_lt (a := b) (b := a) hb h
  omega

/-- One more digit is taken off. -/
theorem less_step (o a b : List Nat) (i c d c' : Nat) (hl : o.length = i) (h : valN o + preN b i = preN a i + 256 ^ i * c) (hd : d + b.getD i 0 + c = a.getD i 0 + 256 * c') :
    valN (o ++ [d]) + preN b (i + 1) = preN a (i + 1) + 256 ^ (i + 1) * c' := by
  rw [valN_snoc, hl, preN_succ, preN_succ, Nat.pow_succ, Nat.mul_assoc]
  have e : 256 ^ i * (d + b.getD i 0 + c) = 256 ^ i * (a.getD i 0 + 256 * c') := by rw [hd]
  rw [Nat.mul_add, Nat.mul_add, Nat.mul_add] at e
  omega

/-- What is above 2 bits of each digit. -/
def shiftD : List Nat → List Nat
  | [] => []
  | d :: r => (d / 4 + r.getD 0 0 % 4 * 64) :: shiftD r
theorem head_mod (r : List Nat) : valN r % 4 = r.getD 0 0 % 4 := by
  cases r with
  | nil => rfl
  | cons d s => rw [valN]; simp [List.getD]; omega
theorem shiftD_val (l : List Nat) : valN (shiftD l) = valN l / 4 := by
  induction l with
  | nil => rfl
  | cons d r ih =>
    have h := head_mod r
    rw [shiftD, valN, ih, valN, ← h]
    omega
theorem shiftD_length (l : List Nat) : (shiftD l).length = l.length := by
  induction l with
  | nil => rfl
  | cons d r ih => simp [shiftD, ih]
theorem shiftD_lt (l : List Nat) (h : ∀ d ∈ l, d < 256) : ∀ d ∈ shiftD l, d < 256 := by
  induction l with
  | nil => intro d hd; cases hd
  | cons d r ih =>
    intro x hx
    rcases List.mem_cons.1 hx with rfl | hx
    · have h1 := h d (by simp)
      omega
    · exact ih (fun y hy => h y (by simp [hy])) x hx
theorem shiftD_get (l : List Nat) : ∀ i, (shiftD l).getD i 0 = l.getD i 0 / 4 + l.getD (i + 1) 0 % 4 * 64 := by
  induction l with
  | nil => intro i; simp [shiftD, List.getD]
  | cons d r ih =>
    intro i
    cases i with
    | zero => simp [shiftD, List.getD]
    | succ i => have := ih i; simpa [shiftD, List.getD] using this

/-- The lowest 130 bits. -/
def lowD (n : List Nat) : List Nat := if 16 < n.length then n.take 16 ++ [n.getD 16 0 % 4] else n
def highD (n : List Nat) : List Nat := shiftD (n.drop 16)
theorem lowD_lt (n : List Nat) (h : ∀ d ∈ n, d < 256) : ∀ d ∈ lowD n, d < 256 := by
  unfold lowD
  split
  · intro d hd
    rcases List.mem_append.1 hd with hd | hd
    · exact h d (List.mem_of_mem_take hd)
    · rw [List.mem_singleton] at hd; omega
  · exact h
theorem split130 (n : List Nat) (h : ∀ d ∈ n, d < 256) : valN (lowD n) = valN n % 1361129467683753853853498429727072845824 ∧ valN (highD n) = valN n / 1361129467683753853853498429727072845824 := by
  have p16 : (256 : Nat) ^ 16 = 340282366920938463463374607431768211456 := by decide
  by_cases hl : 16 < n.length
  · have e := List.take_append_drop 16 n
    have hv : valN n = valN (n.take 16) + 340282366920938463463374607431768211456 * valN (n.drop 16) := by
      conv => lhs; rw [← e]
      rw [valN_append, show (n.take 16).length = 16 by simp; omega, p16]
    have h1 := valN_lt (n.take 16) (fun d hd => h d (List.mem_of_mem_take hd))
    rw [show (n.take 16).length = 16 by simp; omega, p16] at h1
    have h2 := head_mod (n.drop 16)
    rw [show (n.drop 16).getD 0 0 = n.getD 16 0 by simp [List.getD]] at h2
    unfold lowD highD
    rw [if_pos hl, shiftD_val, valN_snoc, show (n.take 16).length = 16 by simp; omega, p16, ← h2, hv]
    constructor <;> omega
  · have h1 := valN_lt n h
    have h2 : 256 ^ n.length ≤ (256 : Nat) ^ 16 := Nat.pow_le_pow_right (by omega) (by omega)
    rw [p16] at h2
    unfold lowD highD
    rw [if_neg hl, List.drop_of_length_le (by omega)]
    simp only [shiftD, valN]
    constructor <;> omega
/-- What counts five times. -/
def modS (v : Nat) : Nat := v % 1361129467683753853853498429727072845824 + 5 * (v / 1361129467683753853853498429727072845824)
theorem pN_eq : pN = 1361129467683753853853498429727072845819 := by decide
theorem modS_mod (v : Nat) : modS v % pN = v % pN := by
  rw [pN_eq]; unfold modS; omega
theorem modS_low (v : Nat) (h : v < 1361129467683753853853498429727072845824) : modS v = v := by unfold modS; omega
def modI : Nat → Nat → Nat
  | 0, v => v
  | k + 1, v => modS (modI k v)
theorem modI_mod (k v : Nat) : modI k v % pN = v % pN := by
  induction k with
  | zero => rfl
  | succ k ih => rw [modI, modS_mod, ih]
theorem modI_lt (v : Nat) (h : v < 57896044618658097711785492504343953926634992332820282019728792003956564819968) (k : Nat) : modI (k + 2) v < 1361129467683753853853498429727072845824 := by
  induction k with
  | zero => simp only [modI, modS]; omega
  | succ k ih => rw [show k + 1 + 2 = (k + 2) + 1 by omega, modI, modS_low _ ih]; exact ih
theorem mod_end (v : Nat) (h : v < 57896044618658097711785492504343953926634992332820282019728792003956564819968) : (if modI 8 v < pN then modI 8 v else modI 8 v - pN) = v % pN := by
  have h1 := modI_lt v h 6
  have h2 := modI_mod 8 v
  rw [show 6 + 2 = 8 from rfl] at h1
  rw [pN_eq] at h2 ⊢
  split <;> omega

end Go.Proofs.YtjckdgapefaokaaDoor

/- Numbers by five limbs of 26 bits, the lowest first: what is carried on, folded, multiplied, made least, and laid in bytes. No program is spoken of here. No condition but those that each lemma names. -/
namespace Go.Proofs.YtjckdgapefaokaaDoor

/-- A row that is gone over place by place: what lies behind i is as it was. -/
def stepL {α : Type} (n i : Nat) (f g : Nat → α) : List α := (List.range n).map fun j => if j < i then f j else g j
theorem stepL_length {α : Type} (n i : Nat) (f g : Nat → α) : (stepL n i f g).length = n := by simp [stepL]
theorem stepL_at {α : Type} (n i : Nat) (f g : Nat → α) (k : Nat) (h : k < n) : (stepL n i f g)[k]? = some (if k < i then f k else g k) := by
  simp [stepL, h]
theorem stepL_set {α : Type} (n i : Nat) (f g : Nat → α) : (stepL n i f g).set i (f i) = stepL n (i + 1) f g := by
  apply List.ext_getElem
  · simp [stepL]
  · intro k h1 h2
    simp only [List.getElem_set, stepL, List.getElem_map, List.getElem_range]
    by_cases e : i = k
    · subst e; simp
    · rw [if_neg e]
      by_cases h : k < i
      · rw [if_pos h, if_pos (by omega)]
      · rw [if_neg h, if_neg (by omega)]
theorem stepL_all {α : Type} (n : Nat) (f g : Nat → α) : stepL n n f g = (List.range n).map f := by
  apply List.map_congr_left
  intro j hj
  rw [if_pos (List.mem_range.1 hj)]
theorem stepL_none {α : Type} (n : Nat) (f g : Nat → α) : stepL n 0 f g = (List.range n).map g := by
  apply List.map_congr_left
  intro j _
  rw [if_neg (by omega)]

theorem five (n : List Nat) (h : n.length = 5) : ∃ a b c d e, n = [a, b, c, d, e] := by
  match n, h with
  | [a, b, c, d, e], _ => exact ⟨a, b, c, d, e, rfl⟩
theorem range_getD (n : List Nat) (k : Nat) (h : n.length = k) : (List.range k).map (fun i => n.getD i 0) = n := by
  subst h
  apply List.ext_getElem
  · simp
  · intro i h1 h2
    simp [List.getD, h2]

/-- The number of limbs, the lowest first. -/
def v26 : List Nat → Nat
  | [] => 0
  | d :: r => d + 67108864 * v26 r
theorem v26_snoc (a : List Nat) (d : Nat) : v26 (a ++ [d]) = v26 a + 67108864 ^ a.length * d := by
  induction a with
  | nil => simp [v26]
  | cons x r ih => rw [List.cons_append, v26, ih, v26, List.length_cons, Nat.pow_succ, Nat.mul_add, ← Nat.mul_assoc, Nat.mul_comm 67108864 (67108864 ^ r.length)]; omega
theorem v26_take (ds : List Nat) (i : Nat) (h : i < ds.length) : v26 (ds.take (i + 1)) = v26 (ds.take i) + 67108864 ^ i * ds.getD i 0 := by
  rw [List.take_succ_eq_append_getElem h, v26_snoc, show (ds.take i).length = i by simp; omega, show ds.getD i 0 = ds[i] by simp [List.getD, h]]
theorem v26_add (n : List Nat) (k d : Nat) (h : k < n.length) : v26 (n.set k (n.getD k 0 + d)) = v26 n + 67108864 ^ k * d := by
  induction n generalizing k with
  | nil => simp at h
  | cons x r ih =>
    cases k with
    | zero => simp [v26]; omega
    | succ k =>
      have := ih k (by simpa using h)
      simp only [List.set_cons_succ, v26, List.getD_cons_succ]
      rw [this, Nat.mul_add, Nat.pow_succ, ← Nat.mul_assoc, Nat.mul_comm 67108864 (67108864 ^ k)]
      omega
theorem set_getD (n : List Nat) (k j d : Nat) (h : k < n.length) : (n.set k d).getD j 0 = if j = k then d else n.getD j 0 := by
  simp only [List.getD, List.getElem?_set]
  by_cases e : k = j
  · subst e; simp [h]
  · rw [if_neg e, if_neg (fun x => e x.symm)]

/-- What goes over into limb i. -/
def ovr (n : List Nat) : Nat → Nat
  | 0 => 0
  | i + 1 => (n.getD i 0 + ovr n i) / 67108864
def cutD (n : List Nat) (i : Nat) : Nat := (n.getD i 0 + ovr n i) % 67108864
/-- Carried on. -/
def cutL (n : List Nat) : List Nat := (List.range 5).map (cutD n)
theorem cutL_length (n : List Nat) : (cutL n).length = 5 := by simp [cutL]
theorem cutL_getD (n : List Nat) (k : Nat) : (cutL n).getD k 0 < 67108864 := by
  by_cases h : k < 5
  · simp only [List.getD, cutL, List.getElem?_map, List.getElem?_range h, Option.map_some, Option.getD_some]
    exact Nat.mod_lt _ (by omega)
  · rw [getD_out _ _ (by simp [cutL]; omega)]; omega
theorem ovr_lt (n : List Nat) (h : ∀ k, n.getD k 0 < 2 ^ 62) (i : Nat) : ovr n i < 2 ^ 37 := by
  induction i with
  | zero => simp [ovr]
  | succ i ih => have := h i; rw [ovr]; omega

/-- Five limbs of 26 bits; and such with some more in the lowest, as a product has. -/
def Lim (n : List Nat) : Prop := n.length = 5 ∧ ∀ k, n.getD k 0 < 67108864
def Lin5 (n : List Nat) : Prop := n.length = 5 ∧ n.getD 0 0 < 67108869 ∧ ∀ k, 0 < k → n.getD k 0 < 67108864
theorem cutL_lim (n : List Nat) : Lim (cutL n) := ⟨cutL_length n, cutL_getD n⟩

/-- 2 to the 130. -/
def t130 : Nat := 1361129467683753853853498429727072845824
theorem t130_eq : t130 = 67108864 ^ 5 := by decide
theorem t130_pN : t130 = pN + 5 := by decide
theorem cut_val (n : List Nat) (h : n.length = 5) : v26 (cutL n) + t130 * ovr n 5 = v26 n := by
  obtain ⟨a, b, c, d, e, rfl⟩ := five n h
  simp only [cutL, List.range, List.range.loop, List.map_cons, List.map_nil, v26, cutD, ovr, List.getD_cons_zero, List.getD_cons_succ, t130]
  omega
theorem v26_lim (n : List Nat) (h : Lim n) : v26 n < t130 := by
  obtain ⟨a, b, c, d, e, rfl⟩ := five n h.1
  have h0 := h.2 0
  have h1 := h.2 1
  have h2 := h.2 2
  have h3 := h.2 3
  have h4 := h.2 4
  simp only [v26, List.getD_cons_zero, List.getD_cons_succ, t130] at *
  omega
theorem cut_val_mod (n : List Nat) (h : n.length = 5) : v26 (cutL n) = v26 n % t130 := by
  have := cut_val n h
  have h1 := v26_lim _ (cutL_lim n)
  rw [← this, Nat.add_mul_mod_self_left, Nat.mod_eq_of_lt h1]
theorem ovr_div (n : List Nat) (h : n.length = 5) : ovr n 5 = v26 n / t130 := by
  have := cut_val n h
  have h1 := v26_lim _ (cutL_lim n)
  rw [← this, Nat.add_mul_div_left _ _ (by decide), Nat.div_eq_of_lt h1]; omega

/-- What goes over is laid in again from below. -/
def foldL (n : List Nat) : List Nat := (cutL n).set 0 ((cutL n).getD 0 0 + 5 * ovr n 5)
theorem foldL_length (n : List Nat) : (foldL n).length = 5 := by simp [foldL, cutL]
theorem fold_mod (n : List Nat) (h : n.length = 5) : v26 (foldL n) % pN = v26 n % pN := by
  rw [foldL, v26_add _ _ _ (by rw [cutL_length]; omega), ← cut_val n h, t130_pN, Nat.add_mul, ← Nat.add_assoc, Nat.add_right_comm, Nat.pow_zero, Nat.one_mul, Nat.add_mul_mod_self_left]
theorem fold_first (n : List Nat) (hb : ∀ k, n.getD k 0 < 2 ^ 62) : (foldL n).getD 0 0 < 2 ^ 40 ∧ ∀ k, 0 < k → (foldL n).getD k 0 < 67108864 := by
  have h1 := ovr_lt n hb 5
  have h2 := cutL_getD n
  constructor
  · rw [foldL, set_getD _ _ _ _ (by rw [cutL_length]; omega), if_pos rfl]
    have := h2 0
    omega
  · intro k hk
    rw [foldL, set_getD _ _ _ _ (by rw [cutL_length]; omega), if_neg (by omega)]
    exact h2 k
theorem fold_again (n : List Nat) (h : n.length = 5) (h0 : n.getD 0 0 < 2 ^ 40) (hk : ∀ k, 0 < k → n.getD k 0 < 67108864) : Lin5 (foldL n) := by
  have h2 := cutL_getD n
  have h3 : ovr n 5 ≤ 1 ∧ (ovr n 5 = 1 → (cutL n).getD 0 0 + 5 < 67108869) := by
    obtain ⟨a, b, c, d, e, rfl⟩ := five n h
    have k1 := hk 1
    have k2 := hk 2
    have k3 := hk 3
    have k4 := hk 4
    have k5 := h2 0
    refine ⟨?_, fun _ => by omega⟩
    simp only [ovr, List.getD_cons_zero, List.getD_cons_succ] at *
    omega
  refine ⟨foldL_length n, ?_, ?_⟩
  · rw [foldL, set_getD _ _ _ _ (by rw [cutL_length]; omega), if_pos rfl]
    have := h2 0
    omega
  · intro k hk
    rw [foldL, set_getD _ _ _ _ (by rw [cutL_length]; omega), if_neg (by omega)]
    exact h2 k

/-- A product is gathered: one more of the second's limbs. -/
theorem times_step (n b : List Nat) (X i j x : Nat) (hn : n.length = 5) (hb : b.length = 5) (hi : i < 5) (hj : j < 5)
    (h : v26 n % pN = (X + 67108864 ^ i * x * v26 (b.take j)) % pN) :
    v26 (n.set ((i + j) % 5) (n.getD ((i + j) % 5) 0 + (if i + j < 5 then x * b.getD j 0 else 5 * x * b.getD j 0))) % pN = (X + 67108864 ^ i * x * v26 (b.take (j + 1))) % pN := by
  obtain ⟨y, hy⟩ : ∃ y, y = b.getD j 0 := ⟨_, rfl⟩
  rw [v26_add _ _ _ (by omega), v26_take b j (by omega), ← hy, Nat.mul_add, ← Nat.add_assoc]
  have key : (67108864 ^ ((i + j) % 5) * (if i + j < 5 then x * y else 5 * x * y)) % pN = (67108864 ^ i * x * (67108864 ^ j * y)) % pN := by
    have e1 : 67108864 ^ i * x * (67108864 ^ j * y) = 67108864 ^ (i + j) * (x * y) := by
      rw [Nat.pow_add]
      rw [Nat.mul_assoc, Nat.mul_assoc, Nat.mul_left_comm x]
    rw [e1]
    by_cases hij : i + j < 5
    · rw [if_pos hij, Nat.mod_eq_of_lt hij]
    · rw [if_neg hij]
      obtain ⟨k, hk⟩ : ∃ k, i + j = k + 5 := ⟨i + j - 5, by omega⟩
      rw [hk, show (k + 5) % 5 = k by omega, Nat.pow_add, ← t130_eq, t130_pN, Nat.mul_assoc (67108864 ^ k), Nat.add_mul, Nat.mul_add, Nat.mul_left_comm (67108864 ^ k) pN, Nat.mul_add_mod, Nat.mul_assoc 5 x y]
  rw [Nat.add_mod, h, key, ← Nat.add_mod]

/-- Made least, of a number below twice 2 to the 130, but for 10. -/
def leastL (n : List Nat) : List Nat := cutL (n.set 0 (n.getD 0 0 + 5 * ovr (n.set 0 (n.getD 0 0 + 5)) 5))
theorem least_val (n : List Nat) (h : Lin5 n) : v26 (leastL n) = v26 n % pN := by
  have hv : v26 n < t130 + 5 := by
    obtain ⟨a, b, c, d, e, rfl⟩ := five n h.1
    have h0 := h.2.1
    have h1 := h.2.2 1
    have h2 := h.2.2 2
    have h3 := h.2.2 3
    have h4 := h.2.2 4
    simp only [v26, List.getD_cons_zero, List.getD_cons_succ, t130] at *
    omega
  have ho : ovr (n.set 0 (n.getD 0 0 + 5)) 5 = (v26 n + 5) / t130 := by
    rw [ovr_div _ (by simp [h.1]), v26_add _ _ _ (by rw [h.1]; omega), Nat.pow_zero, Nat.one_mul]
  rw [leastL, ho, cut_val_mod _ (by simp [h.1]), v26_add _ _ _ (by rw [h.1]; omega), Nat.pow_zero, Nat.one_mul]
  generalize v26 n = v at *
  have e1 : t130 = 1361129467683753853853498429727072845824 := rfl
  have e2 : pN = 1361129467683753853853498429727072845819 := rfl
  rw [e1] at hv ⊢
  rw [e2]
  rcases Nat.lt_or_ge v 1361129467683753853853498429727072845819 with h1 | h1
  · rw [show (v + 5) / 1361129467683753853853498429727072845824 = 0 by omega]
    omega
  · rw [show (v + 5) / 1361129467683753853853498429727072845824 = 1 by omega]
    omega

/-- A byte of a number whose limbs are carried on. -/
def lowX (n : List Nat) (i : Nat) : Nat := if 18 < i * 8 % 26 then n.getD (i * 8 / 26) 0 / 2 ^ (i * 8 % 26) + n.getD (i * 8 / 26 + 1) 0 * 2 ^ (26 - i * 8 % 26) else n.getD (i * 8 / 26) 0 / 2 ^ (i * 8 % 26)
set_option maxHeartbeats 4000000 in
theorem low_byte (n : List Nat) (h : Lim n) (i : Nat) (hi : i < 16) : lowX n i % 256 = v26 n / 256 ^ i % 256 := by
  obtain ⟨a, b, c, d, e, rfl⟩ := five n h.1
  have h0 := h.2 0
  have h1 := h.2 1
  have h2 := h.2 2
  have h3 := h.2 3
  have h4 := h.2 4
  simp only [List.getD_cons_zero, List.getD_cons_succ] at h0 h1 h2 h3 h4
  clear h
  simp only [v26]
  match i, hi with
  | 0, _ => simp [lowX]; omega
  | 1, _ => simp [lowX]; omega
  | 2, _ => simp [lowX]; omega
  | 3, _ => simp [lowX]; omega
  | 4, _ => simp [lowX]; omega
  | 5, _ => simp [lowX]; omega
  | 6, _ => simp [lowX]; omega
  | 7, _ => simp [lowX]; omega
  | 8, _ => simp [lowX]; omega
  | 9, _ => simp [lowX]; omega
  | 10, _ => simp [lowX]; omega
  | 11, _ => simp [lowX]; omega
  | 12, _ => simp [lowX]; omega
  | 13, _ => simp [lowX]; omega
  | 14, _ => simp [lowX]; omega
  | 15, _ => simp [lowX]; omega
  | i + 16, hi => omega

/-- A byte more is laid in. -/
theorem number_step (n : List Nat) (i x : Nat) (hn : n.length = 5) (hi : i < 16 ∨ i = 16) :
    v26 (n.set (i * 8 / 26) (n.getD (i * 8 / 26) 0 + x * 2 ^ (i * 8 % 26))) = v26 n + 256 ^ i * x := by
  rw [v26_add _ _ _ (by omega)]
  congr 1
  rw [Nat.mul_left_comm, Nat.mul_comm (256 ^ i), show (67108864 : Nat) = 2 ^ 26 from rfl, show (256 : Nat) = 2 ^ 8 from rfl, ← Nat.pow_mul, ← Nat.pow_mul, ← Nat.pow_add]
  congr 2
  omega

end Go.Proofs.YtjckdgapefaokaaDoor
