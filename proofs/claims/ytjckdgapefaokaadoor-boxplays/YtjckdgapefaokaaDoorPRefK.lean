/- Numbers by their digits: held against one another, taken from one another, and what is left by 2 to the 130 but for 5. No program is spoken of here. No condition but those that each lemma names. -/
import Derived.Test.YtjckdgapefaokaaDoorPMath
import Derived.Test.YtjckdgapefaokaaDoorKEqual
namespace Go.Proofs.YtjckdgapefaokaaDoor

/-- The number of the first i digits. -/
def preN (a : List Nat) (i : Nat) : Nat := valN ((List.range i).map fun j => a.getD j 0)
theorem preN_succ (a : List Nat) (i : Nat) : preN a (i + 1) = preN a i + 256 ^ i * a.getD i 0 := by
  unfold preN
  rw [List.range_succ, List.map_append, List.map_cons, List.map_nil, valN_snoc]
  simp
theorem preN_zero (a : List Nat) : preN a 0 = 0 := rfl
theorem getD_lt {a : List Nat} (h : ∀ d ∈ a, d < 256) (i : Nat) : a.getD i 0 < 256 := by
  by_cases hi : i < a.length
  · rw [show a.getD i 0 = a[i] by simp [List.getD, hi]]; exact h _ (List.getElem_mem hi)
  · rw [getD_out a i hi]; omega
theorem preN_lt {a : List Nat} (h : ∀ d ∈ a, d < 256) (i : Nat) : preN a i < 256 ^ i := by
  have := valN_lt ((List.range i).map fun j => a.getD j 0) (fun d hd => by
    obtain ⟨j, _, rfl⟩ := List.mem_map.1 hd
    exact getD_lt h j)
  rw [List.length_map, List.length_range] at this
  exact this
theorem preN_all (a : List Nat) (n : Nat) (h : a.length ≤ n) : preN a n = valN a := (valN_getD a n h).symm

theorem below_eq {a b : List Nat} {i : Nat} (h : a.getD i 0 = b.getD i 0) : (preN a (i + 1) < preN b (i + 1)) ↔ (preN a i < preN b i) := by
  rw [preN_succ, preN_succ, h]; omega
theorem below_lt {a b : List Nat} {i : Nat} (ha : ∀ d ∈ a, d < 256) (h : a.getD i 0 < b.getD i 0) : preN a (i + 1) < preN b (i + 1) := by
  rw [preN_succ, preN_succ]
  have h1 := preN_lt ha i
  have h2 : 256 ^ i * (a.getD i 0 + 1) ≤ 256 ^ i * b.getD i 0 := Nat.mul_le_mul_left _ h
  rw [Nat.mul_add] at h2
  omega
theorem below_gt {a b : List Nat} {i : Nat} (hb : ∀ d ∈ b, d < 256) (h : b.getD i 0 < a.getD i 0) : ¬ preN a (i + 1) < preN b (i + 1) := by
  have := below_lt (a := b) (b := a) hb h
  omega

/-- One more digit is taken off. -/
theorem less_step (o a b : List Nat) (i c d c' : Nat) (hl : o.length = i) (h : valN o + preN b i = preN a i + 256 ^ i * c) (hd : d + b.getD i 0 + c = a.getD i 0 + 256 * c') :
    valN (o ++ [d]) + preN b (i + 1) = preN a (i + 1) + 256 ^ (i + 1) * c' := by
  rw [valN_snoc, hl, preN_succ, preN_succ, Nat.pow_succ, Nat.mul_assoc]
  have e : 256 ^ i * (d + b.getD i 0 + c) = 256 ^ i * (a.getD i 0 + 256 * c') := by rw [hd]
  rw [Nat.mul_add, Nat.mul_add, Nat.mul_add] at e
  omega

/-- What is above 2 bits of each digit. -/
def shiftD : List Nat → List Nat
  | [] => []
  | d :: r => (d / 4 + r.getD 0 0 % 4 * 64) :: shiftD r
theorem head_mod (r : List Nat) : valN r % 4 = r.getD 0 0 % 4 := by
  cases r with
  | nil => rfl
  | cons d s => rw [valN]; simp [List.getD]; omega
theorem shiftD_val (l : List Nat) : valN (shiftD l) = valN l / 4 := by
  induction l with
  | nil => rfl
  | cons d r ih =>
    have h := head_mod r
    rw [shiftD, valN, ih, valN, ← h]
    omega
theorem shiftD_length (l : List Nat) : (shiftD l).length = l.length := by
  induction l with
  | nil => rfl
  | cons d r ih => simp [shiftD, ih]
theorem shiftD_lt (l : List Nat) (h : ∀ d ∈ l, d < 256) : ∀ d ∈ shiftD l, d < 256 := by
  induction l with
  | nil => intro d hd; cases hd
  | cons d r ih =>
    intro x hx
    rcases List.mem_cons.1 hx with rfl | hx
    · have h1 := h d (by simp)
      omega
    · exact ih (fun y hy => h y (by simp [hy])) x hx
theorem shiftD_get (l : List Nat) : ∀ i, (shiftD l).getD i 0 = l.getD i 0 / 4 + l.getD (i + 1) 0 % 4 * 64 := by
  induction l with
  | nil => intro i; simp [shiftD, List.getD]
  | cons d r ih =>
    intro i
    cases i with
    | zero => simp [shiftD, List.getD]
    | succ i => have := ih i; simpa [shiftD, List.getD] using this

/-- The lowest 130 bits. -/
def lowD (n : List Nat) : List Nat := if 16 < n.length then n.take 16 ++ [n.getD 16 0 % 4] else n
def highD (n : List Nat) : List Nat := shiftD (n.drop 16)
theorem lowD_lt (n : List Nat) (h : ∀ d ∈ n, d < 256) : ∀ d ∈ lowD n, d < 256 := by
  unfold lowD
  split
  · intro d hd
    rcases List.mem_append.1 hd with hd | hd
    · exact h d (List.mem_of_mem_take hd)
    · rw [List.mem_singleton] at hd; omega
  · exact h
theorem split130 (n : List Nat) (h : ∀ d ∈ n, d < 256) : valN (lowD n) = valN n % 1361129467683753853853498429727072845824 ∧ valN (highD n) = valN n / 1361129467683753853853498429727072845824 := by
  have p16 : (256 : Nat) ^ 16 = 340282366920938463463374607431768211456 := by decide
  by_cases hl : 16 < n.length
  · have e := List.take_append_drop 16 n
    have hv : valN n = valN (n.take 16) + 340282366920938463463374607431768211456 * valN (n.drop 16) := by
      conv => lhs; rw [← e]
      rw [valN_append, show (n.take 16).length = 16 by simp; omega, p16]
    have h1 := valN_lt (n.take 16) (fun d hd => h d (List.mem_of_mem_take hd))
    rw [show (n.take 16).length = 16 by simp; omega, p16] at h1
    have h2 := head_mod (n.drop 16)
    rw [show (n.drop 16).getD 0 0 = n.getD 16 0 by simp [List.getD]] at h2
    unfold lowD highD
    rw [if_pos hl, shiftD_val, valN_snoc, show (n.take 16).length = 16 by simp; omega, p16, ← h2, hv]
    constructor <;> omega
  · have h1 := valN_lt n h
    have h2 : 256 ^ n.length ≤ (256 : Nat) ^ 16 := Nat.pow_le_pow_right (by omega) (by omega)
    rw [p16] at h2
    unfold lowD highD
    rw [if_neg hl, List.drop_of_length_le (by omega)]
    simp only [shiftD, valN]
    constructor <;> omega
/-- What counts five times. -/
def modS (v : Nat) : Nat := v % 1361129467683753853853498429727072845824 + 5 * (v / 1361129467683753853853498429727072845824)
theorem pN_eq : pN = 1361129467683753853853498429727072845819 := by decide
theorem modS_mod (v : Nat) : modS v % pN = v % pN := by
  rw [pN_eq]; unfold modS; omega
theorem modS_low (v : Nat) (h : v < 1361129467683753853853498429727072845824) : modS v = v := by unfold modS; omega
def modI : Nat → Nat → Nat
  | 0, v => v
  | k + 1, v => modS (modI k v)
theorem modI_mod (k v : Nat) : modI k v % pN = v % pN := by
  induction k with
  | zero => rfl
  | succ k ih => rw [modI, modS_mod, ih]
theorem modI_lt (v : Nat) (h : v < 57896044618658097711785492504343953926634992332820282019728792003956564819968) (k : Nat) : modI (k + 2) v < 1361129467683753853853498429727072845824 := by
  induction k with
  | zero => simp only [modI, modS]; omega
  | succ k ih => rw [show k + 1 + 2 = (k + 2) + 1 by omega, modI, modS_low _ ih]; exact ih
theorem mod_end (v : Nat) (h : v < 57896044618658097711785492504343953926634992332820282019728792003956564819968) : (if modI 8 v < pN then modI 8 v else modI 8 v - pN) = v % pN := by
  have h1 := modI_lt v h 6
  have h2 := modI_mod 8 v
  rw [show 6 + 2 = 8 from rfl] at h1
  rw [pN_eq] at h2 ⊢
  split <;> omega

end Go.Proofs.YtjckdgapefaokaaDoor

/- What is sealed, its tag, and what is opened, as functions of lists. No program is spoken of here. No condition but those that each lemma names. -/
namespace Go.Proofs.YtjckdgapefaokaaDoor

/-- As few zeros as make a multiple of 16. -/
def zer16 (n : Nat) : List UInt8 := List.replicate ((16 - n % 16) % 16) 0
theorem zer16_length (n : Nat) : (zer16 n).length = (16 - n % 16) % 16 := by simp [zer16]
theorem zer16_mod (n : Nat) : (n + (zer16 n).length) % 16 = 0 := by rw [zer16_length]; omega
/-- What the tag is told of. -/
def macT (be x : List UInt8) : List UInt8 := ((((be ++ zer16 be.length) ++ x) ++ zer16 x.length) ++ leB 8 be.length) ++ leB 8 x.length
theorem macT_length (be x : List UInt8) : (macT be x).length ≤ be.length + x.length + 46 := by
  simp only [macT, List.length_append, zer16_length, leB_length]; omega
/-- THE TAG of a sealed text. -/
def tagA (k n be x : List UInt8) : List UInt8 := tagL ((blockL k n 0).take 32) (macT be x)
theorem tagA_length (k n be x : List UInt8) : (tagA k n be x).length = 16 := tagL_length _ _
/-- WHAT IS SEALED. -/
def sealL (k n be t : List UInt8) : List UInt8 := streamL k n 1 t ++ tagA k n be (streamL k n 1 t)
theorem sealL_length (k n be t : List UInt8) : (sealL k n be t).length = t.length + 16 := by simp [sealL, tagA_length, streamL_length]
/-- Is it opened? -/
def openB (k n be y : List UInt8) : Bool := decide (16 ≤ y.length) && (tagA k n be (y.take (y.length - 16)) == y.drop (y.length - 16))
/-- WHAT IS OPENED. -/
def openL (k n be y : List UInt8) : List UInt8 := if openB k n be y then streamL k n 1 (y.take (y.length - 16)) else []

theorem sealL_take (k n be t : List UInt8) : (sealL k n be t).take t.length = streamL k n 1 t := by
  rw [sealL, List.take_append_of_le_length (by rw [streamL_length]; omega), List.take_of_length_le (by rw [streamL_length]; omega)]
theorem sealL_drop (k n be t : List UInt8) : (sealL k n be t).drop t.length = tagA k n be (streamL k n 1 t) := by
  rw [sealL, List.drop_append_of_le_length (by rw [streamL_length]; omega), List.drop_of_length_le (by rw [streamL_length]; omega), List.nil_append]
theorem open_seal (k n be t : List UInt8) : openB k n be (sealL k n be t) = true := by
  rw [openB, sealL_length, show t.length + 16 - 16 = t.length by omega, sealL_take, sealL_drop]
  simp
theorem open_text (k n be t : List UInt8) : openL k n be (sealL k n be t) = t := by
  rw [openL, if_pos (open_seal k n be t), sealL_length, show t.length + 16 - 16 = t.length by omega, sealL_take, streamL_twice]
/-- With another byte in the tag it is not opened. -/
theorem open_turned (k n be t : List UInt8) (i : Nat) (x : UInt8) (h1 : t.length ≤ i) (h2 : i < t.length + 16) (hx : x ≠ (sealL k n be t).getD i 0) : openB k n be ((sealL k n be t).set i x) = false := by
  rw [openB, List.length_set, sealL_length, show t.length + 16 - 16 = t.length by omega, List.take_set_of_le h1, sealL_take]
  have hne : tagA k n be (streamL k n 1 t) ≠ ((sealL k n be t).set i x).drop t.length := by
    intro e
    have e2 := congrArg (fun l => l.getD (i - t.length) 0) e
    rw [← sealL_drop] at e2
    simp only [List.getD, List.getElem?_drop, show t.length + (i - t.length) = i by omega] at e2
    rw [List.getElem?_set_self (by rw [sealL_length]; exact h2)] at e2
    exact hx e2.symm
  rw [beq_eq_false_iff_ne.2 hne, Bool.and_false]
theorem open_short (k n be y : List UInt8) (h : y.length < 16) : openB k n be y = false := by
  rw [openB, decide_eq_false (by omega)]; rfl
theorem openL_no {k n be y : List UInt8} (h : openB k n be y = false) : openL k n be y = [] := by rw [openL, h]; rfl
/-- The first bytes do not hang on what follows, nor on what is beside. -/
theorem seal_begins (k n be be2 t : List UInt8) (m : Nat) (h : m ≤ t.length) : (sealL k n be t).take m = (sealL k n be2 (t.take m)).take m := by
  have h1 : (t.take m).length = m := by rw [List.length_take]; omega
  have h2 := sealL_take k n be2 (t.take m)
  rw [h1] at h2
  rw [h2, streamL_take, ← sealL_take k n be t, List.take_take, show min m t.length = m by omega]

end Go.Proofs.YtjckdgapefaokaaDoor

/- Numbers by five limbs of 26 bits, the lowest first: what is carried on, folded, multiplied, made least, and laid in bytes. No program is spoken of here. No condition but those that each lemma names. -/
namespace Go.Proofs.YtjckdgapefaokaaDoor

/-- A row that is gone over place by place: what lies behind i is as it was. -/
def stepL {α : Type} (n i : Nat) (f g : Nat → α) : List α := (List.range n).map fun j => if j < i then f j else g j
theorem stepL_length {α : Type} (n i : Nat) (f g : Nat → α) : (stepL n i f g).length = n := by simp [stepL]
theorem stepL_at {α : Type} (n i : Nat) (f g : Nat → α) (k : Nat) (h : k < n) : (stepL n i f g)[k]? = some (if k < i then f k else g k) := by
  simp [stepL, h]
theorem stepL_set {α : Type} (n i : Nat) (f g : Nat → α) : (stepL n i f g).set i (f i) = stepL n (i + 1) f g := by
  apply List.ext_getElem
  · simp [stepL]
  · intro k h1 h2
    simp only [List.getElem_set, stepL, List.getElem_map, List.getElem_range]
    by_cases e : i = k
    · subst e; simp
    · rw [if_neg e]
      by_cases h : k < i
      · rw [if_pos h, if_pos (by omega)]
      · rw [if_neg h, if_neg (by omega)]
theorem stepL_all {α : Type} (n : Nat) (f g : Nat → α) : stepL n n f g = (List.range n).map f := by
  apply List.map_congr_left
  intro j hj
  rw [if_pos (List.mem_range.1 hj)]
theorem stepL_none {α : Type} (n : Nat) (f g : Nat → α) : stepL n 0 f g = (List.range n).map g := by
  apply List.map_congr_left
  intro j _
  rw [if_neg (by omega)]

theorem five (n : List Nat) (h : n.length = 5) : ∃ a b c d e, n = [a, b, c, d, e] := by
  match n, h with
  | [a, b, c, d, e], _ => exact ⟨a, b, c, d, e, rfl⟩
theorem range_getD (n : List Nat) (k : Nat) (h : n.length = k) : (List.range k).map (fun i => n.getD i 0) = n := by
  subst h
  apply List.ext_getElem
  · simp
  · intro i h1 h2
    simp [List.getD, h2]

/-- The number of limbs, the lowest first. -/
def v26 : List Nat → Nat
  | [] => 0
  | d :: r => d + 67108864 * v26 r
theorem v26_snoc (a : List Nat) (d : Nat) : v26 (a ++ [d]) = v26 a + 67108864 ^ a.length * d := by
  induction a with
  | nil => simp [v26]
  | cons x r ih => rw [List.cons_append, v26, ih, v26, List.length_cons, Nat.pow_succ, Nat.mul_add, ← Nat.mul_assoc, Nat.mul_comm 67108864 (67108864 ^ r.length)]; omega
theorem v26_take (ds : List Nat) (i : Nat) (h : i < ds.length) : v26 (ds.take (i + 1)) = v26 (ds.take i) + 67108864 ^ i * ds.getD i 0 := by
  rw [List.take_succ_eq_append_getElem h, v26_snoc, show (ds.take i).length = i by simp; omega, show ds.getD i 0 = ds[i] by simp [List.getD, h]]
theorem v26_add (n : List Nat) (k d : Nat) (h : k < n.length) : v26 (n.set k (n.getD k 0 + d)) = v26 n + 67108864 ^ k * d := by
  induction n generalizing k with
  | nil => simp at h
  | cons x r ih =>
    cases k with
    | zero => simp [v26]; omega
    | succ k =>
      have := ih k (by simpa using h)
      simp only [List.set_cons_succ, v26, List.getD_cons_succ]
      rw [this, Nat.mul_add, Nat.pow_succ, ← Nat.mul_assoc, Nat.mul_comm 67108864 (67108864 ^ k)]
      omega
theorem set_getD (n : List Nat) (k j d : Nat) (h : k < n.length) : (n.set k d).getD j 0 = if j = k then d else n.getD j 0 := by
  simp only [List.getD, List.getElem?_set]
  by_cases e : k = j
  · subst e; simp [h]
  · rw [if_neg e, if_neg (fun x => e x.symm)]

/-- What goes over into limb i. -/
def ovr (n : List Nat) : Nat → Nat
  | 0 => 0
  | i + 1 => (n.getD i 0 + ovr n i) / 67108864
def cutD (n : List Nat) (i : Nat) : Nat := (n.getD i 0 + ovr n i) % 67108864
/-- Carried on. -/
def cutL (n : List Nat) : List Nat := (List.range 5).map (cutD n)
theorem cutL_length (n : List Nat) : (cutL n).length = 5 := by simp [cutL]
theorem cutL_getD (n : List Nat) (k : Nat) : (cutL n).getD k 0 < 67108864 := by
  by_cases h : k < 5
  · simp only [List.getD, cutL, List.getElem?_map, List.getElem?_range h, Option.map_some, Option.getD_some]
    exact Nat.mod_lt _ (by omega)
  · rw [getD_out _ _ (by simp [cutL]; omega)]; omega
theorem ovr_lt (n : List Nat) (h : ∀ k, n.getD k 0 < 2 ^ 62) (i : Nat) : ovr n i < 2 ^ 37 := by
  induction i with
  | zero => simp [ovr]
  | succ i ih => have := h i; rw [ovr]; omega

/-- Five limbs of 26 bits; and such with some more in the lowest, as a product has. -/
def Lim (n : List Nat) : Prop := n.length = 5 ∧ ∀ k, n.getD k 0 < 67108864
def Lin5 (n : List Nat) : Prop := n.length = 5 ∧ n.getD 0 0 < 67108869 ∧ ∀ k, 0 < k → n.getD k 0 < 67108864
theorem cutL_lim (n : List Nat) : Lim (cutL n) := ⟨cutL_length n, cutL_getD n⟩

/-- 2 to the 130. -/
def t130 : Nat := 1361129467683753853853498429727072845824
theorem t130_eq : t130 = 67108864 ^ 5 := by decide
theorem t130_pN : t130 = pN + 5 := by decide
theorem cut_val (n : List Nat) (h : n.length = 5) : v26 (cutL n) + t130 * ovr n 5 = v26 n := by
  obtain ⟨a, b, c, d, e, rfl⟩ := five n h
  simp only [cutL, List.range, List.range.loop, List.map_cons, List.map_nil, v26, cutD, ovr, List.getD_cons_zero, List.getD_cons_succ, t130]
  omega
theorem v26_lim (n : List Nat) (h : Lim n) : v26 n < t130 := by
  obtain ⟨a, b, c, d, e, rfl⟩ := five n h.1
  have h0 := h.2 0
  have h1 := h.2 1
  have h2 := h.2 2
  have h3 := h.2 3
  have h4 := h.2 4
  simp only [v26, List.getD_cons_zero, List.getD_cons_succ, t130] at *
  omega
theorem cut_val_mod (n : List Nat) (h : n.length = 5) : v26 (cutL n) = v26 n % t130 := by
  have := cut_val n h
  have h1 := v26_lim _ (cutL_lim n)
  rw [← this, Nat.add_mul_mod_self_left, Nat.mod_eq_of_lt h1]
theorem ovr_div (n : List Nat) (h : n.length = 5) : ovr n 5 = v26 n / t130 := by
  have := cut_val n h
  have h1 := v26_lim _ (cutL_lim n)
  rw [← this, Nat.add_mul_div_left _ _ (by decide), Nat.div_eq_of_lt h1]; omega

/-- What goes over is laid in again from below. -/
def foldL (n : List Nat) : List Nat := (cutL n).set 0 ((cutL n).getD 0 0 + 5 * ovr n 5)
theorem foldL_length (n : List Nat) : (foldL n).length = 5 := by simp [foldL, cutL]
theorem fold_mod (n : List Nat) (h : n.length = 5) : v26 (foldL n) % pN = v26 n % pN := by
  rw [foldL, v26_add _ _ _ (by rw [cutL_length]; omega), ← cut_val n h, t130_pN, Nat.add_mul, ← Nat.add_assoc, Nat.add_right_comm, Nat.pow_zero, Nat.one_mul, Nat.add_mul_mod_self_left]
theorem fold_first (n : List Nat) (hb : ∀ k, n.getD k 0 < 2 ^ 62) : (foldL n).getD 0 0 < 2 ^ 40 ∧ ∀ k, 0 < k → (foldL n).getD k 0 < 67108864 := by
  have h1 := ovr_lt n hb 5
  have h2 := cutL_getD n
  constructor
  · rw [foldL, set_getD _ _ _ _ (by rw [cutL_length]; omega), if_pos rfl]
    have := h2 0
    omega
  · intro k hk
    rw [foldL, set_getD _ _ _ _ (by rw [cutL_length]; omega), if_neg (by omega)]
    exact h2 k
theorem fold_again (n : List Nat) (h : n.length = 5) (h0 : n.getD 0 0 < 2 ^ 40) (hk : ∀ k, 0 < k → n.getD k 0 < 67108864) : Lin5 (foldL n) := by
  have h2 := cutL_getD n
  have h3 : ovr n 5 ≤ 1 ∧ (ovr n 5 = 1 → (cutL n).getD 0 0 + 5 < 67108869) := by
    obtain ⟨a, b, c, d, e, rfl⟩ := five n h
    have k1 := hk 1
    have k2 := hk 2
    have k3 := hk 3
    have k4 := hk 4
    have k5 := h2 0
    refine ⟨?_, fun _ => by omega⟩
    simp only [ovr, List.getD_cons_zero, List.getD_cons_succ] at *
    omega
  refine ⟨foldL_length n, ?_, ?_⟩
  · rw [foldL, set_getD _ _ _ _ (by rw [cutL_length]; omega), if_pos rfl]
    have := h2 0
    omega
  · intro k hk
    rw [foldL, set_getD _ _ _ _ (by rw [cutL_length]; omega), if_neg (by omega)]
    exact h2 k

/-- A product is gathered: one more of the second's limbs. -/
theorem times_step (n b : List Nat) (X i j x : Nat) (hn : n.length = 5) (hb : b.length = 5) (hi : i < 5) (hj : j < 5)
    (h : v26 n % pN = (X + 67108864 ^ i * x * v26 (b.take j)) % pN) :
    v26 (n.set ((i + j) % 5) (n.getD ((i + j) % 5) 0 + (if i + j < 5 then x * b.getD j 0 else 5 * x * b.getD j 0))) % pN = (X + 67108864 ^ i * x * v26 (b.take (j + 1))) % pN := by
  obtain ⟨y, hy⟩ : ∃ y, y = b.getD j 0 := ⟨_, rfl⟩
  rw [v26_add _ _ _ (by omega), v26_take b j (by omega), ← hy, Nat.mul_add, ← Nat.add_assoc]
  have key : (67108864 ^ ((i + j) % 5) * (if i + j < 5 then x * y else 5 * x * y)) % pN = (67108864 ^ i * x * (67108864 ^ j * y)) % pN := by
    have e1 : 67108864 ^ i * x * (67108864 ^ j * y) = 67108864 ^ (i + j) * (x * y) := by
      rw [Nat.pow_add]
      rw [Nat.mul_assoc, Nat.mul_assoc, Nat.mul_left_comm x]
    rw [e1]
    by_cases hij : i + j < 5
    · rw [if_pos hij, Nat.mod_eq_of_lt hij]
    · rw [if_neg hij]
      obtain ⟨k, hk⟩ : ∃ k, i + j = k + 5 := ⟨i + j - 5, by omega⟩
      rw [hk, show (k + 5) % 5 = k by omega, Nat.pow_add, ← t130_eq, t130_pN, Nat.mul_assoc (67108864 ^ k), Nat.add_mul, Nat.mul_add, Nat.mul_left_comm (67108864 ^ k) pN, Nat.mul_add_mod, Nat.mul_assoc 5 x y]
  rw [Nat.add_mod, h, key, ← Nat.add_mod]

/-- Made least, of a number below twice 2 to the 130, but for 10. -/
def leastL (n : List Nat) : List Nat := cutL (n.set 0 (n.getD 0 0 + 5 * ovr (n.set 0 (n.getD 0 0 + 5)) 5))
theorem least_val (n : List Nat) (h : Lin5 n) : v26 (leastL n) = v26 n % pN := by
  have hv : v26 n < t130 + 5 := by
    obtain ⟨a, b, c, d, e, rfl⟩ := five n h.1
    have h0 := h.2.1
    have h1 := h.2.2 1
    have h2 := h.2.2 2
    have h3 := h.2.2 3
    have h4 := h.2.2 4
    simp only [v26, List.getD_cons_zero, List.getD_cons_succ, t130] at *
    omega
  have ho : ovr (n.set 0 (n.getD 0 0 + 5)) 5 = (v26 n + 5) / t130 := by
    rw [ovr_div _ (by simp [h.1]), v26_add _ _ _ (by rw [h.1]; omega), Nat.pow_zero, Nat.one_mul]
  rw [leastL, ho, cut_val_mod _ (by simp [h.1]), v26_add _ _ _ (by rw [h.1]; omega), Nat.pow_zero, Nat.one_mul]
  generalize v26 n = v at *
  have e1 : t130 = 1361129467683753853853498429727072845824 := rfl
  have e2 : pN = 1361129467683753853853498429727072845819 := rfl
  rw [e1] at hv ⊢
  rw [e2]
  rcases Nat.lt_or_ge v 1361129467683753853853498429727072845819 with h1 | h1
  · rw [show (v + 5) / 1361129467683753853853498429727072845824 = 0 by omega]
    omega
  · rw [show (v + 5) / 1361129467683753853853498429727072845824 = 1 by omega]
    omega

/-- A byte of a number whose limbs are carried on. -/
def lowX (n : List Nat) (i : Nat) : Nat := if 18 < i * 8 % 26 then n.getD (i * 8 / 26) 0 / 2 ^ (i * 8 % 26) + n.getD (i * 8 / 26 + 1) 0 * 2 ^ (26 - i * 8 % 26) else n.getD (i * 8 / 26) 0 / 2 ^ (i * 8 % 26)
set_option maxHeartbeats 4000000 in
theorem low_byte (n : List Nat) (h : Lim n) (i : Nat) (hi : i < 16) : lowX n i % 256 = v26 n / 256 ^ i % 256 := by
  obtain ⟨a, b, c, d, e, rfl⟩ := five n h.1
  have h0 := h.2 0
  have h1 := h.2 1
  have h2 := h.2 2
  have h3 := h.2 3
  have h4 := h.2 4
  simp only [List.getD_cons_zero, List.getD_cons_succ] at h0 h1 h2 h3 h4
  clear h
  simp only [v26]
  match i, hi with
  | 0, _ => simp [lowX]; omega
  | 1, _ => simp [lowX]; omega
  | 2, _ => simp [lowX]; omega
  | 3, _ => simp [lowX]; omega
  | 4, _ => simp [lowX]; omega
  | 5, _ => simp [lowX]; omega
  | 6, _ => simp [lowX]; omega
  | 7, _ => simp [lowX]; omega
  | 8, _ => simp [lowX]; omega
  | 9, _ => simp [lowX]; omega
  | 10, _ => simp [lowX]; omega
  | 11, _ => simp [lowX]; omega
  | 12, _ => simp [lowX]; omega
  | 13, _ => simp [lowX]; omega
  | 14, _ => simp [lowX]; omega
  | 15, _ => simp [lowX]; omega
  | i + 16, hi => omega

/-- A byte more is laid in. -/
theorem number_step (n : List Nat) (i x : Nat) (hn : n.length = 5) (hi : i < 16 ∨ i = 16) :
    v26 (n.set (i * 8 / 26) (n.getD (i * 8 / 26) 0 + x * 2 ^ (i * 8 % 26))) = v26 n + 256 ^ i * x := by
  rw [v26_add _ _ _ (by omega)]
  congr 1
  rw [Nat.mul_left_comm, Nat.mul_comm (256 ^ i), show (67108864 : Nat) = 2 ^ 26 from rfl, show (256 : Nat) = 2 ^ 8 from rfl, ← Nat.pow_mul, ← Nat.pow_mul, ← Nat.pow_add]
  congr 2
  omega

end Go.Proofs.YtjckdgapefaokaaDoor

/- What the document's answer for layer 5 (package coffretref05) clamps (Clamp): sixteen bytes, with the bits of r that are let be. No condition but that they are sixteen. -/
namespace Go.Proofs.YtjckdgapefaokaaDoor
open Go.RowKit

/-- One more place of a row that is gone over place by place. -/
theorem mapIdx_set (l : List UInt8) (f g : Nat → UInt8 → UInt8) (q : Nat) (hq : q < l.length) (h : ∀ i x, i ≠ q → f i x = g i x) : (l.mapIdx f).set q (g q l[q]) = l.mapIdx g := by
  apply List.ext_getElem
  · simp
  · intro i h1 h2
    simp only [List.getElem_set, List.getElem_mapIdx]
    by_cases e : q = i
    · subst e; simp
    · rw [if_neg e, h i _ (fun x => e x.symm)]
theorem mapIdx_same (l : List UInt8) (f : Nat → UInt8 → UInt8) (h : ∀ i x, f i x = x) : l.mapIdx f = l := by
  apply List.ext_getElem
  · simp
  · intro i h1 h2
    simp [h]
/-- The first r of the bytes 3, 7, 11, 15 are clamped. -/
def topB (r i : Nat) (x : UInt8) : UInt8 := if i % 4 = 3 ∧ i < 3 + 4 * r then x % 16 else x
/-- These, and the first r of the bytes 4, 8, 12. -/
def lowB (r i : Nat) (x : UInt8) : UInt8 := if i % 4 = 3 then x % 16 else if i % 4 = 0 ∧ 0 < i ∧ i < 4 + 4 * r then x / 4 * 4 else x
theorem top_step (l : List UInt8) (r : Nat) (hl : l.length = 16) (hr : r < 4) : (l.mapIdx (topB r)).set (3 + 4 * r) (l.getD (3 + 4 * r) 0 % 16) = l.mapIdx (topB (r + 1)) := by
  rw [show l.getD (3 + 4 * r) 0 = l[3 + 4 * r]'(by omega) by rw [List.getD, List.getElem?_eq_getElem (by omega)]; rfl]
  have := mapIdx_set l (topB r) (topB (r + 1)) (3 + 4 * r) (by omega) (fun i x hi => by
    unfold topB
    by_cases h : i % 4 = 3 ∧ i < 3 + 4 * r
    · rw [if_pos h, if_pos (by omega)]
    · rw [if_neg h, if_neg (by omega)])
  rw [show topB (r + 1) (3 + 4 * r) (l[3 + 4 * r]'(by omega)) = l[3 + 4 * r]'(by omega) % 16 from if_pos (by omega)] at this
  exact this
theorem top_at (l : List UInt8) (r : Nat) (hl : l.length = 16) (hr : r < 4) : (l.mapIdx (topB r))[3 + 4 * r]'(by simp; omega) = l.getD (3 + 4 * r) 0 := by
  rw [List.getElem_mapIdx, List.getD, List.getElem?_eq_getElem (by omega)]
  exact if_neg (by omega)
theorem top_end (l : List UInt8) (hl : l.length = 16) : l.mapIdx (topB 4) = l.mapIdx (lowB 0) := by
  apply List.ext_getElem
  · simp
  · intro i h1 h2
    rw [List.getElem_mapIdx, List.getElem_mapIdx]
    have : i < 16 := by simpa [hl] using h1
    unfold topB lowB
    by_cases h : i % 4 = 3
    · rw [if_pos (by omega), if_pos h]
    · rw [if_neg (by omega), if_neg h, if_neg (by omega)]
theorem low_step (l : List UInt8) (r : Nat) (hl : l.length = 16) (hr : r < 3) : (l.mapIdx (lowB r)).set (4 + 4 * r) (l.getD (4 + 4 * r) 0 / 4 * 4) = l.mapIdx (lowB (r + 1)) := by
  rw [show l.getD (4 + 4 * r) 0 = l[4 + 4 * r]'(by omega) by rw [List.getD, List.getElem?_eq_getElem (by omega)]; rfl]
  have := mapIdx_set l (lowB r) (lowB (r + 1)) (4 + 4 * r) (by omega) (fun i x hi => by
    unfold lowB
    by_cases h3 : i % 4 = 3
    · rw [if_pos h3, if_pos h3]
    · rw [if_neg h3, if_neg h3]
      by_cases h : i % 4 = 0 ∧ 0 < i ∧ i < 4 + 4 * r
      · rw [if_pos h, if_pos (by omega)]
      · rw [if_neg h, if_neg (by omega)])
  rw [show lowB (r + 1) (4 + 4 * r) (l[4 + 4 * r]'(by omega)) = l[4 + 4 * r]'(by omega) / 4 * 4 by
    unfold lowB; rw [if_neg (by omega), if_pos (by omega)]] at this
  exact this
theorem low_at (l : List UInt8) (r : Nat) (hl : l.length = 16) (hr : r < 3) : (l.mapIdx (lowB r))[4 + 4 * r]'(by simp; omega) = l.getD (4 + 4 * r) 0 := by
  rw [List.getElem_mapIdx, List.getD, List.getElem?_eq_getElem (by omega)]
  unfold lowB
  rw [if_neg (by omega), if_neg (by omega)]
  rfl
theorem low_end (l : List UInt8) (hl : l.length = 16) : l.mapIdx (lowB 3) = clampL l := by
  apply List.ext_getElem
  · simp [clampL]
  · intro i h1 h2
    simp only [clampL, List.getElem_mapIdx]
    have : i < 16 := by simpa [hl] using h1
    unfold lowB clampB
    by_cases h : i % 4 = 3
    · rw [if_pos h, if_pos h]
    · rw [if_neg h, if_neg h]
      by_cases h2 : i % 4 = 0 ∧ 0 < i
      · rw [if_pos (by omega), if_pos h2]
      · rw [if_neg (by omega), if_neg h2]
theorem top_zero (l : List UInt8) : l.mapIdx (topB 0) = l := mapIdx_same l _ (fun i x => if_neg (by omega))

theorem zero16b (w : World) : (zeroValue 93).run Tryd.prog w = .ok (.agg ((List.replicate 16 (0 : UInt8)).map bv).toArray) w := by kernel_rfl
theorem b8_mod16 (x : UInt8) : ((x % 16).toNat : Nat) = x.toNat % 16 := by simp
theorem b8_low4 (x : UInt8) : ((x / 4 * 4).toNat : Nat) = x.toNat / 4 * 4 := by
  have := x.toNat_lt
  rw [UInt8.toNat_mul, UInt8.toNat_div]
  simp
  omega

set_option maxRecDepth 100000 in
set_option maxHeartbeats 4000000 in
theorem rclamp_any (w : World) (l : List UInt8) (hl : l.length = 16) :
    Calls Tryd.prog 85 #[.agg (l.map bv).toArray] w fun e w' => e = .returned (.agg ((clampL l).map bv).toArray) ∧ w.grownBy w' none := by
  have hi16 : (Tryd.prog.info? 93).map (·.size) = some 16 := by kernel_rfl
  obtain ⟨A, hA⟩ : ∃ A : Array Value, A = (l.map bv).toArray := ⟨_, rfl⟩
  obtain ⟨Z, hZ⟩ : ∃ A : Array Value, A = ((List.replicate 16 (0 : UInt8)).map bv).toArray := ⟨_, rfl⟩
  have hz := zero16b
  rw [← hZ] at hz
  obtain ⟨W1, hW1⟩ : ∃ W1, W1 = (w.alloc (.cells A 93)).alloc (.cells Z 93) := ⟨_, rfl⟩
  have hg : w.grownBy W1 none := by rw [hW1]; exact gb_alloc (gb_alloc (gb_refl _ _) _) _
  have hB1 : Blk W1 w.heap.size 93 ((l.mapIdx (topB 0)).map bv) := by rw [hW1, hA, top_zero]; exact (Blk.new w 93 _).alloc _
  have hR1 : Blk W1 (w.heap.size + 1) 93 ((List.replicate 16 (0 : UInt8)).map bv) := by
    have := Blk.new (w.alloc (.cells A 93)) 93 ((List.replicate 16 (0 : UInt8)).map bv)
    rw [World.size_alloc] at this
    rw [hW1, hZ]; exact this
  rw [← hA]
  have hAs : A.size = 16 := by rw [hA]; simp [hl]
  have HL := hide hl
  have HA := hide hA
  have HZ := hide hZ
  have HW1 := hide hW1
  have HB := hide hB1
  have HR := hide hR1
  have HAS := hide hAs
  clear hl hA hZ hW1 hB1 hR1 hAs
  go_enter Tryd.func85, Tryd.ntmps85
  go_wp2
  rw [← unhide HW1]
  go_loopw [3] (fun i wr => ∃ r : Nat, r ≤ 4 ∧ i = .int .i64 ((3 + 4 * r : Nat) : Int) ∧ Blk wr w.heap.size 93 ((l.mapIdx (topB r)).map bv) ∧ Blk wr (w.heap.size + 1) 93 ((List.replicate 16 (0 : UInt8)).map bv) ∧ w.grownBy wr none) (fun i _ => 20 - (intOf i).toNat)
  case atStart => exact ⟨0, Nat.zero_le _, rfl, unhide HB, unhide HR, hg⟩
  case round =>
    clear HB HR hg HW1
    obtain ⟨r, hr, rfl, hB, hR, hg⟩ := hrel
    by_cases hlt : r < 4
    · obtain ⟨q, hq⟩ : ∃ q : Nat, q = 3 + 4 * r := ⟨_, rfl⟩
      rw [← hq]
      have hq1 : (q : Int) < 16 := by omega
      have hq0 : (0 : Int) ≤ (q : Int) := by omega
      have hl := unhide HL
      obtain ⟨x, hx⟩ : ∃ x, x = l.getD (3 + 4 * r) 0 := ⟨_, rfl⟩
      have hc : wr.cell? ⟨w.heap.size, q, none⟩ = some (.int .u8 ((x.toNat : Nat) : Int)) := by
        rw [hB.cell, hq, List.getElem?_map, List.getElem?_eq_getElem (by simp; omega), top_at l r hl hlt, hx]; rfl
      have hf : wr.frozen? ⟨w.heap.size, q, none⟩ = false := hB.fz _
      obtain ⟨y, hy⟩ : ∃ y, y = x % 16 := ⟨_, rfl⟩
      obtain ⟨xn, hxn⟩ : ∃ n : Nat, n = x.toNat := ⟨_, rfl⟩
      obtain ⟨yn, hyn⟩ : ∃ n : Nat, n = y.toNat := ⟨_, rfl⟩
      have hyx : yn = xn % 16 := by rw [hyn, hy, b8_mod16, hxn]
      have hy8 : yn < 256 := by omega
      have n1 : Int.tmod (xn : Int) 16 = (yn : Int) := by rw [Int.tmod_eq_emod_of_nonneg (by omega)]; omega
      have n2 : (xn : Int) % 16 = (yn : Int) := by omega
      have n3 : IntKind.u8.wrap (yn : Int) = (yn : Int) := by rw [IntKind.wrap_u8]; omega
      rw [← hxn] at hc
      have HB := hide hB
      have HR := hide hR
      have HX := hide hx
      have HY := hide hy
      have HYN := hide hyn
      have HQ := hide hq
      clear hB hR hx hy hyn hxn hyx hy8 hl hq
      go_wp2
      go_roundw
      case rel =>
        have hS := (unhide HB).set q (bv y)
        have hS2 : Blk (wr.setCell ⟨w.heap.size, q, none⟩ (bv y)) w.heap.size 93 ((l.mapIdx (topB (r + 1))).map bv) := by
          rw [← top_step l r (unhide HL) hlt, List.map_set, ← unhide HX, ← unhide HY, ← unhide HQ]; exact hS
        rw [show bv y = .int .u8 (yn : Int) by rw [unhide HYN]; rfl] at hS2
        exact ⟨r + 1, by omega, by rw [unhide HQ]; go_num, hS2, (unhide HR).other _ _ (by simp), gb_setCell hg _ _ (Or.inl (by simp))⟩
      case measure => have := unhide HQ; simp [intOf]; omega
    · obtain rfl : r = 4 := by omega
      rw [show ((3 + 4 * 4 : Nat) : Int) = 19 from rfl]
      rw [top_end l (unhide HL)] at hB
      have HB := hide hB
      have HR := hide hR
      clear hB hR
      go_wp2
      go_loopw [4] (fun i wr => ∃ r : Nat, r ≤ 3 ∧ i = .int .i64 ((4 + 4 * r : Nat) : Int) ∧ Blk wr w.heap.size 93 ((l.mapIdx (lowB r)).map bv) ∧ Blk wr (w.heap.size + 1) 93 ((List.replicate 16 (0 : UInt8)).map bv) ∧ w.grownBy wr none) (fun i _ => 20 - (intOf i).toNat)
      case atStart => exact ⟨0, Nat.zero_le _, rfl, unhide HB, unhide HR, hg⟩
      case round =>
        clear HB HR hg
        obtain ⟨r, hr, rfl, hB, hR, hg⟩ := hrel
        by_cases hlt : r < 3
        · obtain ⟨q, hq⟩ : ∃ q : Nat, q = 4 + 4 * r := ⟨_, rfl⟩
          rw [← hq]
          have hq1 : (q : Int) < 16 := by omega
          have hq0 : (0 : Int) ≤ (q : Int) := by omega
          have hl := unhide HL
          obtain ⟨x, hx⟩ : ∃ x, x = l.getD (4 + 4 * r) 0 := ⟨_, rfl⟩
          have hc : wr.cell? ⟨w.heap.size, q, none⟩ = some (.int .u8 ((x.toNat : Nat) : Int)) := by
            rw [hB.cell, hq, List.getElem?_map, List.getElem?_eq_getElem (by simp; omega), low_at l r hl hlt, hx]; rfl
          have hf : wr.frozen? ⟨w.heap.size, q, none⟩ = false := hB.fz _
          obtain ⟨y, hy⟩ : ∃ y, y = x / 4 * 4 := ⟨_, rfl⟩
          obtain ⟨xn, hxn⟩ : ∃ n : Nat, n = x.toNat := ⟨_, rfl⟩
          obtain ⟨yn, hyn⟩ : ∃ n : Nat, n = y.toNat := ⟨_, rfl⟩
          obtain ⟨mn, hmn⟩ : ∃ n : Nat, n = xn / 4 := ⟨_, rfl⟩
          have hyx : yn = mn * 4 := by rw [hyn, hy, b8_low4, hmn, hxn]
          have hx8 : xn < 256 := by rw [hxn]; exact x.toNat_lt
          have hy8 : yn < 256 := by omega
          have n1 : Int.tdiv (xn : Int) 4 = (mn : Int) := by rw [Int.tdiv_eq_ediv_of_nonneg (by omega)]; omega
          have n2 : (xn : Int) / 4 = (mn : Int) := by omega
          have n3 : IntKind.u8.wrap (mn : Int) = (mn : Int) := by rw [IntKind.wrap_u8]; omega
          have n4 : IntKind.u8.wrap ((mn : Int) * 4) = (yn : Int) := by rw [IntKind.wrap_u8]; omega
          have n5 : (mn : Int) * 4 % 256 = (yn : Int) := by omega
          rw [← hxn] at hc
          have HB := hide hB
          have HR := hide hR
          have HX := hide hx
          have HY := hide hy
          have HYN := hide hyn
          have HQ := hide hq
          clear hB hR hx hy hyn hxn hyx hy8 hx8 hmn hl hq
          go_wp2
          go_roundw
          case rel =>
            have hS := (unhide HB).set q (bv y)
            have hS2 : Blk (wr.setCell ⟨w.heap.size, q, none⟩ (bv y)) w.heap.size 93 ((l.mapIdx (lowB (r + 1))).map bv) := by
              rw [← low_step l r (unhide HL) hlt, List.map_set, ← unhide HX, ← unhide HY, ← unhide HQ]; exact hS
            rw [show bv y = .int .u8 (yn : Int) by rw [unhide HYN]; rfl] at hS2
            exact ⟨r + 1, by omega, by rw [unhide HQ]; go_num, hS2, (unhide HR).other _ _ (by simp), gb_setCell hg _ _ (Or.inl (by simp))⟩
          case measure => have := unhide HQ; simp [intOf]; omega
        · obtain rfl : r = 3 := by omega
          rw [show ((4 + 4 * 3 : Nat) : Int) = 16 from rfl]
          rw [low_end l (unhide HL)] at hB
          obtain ⟨C, hC⟩ : ∃ C, C = clampL l := ⟨_, rfl⟩
          rw [← hC] at hB
          have hCl : ((C.map bv).toArray).size = 16 := by rw [hC]; simp [clampL, unhide HL]
          obtain ⟨W5, hW5⟩ : ∃ W5, W5 = wr.setRow (w.heap.size + 1) (C.map bv).toArray := ⟨_, rfl⟩
          have hS : Blk W5 (w.heap.size + 1) 93 (C.map bv) := by rw [hW5]; exact hR.row _
          have hG : w.grownBy W5 none := by rw [hW5]; exact gb_row hg _ (Or.inl (by omega))
          have HB := hide hB
          have HR := hide hR
          have HSZ := hide hCl
          have HW5 := hide hW5
          have HS := hide hS
          have HC := hide hC
          clear hB hR hCl hW5 hS hC
          go_wp2_with (first
            | (refine wpList_load_row rfl 93 _ rfl w.heap.size rfl _ _ _ _ (unhide HB) Tryd.underlying93 rfl ?_ ?_; (rw [unhide HSZ]; exact hi16))
            | (refine wpList_store_row rfl 93 _ _ rfl (w.heap.size + 1) _ rfl rfl _ _ (unhide HR) ?_ ?_ ?_ ?_; (rw [unhide HSZ]; exact hi16); (rw [unhide HSZ]; rfl); (exact all_oneCell_toArray (bv_one _)); rw [← unhide HW5]))
          have hS := unhide HS
          have hsz := unhide HSZ
          rw [unhide HC] at hS hsz
          refine bodyPost_ret (v := .agg ((clampL l).map bv).toArray) (results_cell_row (g := w.heap.size + 1) rfl _ _ _ _ _ _ ?_ hS Tryd.underlying93 rfl ?_) rfl ⟨rfl, hG⟩
          · rfl
          · rw [hsz]; exact hi16

end Go.Proofs.YtjckdgapefaokaaDoor
