/- Numbers by five limbs of 26 bits, the lowest first: what is carried on, folded, multiplied, made least, and laid in bytes. No program is spoken of here. No condition but those that each lemma names. -/
import Derived.Test.YtjckdgapefaokaaDoorPMath2
namespace Go.Proofs.YtjckdgapefaokaaDoor

/-- A row that is gone over place by place: what lies behind i is as it was. -/
def stepL {α : Type} (n i : Nat) (f g : Nat → α) : List α := (List.range n).map fun j => if j < i then f j else g j
theorem stepL_length {α : Type} (n i : Nat) (f g : Nat → α) : (stepL n i f g).length = n := by simp [stepL]
theorem stepL_at {α : Type} (n i : Nat) (f g : Nat → α) (k : Nat) (h : k < n) : (stepL n i f g)[k]? = some (if k < i then f k else g k) := by
  simp [stepL, h]
theorem stepL_set {α : Type} (n i : Nat) (f g : Nat → α) : (stepL n i f g).set i (f i) = stepL n (i + 1) f g := by
  apply List.ext_getElem
  · simp [stepL]
  · intro k h1 h2
    simp only [List.getElem_set, stepL, List.getElem_map, List.getElem_range]
    by_cases e : i = k
    · subst e; simp
    · rw [if_neg e]
      by_cases h : k < i
      · rw [if_pos h, if_pos (by omega)]
      · rw [if_neg h, if_neg (by omega)]
theorem stepL_all {α : Type} (n : Nat) (f g : Nat → α) : stepL n n f g = (List.range n).map f := by
  apply List.map_congr_left
  intro j hj
  rw [if_pos (List.mem_range.1 hj)]
theorem stepL_none {α : Type} (n : Nat) (f g : Nat → α) : stepL n 0 f g = (List.range n).map g := by
  apply List.map_congr_left
  intro j _
  rw [if_neg (by omega)]

theorem five (n : List Nat) (h : n.length = 5) : ∃ a b c d e, n = [a, b, c, d, e] := by
  match n, h with
  | [a, b, c, d, e], _ => exact ⟨a, b, c, d, e, rfl⟩
theorem range_getD (n : List Nat) (k : Nat) (h : n.length = k) : (List.range k).map (fun i => n.getD i 0) = n := by
  subst h
  apply List.ext_getElem
  · simp
  · intro i h1 h2
    simp [List.getD, h2]

/-- The number of limbs, the lowest first. -/
def v26 : List Nat → Nat
  | [] => 0
  | d :: r => d + 67108864 * v26 r
theorem v26_snoc (a : List Nat) (d : Nat) : v26 (a ++ [d]) = v26 a + 67108864 ^ a.length * d := by
  induction a with
  | nil => simp [v26]
  | cons x r ih => rw [List.cons_append, v26, ih, v26, List.length_cons, Nat.pow_succ, Nat.mul_add, ← Nat.mul_assoc, Nat.mul_comm 67108864 (67108864 ^ r.length)]; omega
theorem v26_take (ds : List Nat) (i : Nat) (h : i < ds.length) : v26 (ds.take (i + 1)) = v26 (ds.take i) + 67108864 ^ i * ds.getD i 0 := by
  rw [List.take_succ_eq_append_getElem h, v26_snoc, show (ds.take i).length = i by simp; omega, show ds.getD i 0 = ds[i] by simp [List.getD, h]]
theorem v26_add (n : List Nat) (k d : Nat) (h : k < n.length) : v26 (n.set k (n.getD k 0 + d)) = v26 n + 67108864 ^ k * d := by
  induction n generalizing k with
  | nil => simp at h
  | cons x r ih =>
    cases k with
    | zero => simp [v26]; omega
    | succ k =>
      have := ih k (by simpa using h)
      simp only [List.set_cons_succ, v26, List.getD_cons_succ]
      rw [this, Nat.mul_add, Nat.pow_succ, ← Nat.mul_assoc, Nat.mul_comm 67108864 (67108864 ^ k)]
      omega
theorem set_getD (n : List Nat) (k j d : Nat) (h : k < n.length) : (n.set k d).getD j 0 = if j = k then d else n.getD j 0 := by
  simp only [List.getD, List.getElem?_set]
  by_cases e : k = j
  · subst e; simp [h]
  · rw [if_neg e, if_neg (fun x => e x.symm)]

/-- What goes over into limb i. -/
def ovr (n : List Nat) : Nat → Nat
  | 0 => 0
  | i + 1 => (n.getD i 0 + ovr n i) / 67108864
def cutD (n : List Nat) (i : Nat) : Nat := (n.getD i 0 + ovr n i) % 67108864
/-- Carried on. -/
def cutL (n : List Nat) : List Nat := (List.range 5).map (cutD n)
theorem cutL_length (n : List Nat) : (cutL n).length = 5 := by simp [cutL]
theorem cutL_getD (n : List Nat) (k : Nat) : (cutL n).getD k 0 < 67108864 := by
  by_cases h : k < 5
  · simp only [List.getD, cutL, List.getElem?_map, List.getElem?_range h, Option.map_some, Option.getD_some]
    exact Nat.mod_lt _ (by omega)
  · rw [getD_out _ _ (by simp [cutL]; omega)]; omega
theorem ovr_lt (n : List Nat) (h : ∀ k, n.getD k 0 < 2 ^ 62) (i : Nat) : ovr n i < 2 ^ 37 := by
  induction i with
  | zero => simp [ovr]
  | succ i ih => have := h i; rw [ovr]; omega

/-- Five limbs of 26 bits; and such with some more in the lowest, as a product has. -/
def Lim (n : List Nat) : Prop := n.length = 5 ∧ ∀ k, n.getD k 0 < 67108864
def Lin5 (n : List Nat) : Prop := n.length = 5 ∧ n.getD 0 0 < 67108869 ∧ ∀ k, 0 < k → n.getD k 0 < 67108864
theorem cutL_lim (n : List Nat) : Lim (cutL n) := ⟨cutL_length n, cutL_getD n⟩

/-- 2 to the 130. -/
def t130 : Nat := 1361129467683753853853498429727072845824
theorem t130_eq : t130 = 67108864 ^ 5 := by decide
theorem t130_pN : t130 = pN + 5 := by decide
theorem cut_val (n : List Nat) (h : n.length = 5) : v26 (cutL n) + t130 * ovr n 5 = v26 n := by
  obtain ⟨a, b, c, d, e, rfl⟩ := five n h
  simp only [cutL, List.range, List.range.loop, List.map_cons, List.map_nil, v26, cutD, ovr, List.getD_cons_zero, List.getD_cons_succ, t130]
  omega
theorem v26_lim (n : List Nat) (h : Lim n) : v26 n < t130 := by
  obtain ⟨a, b, c, d, e, rfl⟩ := five n h.1
  have h0 := h.2 0
  have h1 := h.2 1
  have h2 := h.2 2
  have h3 := h.2 3
  have h4 := h.2 4
  simp only [v26, List.getD_cons_zero, List.getD_cons_succ, t130] at *
  omega
theorem cut_val_mod (n : List Nat) (h : n.length = 5) : v26 (cutL n) = v26 n % t130 := by
  have := cut_val n h
  have h1 := v26_lim _ (cutL_lim n)
  rw [← this, Nat.add_mul_mod_self_left, Nat.mod_eq_of_lt h1]
theorem ovr_div (n : List Nat) (h : n.length = 5) : ovr n 5 = v26 n / t130 := by
  have := cut_val n h
  have h1 := v26_lim _ (cutL_lim n)
  rw [← this, Nat.add_mul_div_left _ _ (by decide), Nat.div_eq_of_lt h1]; omega

/-- What goes over is laid in again from below. -/
def foldL (n : List Nat) : List Nat := (cutL n).set 0 ((cutL n).getD 0 0 + 5 * ovr n 5)
theorem foldL_length (n : List Nat) : (foldL n).length = 5 := by simp [foldL, cutL]
theorem fold_mod (n : List Nat) (h : n.length = 5) : v26 (foldL n) % pN = v26 n % pN := by
  rw [foldL, v26_add _ _ _ (by rw [cutL_length]; omega), ← cut_val n h, t130_pN, Nat.add_mul, ← Nat.add_assoc, Nat.add_right_comm, Nat.pow_zero, Nat.one_mul, Nat.add_mul_mod_self_left]
theorem fold_first (n : List Nat) (hb : ∀ k, n.getD k 0 < 2 ^ 62) : (foldL n).getD 0 0 < 2 ^ 40 ∧ ∀ k, 0 < k → (foldL n).getD k 0 < 67108864 := by
  have h1 := ovr_lt n hb 5
  have h2 := cutL_getD n
  constructor
  · rw [foldL, set_getD _ _ _ _ (by rw [cutL_length]; omega), if_pos rfl]
    have := h2 0
    omega
  · intro k hk
    rw [foldL, set_getD _ _ _ _ (by rw [cutL_length]; omega), if_neg (by omega)]
    exact h2 k
theorem fold_again (n : List Nat) (h : n.length = 5) (h0 : n.getD 0 0 < 2 ^ 40) (hk : ∀ k, 0 < k → n.getD k 0 < 67108864) : Lin5 (foldL n) := by
  have h2 := cutL_getD n
  have h3 : ovr n 5 ≤ 1 ∧ (ovr n 5 = 1 → (cutL n).getD 0 0 + 5 < 67108869) := by
    obtain ⟨a, b, c, d, e, rfl⟩ := five n h
    have k1 := hk 1
    have k2 := hk 2
    have k3 := hk 3
    have k4 := hk 4
    have k5 := h2 0
    refine ⟨?_, fun _ => by omega⟩
    simp only [ovr, List.getD_cons_zero, List.getD_cons_succ] at *
    omega
  refine ⟨foldL_length n, ?_, ?_⟩
  · rw [foldL, set_getD _ _ _ _ (by rw [cutL_length]; omega), if_pos rfl]
    have := h2 0
    omega
  · intro k hk
    rw [foldL, set_getD _ _ _ _ (by rw [cutL_length]; omega), if_neg (by omega)]
    exact h2 k

/-- A product is gathered: one more of the second's limbs. -/
theorem times_step (n b : List Nat) (X i j x : Nat) (hn : n.length = 5) (hb : b.length = 5) (hi : i < 5) (hj : j < 5)
    (h : v26 n % pN = (X + 67108864 ^ i * x * v26 (b.take j)) % pN) :
    v26 (n.set ((i + j) % 5) (n.getD ((i + j) % 5) 0 + (if i + j < 5 then x * b.getD j 0 else 5 * x * b.getD j 0))) % pN = (X + 67108864 ^ i * x * v26 (b.take (j + 1))) % pN := by
  obtain ⟨y, hy⟩ : ∃ y, y = b.getD j 0 := ⟨_, rfl⟩
  rw [v26_add _ _ _ (by omega), v26_take b j (by omega), ← hy, Nat.mul_add, ← Nat.add_assoc]
  have key : (67108864 ^ ((i + j) % 5) * (if i + j < 5 then x * y else 5 * x * y)) % pN = (67108864 ^ i * x * (67108864 ^ j * y)) % pN := by
    have e1 : 67108864 ^ i * x * (67108864 ^ j * y) = 67108864 ^ (i + j) * (x * y) := by
      rw [Nat.pow_add]
      rw [Nat.mul_assoc, Nat.mul_assoc, Nat.mul_left_comm x]
    rw [e1]
    by_cases hij : i + j < 5
    · rw [if_pos hij, Nat.mod_eq_of_lt hij]
    · rw [if_neg hij]
      obtain ⟨k, hk⟩ : ∃ k, i + j = k + 5 := ⟨i + j - 5, by omega⟩
      rw [hk, show (k + 5) % 5 = k by omega, Nat.pow_add, ← t130_eq, t130_pN, Nat.mul_assoc (67108864 ^ k), Nat.add_mul, Nat.mul_add, Nat.mul_left_comm (67108864 ^ k) pN, Nat.mul_add_mod, Nat.mul_assoc 5 x y]
  rw [Nat.add_mod, h, key, ← Nat.add_mod]

/-- Made least, of a number below twice 2 to the 130, but for 10. -/
def leastL (n : List Nat) : List Nat := cutL (n.set 0 (n.getD 0 0 + 5 * ovr (n.set 0 (n.getD 0 0 + 5)) 5))
theorem least_val (n : List Nat) (h : Lin5 n) : v26 (leastL n) = v26 n % pN := by
  have hv : v26 n < t130 + 5 := by
    obtain ⟨a, b, c, d, e, rfl⟩ := five n h.1
    have h0 := h.2.1
    have h1 := h.2.2 1
    have h2 := h.2.2 2
    have h3 := h.2.2 3
    have h4 := h.2.2 4
    simp only [v26, List.getD_cons_zero, List.getD_cons_succ, t130] at *
    omega
  have ho : ovr (n.set 0 (n.getD 0 0 + 5)) 5 = (v26 n + 5) / t130 := by
    rw [ovr_div _ (by simp [h.1]), v26_add _ _ _ (by rw [h.1]; omega), Nat.pow_zero, Nat.one_mul]
  rw [leastL, ho, cut_val_mod _ (by simp [h.1]), v26_add _ _ _ (by rw [h.1]; omega), Nat.pow_zero, Nat.one_mul]
  generalize v26 n = v at *
  have e1 : t130 = 1361129467683753853853498429727072845824 := rfl
  have e2 : pN = 1361129467683753853853498429727072845819 := rfl
  rw [e1] at hv ⊢
  rw [e2]
  rcases Nat.lt_or_ge v 1361129467683753853853498429727072845819 with h1 | h1
  · rw [show (v + 5) / 1361129467683753853853498429727072845824 = 0 by omega]
    omega
  · rw [show (v + 5) / 1361129467683753853853498429727072845824 = 1 by omega]
    omega

/-- A byte of a number whose limbs are carried on. -/
def lowX (n : List Nat) (i : Nat) : Nat := if 18 < i * 8 % 26 then n.getD (i * 8 / 26) 0 / 2 ^ (i * 8 % 26) + n.getD (i * 8 / 26 + 1) 0 * 2 ^ (26 - i * 8 % 26) else n.getD (i * 8 / 26) 0 / 2 ^ (i * 8 % 26)
set_option maxHeartbeats 4000000 in
theorem low_byte (n : List Nat) (h : Lim n) (i : Nat) (hi : i < 16) : lowX n i % 256 = v26 n / 256 ^ i % 256 := by
  obtain ⟨a, b, c, d, e, rfl⟩ := five n h.1
  have h0 := h.2 0
  have h1 := h.2 1
  have h2 := h.2 2
  have h3 := h.2 3
  have h4 := h.2 4
  simp only [List.getD_cons_zero, List.getD_cons_succ] at h0 h1 h2 h3 h4
  clear h
  simp only [v26]
  match i, hi with
  | 0, _ => simp [lowX]; omega
  | 1, _ => simp [lowX]; omega
  | 2, _ => simp [lowX]; omega
  | 3, _ => simp [lowX]; omega
  | 4, _ => simp [lowX]; omega
  | 5, _ => simp [lowX]; omega
  | 6, _ => simp [lowX]; omega
  | 7, _ => simp [lowX]; omega
  | 8, _ => simp [lowX]; omega
  | 9, _ => simp [lowX]; omega
  | 10, _ => simp [lowX]; omega
  | 11, _ => simp [lowX]; omega
  | 12, _ => simp [lowX]; omega
  | 13, _ => simp [lowX]; omega
  | 14, _ => simp [lowX]; omega
  | 15, _ => simp [lowX]; omega
  | i + 16, hi => omega

/-- A byte more is laid in. -/
theorem number_step (n : List Nat) (i x : Nat) (hn : n.length = 5) (hi : i < 16 ∨ i = 16) :
    v26 (n.set (i * 8 / 26) (n.getD (i * 8 / 26) 0 + x * 2 ^ (i * 8 % 26))) = v26 n + 256 ^ i * x := by
  rw [v26_add _ _ _ (by omega)]
  congr 1
  rw [Nat.mul_left_comm, Nat.mul_comm (256 ^ i), show (67108864 : Nat) = 2 ^ 26 from rfl, show (256 : Nat) = 2 ^ 8 from rfl, ← Nat.pow_mul, ← Nat.pow_mul, ← Nat.pow_add]
  congr 2
  omega

end Go.Proofs.YtjckdgapefaokaaDoor
