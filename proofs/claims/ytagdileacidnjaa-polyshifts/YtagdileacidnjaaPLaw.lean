/- What follows from THE TAG's definition, as the outright statements of layer 5 ask it. No program is spoken of here. No condition but those that each lemma names. -/
import Derived.Test.YtagdileacidnjaaPMath2
namespace Go.Proofs.Ytagdileacidnjaa

/-- The number of the first n digits of a row. -/
def pre (D : Nat → Nat) : Nat → Nat
  | 0 => 0
  | n + 1 => pre D n + 256 ^ n * D n
theorem pre_add (f g : Nat → Nat) (n : Nat) : pre (fun i => f i + g i) n = pre f n + pre g n := by
  induction n with
  | zero => rfl
  | succ n ih => simp only [pre, ih, Nat.mul_add]; omega
theorem pre_congr {f g : Nat → Nat} {n : Nat} (h : ∀ i, i < n → f i = g i) : pre f n = pre g n := by
  induction n with
  | zero => rfl
  | succ n ih => simp only [pre]; rw [ih (fun i hi => h i (by omega)), h n (by omega)]
/-- A byte of a row. -/
def at8 (l : List UInt8) (i : Nat) : Nat := (l.getD i 0).toNat
theorem pre_at8 (l : List UInt8) (n : Nat) (h : l.length ≤ n) : pre (at8 l) n = leN l := by
  have key : ∀ m, pre (at8 l) m = preN (l.map UInt8.toNat) m := by
    intro m
    induction m with
    | zero => rfl
    | succ m ih =>
      rw [pre, preN_succ, ih]
      congr 2
      unfold at8
      rw [List.getD, List.getD, List.getElem?_map]
      cases l[m]? <;> rfl
  rw [key, preN_all _ _ (by simpa using h)]
  rfl
/-- The carry ahead of a digit, and behind it. -/
theorem carry_in (D : Nat → Nat) (i : Nat) : pre D i / 256 ^ i + D i = pre D (i + 1) / 256 ^ i := by
  rw [pre, Nat.add_mul_div_left _ _ (Nat.pow_pos (by omega))]
theorem carry_out (D : Nat → Nat) (i : Nat) : (pre D i / 256 ^ i + D i) / 256 = pre D (i + 1) / 256 ^ (i + 1) := by
  rw [carry_in, Nat.div_div_eq_div_mul, Nat.pow_succ]
theorem pre_more (D : Nat → Nat) (i n : Nat) (h : i + 1 ≤ n) : ∃ t, pre D n = pre D (i + 1) + 256 ^ (i + 1) * t := by
  induction n with
  | zero => omega
  | succ n ih =>
    rcases Nat.lt_or_ge i n with h1 | h1
    · obtain ⟨t, ht⟩ := ih h1
      refine ⟨t + 256 ^ (n - (i + 1)) * D n, ?_⟩
      rw [pre, ht, Nat.mul_add, ← Nat.mul_assoc, ← Nat.pow_add, show i + 1 + (n - (i + 1)) = n by omega]
      omega
    · obtain rfl : i = n := by omega
      exact ⟨0, by simp⟩
theorem carry_digit (D : Nat → Nat) (i n : Nat) (h : i < n) : (pre D i / 256 ^ i + D i) % 256 = pre D n / 256 ^ i % 256 := by
  obtain ⟨t, ht⟩ := pre_more D i n h
  rw [carry_in, ht, Nat.pow_succ, Nat.mul_assoc, Nat.add_mul_div_left _ _ (Nat.pow_pos (by omega))]
  omega

/-- 2 to the 128. -/
def q128 : Nat := 340282366920938463463374607431768211456
theorem q128_eq : q128 = 256 ^ 16 := by decide
theorem digit_mod (v i : Nat) (h : i < 16) : v / 256 ^ i % 256 = v % q128 / 256 ^ i % 256 := by
  rw [q128_eq]
  have e : (256 : Nat) ^ 16 = 256 ^ i * 256 ^ (16 - i) := by rw [← Nat.pow_add, show i + (16 - i) = 16 by omega]
  rw [e, Nat.mod_mul_right_div_self]
  rw [show 16 - i = (16 - i - 1) + 1 by omega, Nat.pow_succ, Nat.mul_comm, Nat.mod_mul_right_mod]
theorem leB_mod (v u : Nat) (h : v % q128 = u % q128) : leB 16 v = leB 16 u := by
  unfold leB
  apply List.map_congr_left
  intro i hi
  have hi := List.mem_range.1 hi
  apply UInt8.toNat.inj
  rw [UInt8.toNat_ofNat', UInt8.toNat_ofNat']
  show v / 256 ^ i % 256 = u / 256 ^ i % 256
  rw [digit_mod v i hi, digit_mod u i hi, h]
theorem leB_at8 (v i : Nat) (h : i < 16) : at8 (leB 16 v) i = v / 256 ^ i % 256 := by
  unfold at8 leB
  rw [List.getD, List.getElem?_map, List.getElem?_range h]
  show (UInt8.ofNat (v / 256 ^ i)).toNat = _
  rw [UInt8.toNat_ofNat']
theorem leB_leN (l : List UInt8) (hl : l.length = 16) : leB 16 (leN l) = l := by
  apply List.ext_getElem
  · rw [leB_length, hl]
  · intro i h1 h2
    have hi : i < 16 := by rw [leB_length] at h1; exact h1
    have e1 := leB_at8 (leN l) i hi
    have e2 := carry_digit (at8 l) i 16 hi
    rw [pre_at8 l 16 (by omega)] at e2
    have h8 : at8 (leB 16 (leN l)) i = (leB 16 (leN l))[i].toNat := by unfold at8; rw [List.getD, List.getElem?_eq_getElem h1]; rfl
    have h9 : at8 l i = l[i].toNat := by unfold at8; rw [List.getD, List.getElem?_eq_getElem h2]; rfl
    have hp : ∀ n, pre (at8 l) n < 256 ^ n := by
      intro n
      induction n with
      | zero => simp [pre]
      | succ n ih =>
        have h3 : at8 l n < 256 := (l.getD n 0).toNat_lt
        have h4 : 256 ^ n * at8 l n ≤ 256 ^ n * 255 := Nat.mul_le_mul_left _ (by omega)
        rw [pre, Nat.pow_succ]
        omega
    rw [Nat.div_eq_of_lt (hp i), Nat.zero_add, ← e1, h8, h9] at e2
    apply UInt8.toNat.inj
    have h3 : l[i].toNat < 256 := l[i].toNat_lt
    omega
theorem leN_leB (v : Nat) : leN (leB 16 v) = v % q128 := by
  have e : pre (at8 (leB 16 v)) 16 = v % q128 := by
    have key : ∀ n, n ≤ 16 → pre (at8 (leB 16 v)) n = v % 256 ^ n := by
      intro n
      induction n with
      | zero => intro _; simp [pre, Nat.mod_one]
      | succ n ih =>
        intro hn
        rw [pre, ih (by omega), leB_at8 v n (by omega), Nat.pow_succ, Nat.mod_mul]
    rw [key 16 (Nat.le_refl _), q128_eq]
  rw [← e, pre_at8 _ _ (by rw [leB_length]; exact Nat.le_refl _)]

/-- The tag's number. -/
def tagN (k l : List UInt8) : Nat := polyA (leN (clampL (k.take 16))) l ((l.length + 15) / 16)
theorem tagL_eq (k l : List UInt8) : tagL k l = leB 16 (tagN k l + leN (k.drop 16)) := rfl
theorem tag_nil (k : List UInt8) (hk : k.length = 32) : tagL k [] = k.drop 16 := by
  rw [tagL_eq]
  show leB 16 (0 + leN (k.drop 16)) = _
  rw [Nat.zero_add]
  exact leB_leN _ (by rw [List.length_drop, hk])
theorem polyA_zero (l : List UInt8) (n : Nat) : polyA 0 l n = 0 := by
  cases n with
  | zero => rfl
  | succ n => rw [polyA, Nat.mul_zero, Nat.zero_mod]
theorem tag_zero (k l : List UInt8) (hk : k.length = 32) (h : k.take 16 = List.replicate 16 0) : tagL k l = k.drop 16 := by
  rw [tagL_eq, tagN, h, show leN (clampL (List.replicate 16 0)) = 0 by decide, polyA_zero, Nat.zero_add]
  exact leB_leN _ (by rw [List.length_drop, hk])
theorem clampB_twice (i : Nat) (x : UInt8) : clampB i (clampB i x) = clampB i x := by
  unfold clampB
  by_cases h3 : i % 4 = 3
  · rw [if_pos h3, if_pos h3]
    apply UInt8.toNat.inj
    rw [UInt8.toNat_mod, UInt8.toNat_mod]
    show x.toNat % 16 % 16 = x.toNat % 16
    omega
  · rw [if_neg h3, if_neg h3]
    by_cases h0 : i % 4 = 0 ∧ 0 < i
    · rw [if_pos h0, if_pos h0]
      apply UInt8.toNat.inj
      have := x.toNat_lt
      simp only [UInt8.toNat_mul, UInt8.toNat_div]
      show (x.toNat / 4 * 4 % 256) / 4 * 4 % 256 = x.toNat / 4 * 4 % 256
      omega
    · rw [if_neg h0, if_neg h0]
theorem clampL_twice (l : List UInt8) : clampL (clampL l) = clampL l := by
  apply List.ext_getElem
  · simp [clampL]
  · intro i h1 h2
    simp only [clampL, List.getElem_mapIdx, clampB_twice]
theorem tag_clamped (k l : List UInt8) (hk : k.length = 32) : tagL (clampL (k.take 16) ++ k.drop 16) l = tagL k l := by
  have hl : (clampL (k.take 16)).length = 16 := by rw [clampL_length, List.length_take, hk]; rfl
  rw [tagL_eq, tagL_eq, tagN, tagN, List.take_append_of_le_length (by omega), List.take_of_length_le (by omega), clampL_twice, List.drop_append_of_le_length (by omega), List.drop_of_length_le (by omega), List.nil_append]

/-- r is 1, and two whole blocks. -/
theorem tag_two (s a b : List UInt8) (ha : a.length = 16) (hb : b.length = 16) :
    tagL ((1 :: List.replicate 15 0) ++ s) (a ++ b) = leB 16 ((leN a + leN b + 2 * q128) % pN + leN s) := by
  have e1 : ((1 :: List.replicate 15 (0 : UInt8)) ++ s).take 16 = 1 :: List.replicate 15 0 := by
    rw [List.take_append_of_le_length (by simp)]; rfl
  have e2 : ((1 :: List.replicate 15 (0 : UInt8)) ++ s).drop 16 = s := by
    rw [List.drop_append_of_le_length (by simp)]; rfl
  have e3 : ((a ++ b).length + 15) / 16 = 2 := by rw [List.length_append, ha, hb]
  rw [tagL_eq, tagN, e1, e2, e3, show leN (clampL (1 :: List.replicate 15 0)) = 1 by decide]
  have h0 : ((a ++ b).drop (16 * 0)).take 16 = a := by
    rw [Nat.mul_zero, List.drop_zero, List.take_append_of_le_length (by omega), List.take_of_length_le (by omega)]
  have h1 : ((a ++ b).drop (16 * 1)).take 16 = b := by
    rw [Nat.mul_one, List.drop_append_of_le_length (by omega), List.drop_of_length_le (by omega), List.nil_append, List.take_of_length_le (by omega)]
  rw [show (2 : Nat) = 1 + 1 from rfl, polyA, polyA, h1, show polyA 1 (a ++ b) 0 = 0 from rfl, h0, ha, hb, ← q128_eq, Nat.mul_one, Nat.mul_one, Nat.zero_add, Nat.mod_add_mod]
  rw [show leN a + q128 + (leN b + q128) = leN a + leN b + 2 * q128 by omega]
theorem tag_turned (s a b : List UInt8) (ha : a.length = 16) (hb : b.length = 16) :
    tagL ((1 :: List.replicate 15 0) ++ s) (a ++ b) = tagL ((1 :: List.replicate 15 0) ++ s) (b ++ a) := by
  rw [tag_two s a b ha hb, tag_two s b a hb ha, Nat.add_comm (leN a)]
theorem leN_top (l : List UInt8) (hl : l.length = 16) (h : at8 l 15 ≠ 255) : leN l < 255 * 256 ^ 15 := by
  have h1 : at8 l 15 < 256 := (l.getD 15 0).toNat_lt
  have h2 := pre_at8 l 16 (by omega)
  rw [pre] at h2
  have hp : ∀ n, pre (at8 l) n < 256 ^ n := by
    intro n
    induction n with
    | zero => simp [pre]
    | succ n ih =>
      have h3 : at8 l n < 256 := (l.getD n 0).toNat_lt
      have h4 : 256 ^ n * at8 l n ≤ 256 ^ n * 255 := Nat.mul_le_mul_left _ (by omega)
      rw [pre, Nat.pow_succ]
      omega
  have h3 := hp 15
  have h4 : 256 ^ 15 * at8 l 15 ≤ 256 ^ 15 * 254 := Nat.mul_le_mul_left _ (by omega)
  omega
theorem tag_sum (s a b : List UInt8) (ha : a.length = 16) (hb : b.length = 16) (h : ¬ (at8 a 15 = 255 ∧ at8 b 15 = 255)) :
    tagL ((1 :: List.replicate 15 0) ++ s) (a ++ b) = leB 16 (leN a + leN b + leN s) := by
  rw [tag_two s a b ha hb]
  apply leB_mod
  have h1 := leN_lt a
  have h2 := leN_lt b
  rw [ha] at h1
  rw [hb] at h2
  have h3 : (256 : Nat) ^ 16 = 340282366920938463463374607431768211456 := by decide
  have h4 : (256 : Nat) ^ 15 = 1329227995784915872903807060280344576 := by decide
  have h5 : leN a + leN b + 2 * q128 < pN := by
    have hp := pN_eq
    unfold q128
    by_cases h6 : at8 a 15 = 255
    · have := leN_top b hb (fun e => h ⟨h6, e⟩)
      omega
    · have := leN_top a ha h6
      omega
  rw [Nat.mod_eq_of_lt h5]
  unfold q128
  omega
/-- Two second halves. -/
theorem tag_shift (k s l : List UInt8) (hk : k.length = 32) :
    (leN (tagL k l) + leN s) % q128 = (leN (tagL (k.take 16 ++ s) l) + leN (k.drop 16)) % q128 := by
  have e1 : (k.take 16 ++ s).take 16 = k.take 16 := by
    rw [List.take_append_of_le_length (by rw [List.length_take, hk]; decide), List.take_of_length_le (by rw [List.length_take, hk]; decide)]
  have e2 : (k.take 16 ++ s).drop 16 = s := by
    rw [List.drop_append_of_le_length (by rw [List.length_take, hk]; decide), List.drop_of_length_le (by rw [List.length_take, hk]; decide), List.nil_append]
  rw [tagL_eq, tagL_eq, tagN, tagN, e1, e2, leN_leB, leN_leB]
  rw [Nat.mod_add_mod, Nat.mod_add_mod]
  congr 1
  omega
/-- So the digits of the two sums are the same. -/
theorem shift_digit (k s l : List UInt8) (hk : k.length = 32) (hs : s.length = 16) (i : Nat) (hi : i < 16) :
    let D := fun j => at8 (tagL k l) j + at8 s j
    let E := fun j => at8 (tagL (k.take 16 ++ s) l) j + at8 (k.drop 16) j
    (pre D i / 256 ^ i + D i) % 256 = (pre E i / 256 ^ i + E i) % 256 := by
  intro D E
  have h := tag_shift k s l hk
  have hD : pre D 16 = leN (tagL k l) + leN s := by
    show pre (fun j => at8 (tagL k l) j + at8 s j) 16 = _
    rw [pre_add, pre_at8 _ _ (by rw [tagL_length]; exact Nat.le_refl _), pre_at8 _ _ (by omega)]
  have hE : pre E 16 = leN (tagL (k.take 16 ++ s) l) + leN (k.drop 16) := by
    show pre (fun j => at8 (tagL (k.take 16 ++ s) l) j + at8 (k.drop 16) j) 16 = _
    rw [pre_add, pre_at8 _ _ (by rw [tagL_length]; exact Nat.le_refl _), pre_at8 _ _ (by rw [List.length_drop, hk]; decide)]
  rw [carry_digit D i 16 hi, carry_digit E i 16 hi, digit_mod _ i hi, hD, h, ← hE, ← digit_mod _ i hi]

end Go.Proofs.Ytagdileacidnjaa
