/- Texts padded, and in parts, as plain functions of lists. No condition but those that each lemma names. -/
import Derived.Test.YtadkpkdojbhigaaDSized
namespace Go.Proofs.Ytadkpkdojbhigaa
open Go.RowKit

/-- How many bytes a text of n has, padded. -/
def pdN (n : Nat) : Nat := (n + 259) / 256 * 256
/-- .. of any number. -/
def pdI (n : Int) : Int := if n < 0 ∨ 4194304 < n then 0 else (pdN n.toNat : Nat)
/-- In how many parts. -/
def cnI (n : Int) : Int := (pdI n + 2047) / 2048
/-- A text, padded. -/
def padL (l : List UInt8) : List UInt8 := layS l ++ List.replicate (pdN l.length - (4 + l.length)) 0
/-- The number that stands ahead. -/
def tolN (b : List UInt8) : Nat := if b.length < 4 then 0 else be (b.take 4)
/-- The text that was padded, if there is one. -/
def unpL (b : List UInt8) : Option (List UInt8) :=
  if (b.length : Int) = pdI (tolN b) ∧ ((b.drop 4).drop (tolN b)).all (· == 0) = true then some ((b.drop 4).take (tolN b)) else none

theorem pdN_mod (n : Nat) : pdN n % 256 = 0 := by unfold pdN; omega
theorem pdN_le (n : Nat) : n + 4 ≤ pdN n := by unfold pdN; omega
theorem pdN_lt (n : Nat) : pdN n < n + 260 := by unfold pdN; omega
theorem pdN_mono {n m : Nat} (h : n ≤ m) : pdN n ≤ pdN m := by unfold pdN; omega
theorem pdI_nat (n : Nat) (h : n ≤ 4194304) : pdI n = (pdN n : Nat) := by
  unfold pdI
  rw [if_neg (by omega)]
  simp
theorem pdI_ge (n : Int) : 0 ≤ pdI n := by unfold pdI; split <;> omega
theorem pdI_le (n : Int) : pdI n ≤ 4194560 := by
  unfold pdI
  split
  · omega
  · have := pdN_lt n.toNat
    unfold pdN at *
    omega
theorem padL_length (l : List UInt8) : (padL l).length = pdN l.length := by
  have := pdN_le l.length
  simp [padL, layS_length]
  omega

theorem tolN_lt (b : List UInt8) : tolN b < 4294967296 := by
  unfold tolN
  split
  · omega
  · have := be_lt (b.take 4)
    have h4 : (b.take 4).length = 4 := by simp; omega
    rw [h4] at this
    omega

theorem lb_snoc (v n : Nat) : lb v (n + 1) = lb (v / 256) n ++ [UInt8.ofNat v] := by
  unfold lb
  rw [List.range_succ, List.map_append, List.map_singleton]
  congr 1
  · apply List.map_congr_left
    intro i hi
    have hi := List.mem_range.1 hi
    congr 1
    rw [show n + 1 - 1 - i = (n - 1 - i) + 1 from by omega, Nat.pow_succ, Nat.mul_comm, Nat.div_div_eq_div_mul]
  · simp

theorem be_lb (n : Nat) : ∀ v, be (lb v n) = v % 256 ^ n := by
  induction n with
  | zero => intro v; simp [lb, be]; omega
  | succ n ih =>
    intro v
    rw [lb_snoc, be_snoc, ih]
    have h : (UInt8.ofNat v).toNat = v % 256 := by simp
    rw [h, Nat.pow_succ, Nat.mul_comm (256 ^ n) 256, Nat.mod_mul]
    omega

theorem lb_be : ∀ (n : Nat) (l : List UInt8), l.length = n → lb (be l) n = l := by
  intro n
  induction n with
  | zero => intro l h; rw [List.eq_nil_of_length_eq_zero h]; simp [lb]
  | succ n ih =>
    intro l h
    obtain ⟨x, t, rfl⟩ : ∃ x t, l = t ++ [x] := ⟨l.getLast (by intro e; simp [e] at h), l.dropLast, (List.dropLast_concat_getLast _).symm⟩
    have ht : t.length = n := by simpa using h
    have hx := x.toNat_lt
    rw [lb_snoc, be_snoc, show (be t * 256 + x.toNat) / 256 = be t from by omega, ih t ht]
    congr 2
    apply UInt8.toNat_inj.1
    simp

theorem tolN_pad (l m : List UInt8) (h : l.length < 4294967296) : tolN (layS l ++ m) = l.length := by
  unfold tolN layS
  rw [if_neg (by simp [lb_len]), List.append_assoc, List.take_append_of_le_length (by rw [lb_len]; omega), List.take_of_length_le (by rw [lb_len]; omega), be_lb]
  omega

theorem drop4_pad (l m : List UInt8) : (layS l ++ m).drop 4 = l ++ m := by
  unfold layS
  rw [List.append_assoc, List.drop_append_of_le_length (by rw [lb_len]; omega), List.drop_of_length_le (by rw [lb_len]; omega), List.nil_append]

theorem all_zero (l : List UInt8) (h : l.all (· == 0) = true) : l = List.replicate l.length 0 := by
  apply List.eq_replicate_iff.2
  refine ⟨rfl, fun x hx => ?_⟩
  have := List.all_eq_true.1 h x hx
  simpa using this

theorem unp_pad (l : List UInt8) (h : l.length ≤ 4194304) : unpL (padL l) = some l := by
  unfold unpL
  have e1 : tolN (padL l) = l.length := tolN_pad l _ (by omega)
  have e2 : (padL l).drop 4 = l ++ List.replicate (pdN l.length - (4 + l.length)) 0 := drop4_pad l _
  rw [e1, e2, if_pos ⟨by rw [padL_length, pdI_nat _ h], by simp⟩]
  simp

/-- What is unpadded, padded, is it. -/
theorem pad_unp (b l : List UInt8) (h : unpL b = some l) : l.length ≤ 4194304 ∧ padL l = b ∧ l.length = tolN b ∧ 4 + l.length ≤ b.length := by
  unfold unpL at h
  split at h
  next hc =>
    obtain ⟨h1, h2⟩ := hc
    have hn : tolN b ≤ 4194304 := by
      apply Decidable.byContradiction
      intro hn
      unfold pdI at h1
      rw [if_pos (Or.inr (by omega))] at h1
      have h0 : b.length < 4 := by omega
      unfold tolN at hn
      rw [if_pos h0] at hn
      omega
    rw [pdI_nat _ hn] at h1
    have h3 := pdN_le (tolN b)
    have hl : l = (b.drop 4).take (tolN b) := by injection h with h; exact h.symm
    have hll : l.length = tolN b := by rw [hl]; simp; omega
    have hb4 : ¬ b.length < 4 := by omega
    have htk : lb (tolN b) 4 = b.take 4 := by
      unfold tolN
      rw [if_neg hb4]
      exact lb_be 4 _ (by simp; omega)
    refine ⟨by omega, ?_, hll, by omega⟩
    unfold padL layS
    rw [hll, htk]
    have hz := all_zero _ h2
    rw [show ((b.drop 4).drop (tolN b)).length = pdN (tolN b) - (4 + tolN b) from by simp; omega] at hz
    rw [← hz, hl, List.append_assoc, List.take_append_drop, List.take_append_drop]
  next => cases h

/-- What the document asks of bytes that are a text's. -/
theorem unp_doc (b : List UInt8) : unpL b = if b.length < 4 ∨ 4194304 < tolN b ∨ b.length - 4 < tolN b then none else if padL ((b.drop 4).take (tolN b)) = b then some ((b.drop 4).take (tolN b)) else none := by
  by_cases hc : b.length < 4 ∨ 4194304 < tolN b ∨ b.length - 4 < tolN b
  · rw [if_pos hc]
    cases hu : unpL b with
    | none => rfl
    | some l =>
      obtain ⟨h1, h2, h3, h4⟩ := pad_unp b l hu
      omega
  · rw [if_neg hc]
    have hlen : ((b.drop 4).take (tolN b)).length = tolN b := by simp; omega
    by_cases hp : padL ((b.drop 4).take (tolN b)) = b
    · rw [if_pos hp]
      have := unp_pad ((b.drop 4).take (tolN b)) (by omega)
      rw [hp] at this
      exact this
    · rw [if_neg hp]
      cases hu : unpL b with
      | none => rfl
      | some l =>
        obtain ⟨h1, h2, h3, h4⟩ := pad_unp b l hu
        unfold unpL at hu
        split at hu
        · injection hu with hu
          rw [hu] at hp
          exact absurd h2 hp
        · cases hu

/-- With a byte more it is none's. -/
theorem unp_more (l : List UInt8) : unpL (padL l ++ [0]) = none := by
  cases hu : unpL (padL l ++ [0]) with
  | none => rfl
  | some m =>
    obtain ⟨h1, h2, h3, h4⟩ := pad_unp _ _ hu
    have e := congrArg List.length h2
    rw [padL_length, List.length_append, padL_length] at e
    have := pdN_mod m.length
    have := pdN_mod l.length
    simp at e
    omega

end Go.Proofs.Ytadkpkdojbhigaa
