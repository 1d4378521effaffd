/- Which of two names is first: what names.Less and the document's Less (package coffretref09) answer, and what is true of that order. No condition but those that each lemma names. -/
import Derived.Test.YtlifmipnoeioaaaGreatDoorMBlk
import Derived.Test.YtlifmipnoeioaaaGreatDoorMCpy
import Derived.BigQuiet
import Derived.Deep.QuietTactic
namespace Go.Proofs.YtlifmipnoeioaaaGreatDoor
open Go.RowKit

/-- The first of two lists of bytes. -/
def lessL (a b : List UInt8) : Bool := Op.bytesLess a b

theorem lessL_nil (a : List UInt8) : lessL a [] = false := by cases a <;> rfl
theorem lessL_nil_cons (c : UInt8) (r : List UInt8) : lessL [] (c :: r) = true := rfl
theorem lessL_cons (x y : UInt8) (a b : List UInt8) : lessL (x :: a) (y :: b) = (decide (x < y) || (x == y && lessL a b)) := rfl
theorem lessL_irr (a : List UInt8) : lessL a a = false := by
  induction a with
  | nil => rfl
  | cons x r ih => rw [lessL_cons, ih]; simp [UInt8.lt_irrefl]
theorem lessL_asymm (a : List UInt8) : ∀ b, lessL a b = true → lessL b a = false := by
  induction a with
  | nil => intro b _; exact lessL_nil b
  | cons x r ih =>
    intro b h
    cases b with
    | nil => rw [lessL_nil] at h; cases h
    | cons y s =>
      rw [lessL_cons] at h ⊢
      simp only [Bool.or_eq_true, decide_eq_true_eq, Bool.and_eq_true, beq_iff_eq] at h
      rcases h with h | ⟨rfl, h⟩
      · have h1 : ¬ y < x := by rw [UInt8.lt_iff_toNat_lt] at h ⊢; omega
        have h2 : ¬ y = x := fun e => by subst e; exact UInt8.lt_irrefl _ h
        simp [h1, h2]
      · rw [ih s h]; simp [UInt8.lt_irrefl]
theorem lessL_total (a : List UInt8) : ∀ b, lessL a b = false → lessL b a = false → a = b := by
  induction a with
  | nil =>
    intro b h _
    cases b with
    | nil => rfl
    | cons y s => cases h
  | cons x r ih =>
    intro b h k
    cases b with
    | nil => cases k
    | cons y s =>
      rw [lessL_cons] at h k
      simp only [Bool.or_eq_false_iff, decide_eq_false_iff_not] at h k
      have e : x = y := by
        apply UInt8.toNat_inj.1
        have h1 := h.1; have k1 := k.1
        rw [UInt8.lt_iff_toNat_lt] at h1 k1
        omega
      subst e
      simp at h k
      rw [ih s h k]
theorem lessL_trans (a : List UInt8) : ∀ b c, lessL a b = true → lessL b c = true → lessL a c = true := by
  induction a with
  | nil =>
    intro b c h k
    cases c with
    | nil => rw [lessL_nil] at k; cases k
    | cons z t => rfl
  | cons x r ih =>
    intro b c h k
    cases b with
    | nil => rw [lessL_nil] at h; cases h
    | cons y s =>
      cases c with
      | nil => rw [lessL_nil] at k; cases k
      | cons z t =>
        rw [lessL_cons] at h k ⊢
        simp only [Bool.or_eq_true, decide_eq_true_eq, Bool.and_eq_true, beq_iff_eq] at h k ⊢
        simp only [UInt8.lt_iff_toNat_lt] at h k ⊢
        rcases h with h | ⟨rfl, h⟩
        · rcases k with k | ⟨rfl, k⟩
          · left; omega
          · left; exact h
        · rcases k with k | ⟨rfl, k⟩
          · left; exact k
          · right; exact ⟨rfl, ih s t h k⟩
theorem lessL_ahead (m a b : List UInt8) : lessL (m ++ a) (m ++ b) = lessL a b := by
  induction m with
  | nil => rfl
  | cons x r ih => rw [List.cons_append, List.cons_append, lessL_cons, ih]; simp [UInt8.lt_irrefl]
theorem lessL_more (a m : List UInt8) : lessL a (a ++ m) = !(m == []) := by
  conv => lhs; arg 1; rw [← List.append_nil a]
  rw [lessL_ahead]
  cases m <;> rfl
theorem lessL_ne (a b : List UInt8) : (lessL a b || lessL b a) = !(a == b) := by
  by_cases h : a = b
  · subst h; simp [lessL_irr]
  · have : (a == b) = false := by simpa using h
    rw [this]
    cases h1 : lessL a b with
    | true => rfl
    | false =>
      cases h2 : lessL b a with
      | true => rfl
      | false => exact absurd (lessL_total a b h1 h2) h
theorem lessL_drop (a b : List UInt8) (i : Nat) (ha : i < a.length) (hb : i < b.length) : lessL (a.drop i) (b.drop i) = (decide (a[i] < b[i]) || (a[i] == b[i] && lessL (a.drop (i + 1)) (b.drop (i + 1)))) := by
  rw [List.drop_eq_getElem_cons ha, List.drop_eq_getElem_cons hb, lessL_cons]
theorem lessL_end (a b : List UInt8) (i : Nat) (h : ¬ i < a.length ∨ ¬ i < b.length) (ha : i ≤ a.length) (hb : i ≤ b.length) : lessL (a.drop i) (b.drop i) = decide (a.length < b.length) := by
  by_cases hbl : i < b.length
  · have hal : ¬ i < a.length := by omega
    rw [List.drop_eq_nil_of_le (by omega : a.length ≤ i), List.drop_eq_getElem_cons hbl, lessL_nil_cons]
    simp; omega
  · rw [List.drop_eq_nil_of_le (by omega : b.length ≤ i), lessL_nil]
    simp; omega

theorem nless_any (w : World) (a b : List UInt8) : Calls Tryz.prog 93 #[.string (str a), .string (str b)] w fun e w' => e = .returned (.bool (lessL a b)) ∧ w' = w := by
  go_enter Tryz.func93, Tryz.ntmps93
  go_wp2
  go_ret
  exact ⟨by rw [str_list, str_list]; rfl, rfl⟩

end Go.Proofs.YtlifmipnoeioaaaGreatDoor
