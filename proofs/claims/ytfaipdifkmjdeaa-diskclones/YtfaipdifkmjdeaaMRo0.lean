/- Rows of so many cells each, in a row of the call's own. -/
import Derived.Test.YtfaipdifkmjdeaaMBlk
import Derived.Deep.MidRow
namespace Go.Proofs.Ytfaipdifkmjdeaa
open Go.RowKit

theorem flat_at {α : Type} (f : α → List Value) (k : Nat) (L : List α) (h : ∀ x ∈ L, (f x).length = k) (i j : Nat) (hi : i < L.length) (hj : j < k) : (L.flatMap f)[i * k + j]? = (f L[i])[j]? := by
  induction L generalizing i with
  | nil => simp at hi
  | cons x L ih =>
    have hx := h x (by simp)
    rw [List.flatMap_cons]
    cases i with
    | zero => rw [Nat.zero_mul, Nat.zero_add, List.getElem?_append_left (by omega)]; rfl
    | succ i =>
      rw [List.getElem?_append_right (by rw [hx, Nat.succ_mul]; omega), hx, show (i + 1) * k + j - k = i * k + j by rw [Nat.succ_mul]; omega]
      exact ih (fun y hy => h y (List.mem_cons_of_mem _ hy)) i (by simpa using hi)
theorem flat_len2 {α : Type} (f : α → List Value) (k : Nat) (L : List α) (h : ∀ x ∈ L, (f x).length = k) : (L.flatMap f).length = L.length * k := by
  induction L with
  | nil => simp
  | cons x L ih =>
    have hx := h x (by simp)
    rw [List.flatMap_cons, List.length_append, hx, ih (fun y hy => h y (List.mem_cons_of_mem _ hy)), List.length_cons, Nat.succ_mul]
    omega

/-- What the call itself has laid. -/
theorem own_rows {α : Type} (f : α → List Value) (k : Nat) {w : World} {base : Nat} {t : TypeId} {v : Value} {L : List α} (h : w.ownsRow base t k v L.length (L.flatMap f)) (hf : ∀ x ∈ L, (f x).length = k) :
    ∃ ao c, v = .slice ao L.length c ∧ (ao = none → L.length = 0 ∧ c = 0) ∧ L.length ≤ c ∧ c ≤ maxLen ∧ (∀ ad, ao = some ad → ad.spot = none ∧ base ≤ ad.block) ∧ ∀ ad, ao = some ad → ∀ i (h : i < L.length), w.rangeAt ad.block (ad.off + i * k) (f L[i]) := by
  rcases h.2 with ⟨rfl, h2⟩ | ⟨g, cap, cur, rfl, hg, hh, h3, h4, h5, h6⟩
  · have := List.eq_nil_of_length_eq_zero h2
    subst this
    exact ⟨none, 0, rfl, fun _ => ⟨rfl, rfl⟩, Nat.le_refl _, Nat.zero_le _, (fun _ e => by cases e), fun _ e => by cases e⟩
  · refine ⟨_, _, rfl, (fun e => by cases e), h3, h4, (fun ad e => by cases e; exact ⟨rfl, hg⟩), fun ad e i hi j v hv => ?_⟩
    cases e
    have hj : j < k := by rw [← hf L[i] (List.getElem_mem _)]; exact (List.getElem?_eq_some_iff.1 hv).1
    have h7 : (cur.toList.take (L.length * k))[i * k + j]? = (L.flatMap f)[i * k + j]? := by rw [h6]
    have h8 : (i + 1) * k ≤ L.length * k := Nat.mul_le_mul_right k hi
    rw [Nat.succ_mul] at h8
    rw [List.getElem?_take_of_lt (by omega), flat_at f k L hf i j hi hj, hv] at h7
    simp only [World.cell?, hh, Nat.zero_add]
    simpa using h7

end Go.Proofs.Ytfaipdifkmjdeaa
