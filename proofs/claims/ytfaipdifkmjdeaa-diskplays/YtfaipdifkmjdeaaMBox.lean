/- Rows of so many cells each, in a row of the call's own. -/
import Derived.Test.YtfaipdifkmjdeaaMBlk
import Derived.Deep.MidRow
import Derived.Test.YtfaipdifkmjdeaaMApp
namespace Go.Proofs.Ytfaipdifkmjdeaa
open Go.RowKit

theorem flat_at {α : Type} (f : α → List Value) (k : Nat) (L : List α) (h : ∀ x ∈ L, (f x).length = k) (i j : Nat) (hi : i < L.length) (hj : j < k) : (L.flatMap f)[i * k + j]? = (f L[i])[j]? := by
  induction L generalizing i with
  | nil => simp at hi
  | cons x L ih =>
    have hx := h x (by simp)
    rw [List.flatMap_cons]
    cases i with
    | zero => rw [Nat.zero_mul, Nat.zero_add, List.getElem?_append_left (by omega)]; rfl
    | succ i =>
      rw [List.getElem?_append_right (by rw [hx, Nat.succ_mul]; omega), hx, show (i + 1) * k + j - k = i * k + j by rw [Nat.succ_mul]; omega]
      exact ih (fun y hy => h y (List.mem_cons_of_mem _ hy)) i (by simpa using hi)
theorem flat_len2 {α : Type} (f : α → List Value) (k : Nat) (L : List α) (h : ∀ x ∈ L, (f x).length = k) : (L.flatMap f).length = L.length * k := by
  induction L with
  | nil => simp
  | cons x L ih =>
    have hx := h x (by simp)
    rw [List.flatMap_cons, List.length_append, hx, ih (fun y hy => h y (List.mem_cons_of_mem _ hy)), List.length_cons, Nat.succ_mul]
    omega

/-- What the call itself has laid. -/
theorem own_rows {α : Type} (f : α → List Value) (k : Nat) {w : World} {base : Nat} {t : TypeId} {v : Value} {L : List α} (h : w.ownsRow base t k v L.length (L.flatMap f)) (hf : ∀ x ∈ L, (f x).length = k) :
    ∃ ao c, v = .slice ao L.length c ∧ (ao = none → L.length = 0 ∧ c = 0) ∧ L.length ≤ c ∧ c ≤ maxLen ∧ (∀ ad, ao = some ad → ad.spot = none ∧ base ≤ ad.block) ∧ ∀ ad, ao = some ad → ∀ i (h : i < L.length), w.rangeAt ad.block (ad.off + i * k) (f L[i]) := by
  rcases h.2 with ⟨rfl, h2⟩ | ⟨g, cap, cur, rfl, hg, hh, h3, h4, h5, h6⟩
  · have := List.eq_nil_of_length_eq_zero h2
    subst this
    exact ⟨none, 0, rfl, fun _ => ⟨rfl, rfl⟩, Nat.le_refl _, Nat.zero_le _, (fun _ e => by cases e), fun _ e => by cases e⟩
  · refine ⟨_, _, rfl, (fun e => by cases e), h3, h4, (fun ad e => by cases e; exact ⟨rfl, hg⟩), fun ad e i hi j v hv => ?_⟩
    cases e
    have hj : j < k := by rw [← hf L[i] (List.getElem_mem _)]; exact (List.getElem?_eq_some_iff.1 hv).1
    have h7 : (cur.toList.take (L.length * k))[i * k + j]? = (L.flatMap f)[i * k + j]? := by rw [h6]
    have h8 : (i + 1) * k ≤ L.length * k := Nat.mul_le_mul_right k hi
    rw [Nat.succ_mul] at h8
    rw [List.getElem?_take_of_lt (by omega), flat_at f k L hf i j hi hj, hv] at h7
    simp only [World.cell?, hh, Nat.zero_add]
    simpa using h7

end Go.Proofs.Ytfaipdifkmjdeaa

/- Blocks that a call has made, and rows of other than bytes. No condition but those that each lemma names. -/
namespace Go.Proofs.Ytfaipdifkmjdeaa
open Go.RowKit

theorem range_bts {w : World} {b o : Nat} {l : List UInt8} (h : w.rangeAt b o (l.map bv)) (hm : l.length ≤ maxLen) : Bts w (some ⟨b, o, none⟩) l.length l := by
  refine ⟨(fun e => by cases e), Nat.le_refl _, hm, (fun ad e _ => by cases e; rfl), (fun ad e i hi => ?_)⟩
  cases e
  exact h i _ (by simp [bv, hi])
/-- A row of other than bytes is no row of bytes. -/
theorem own_typ {w : World} {base n k x : Nat} {t : TypeId} {v : Value} {xs : List Value} (h : w.ownsRow base t k v n xs) (e : v.ownBlock = some x) (ht : t ≠ 5) : ¬ Typ w x := by
  rcases h.2 with ⟨rfl, _⟩ | ⟨g, cap, cur, rfl, _, hh, _⟩
  · cases e
  · have : g = x := by simpa [Value.ownBlock] using e
    subst this
    rintro ⟨cur2, m2, h2⟩
    rw [hh] at h2
    injection h2 with h3
    injection h3 with _ h4
    exact ht h4
/-- A block that is made, and written whole. -/
theorem row_new (w : World) (t : TypeId) (Z : Array Value) (cs : List Value) : ∃ W, W = (w.alloc (.cells Z t)).setRow w.heap.size cs.toArray ∧ Blk W w.heap.size t cs ∧ w.grownBy W none :=
  ⟨_, rfl, by
    have h : Blk (w.alloc (.cells Z t)) w.heap.size t Z.toList := by simpa using Blk.new w t Z.toList
    exact h.row cs, gb_row (gb_alloc (gb_refl _ _) _) _ (Or.inl (Nat.le_refl _))⟩
theorem box_new (w : World) (t : TypeId) (cs : List Value) : ∃ W, W = w.alloc (.cells cs.toArray t) ∧ Blk W w.heap.size t cs ∧ w.grownBy W none :=
  ⟨_, rfl, Blk.new w t cs, gb_alloc (gb_refl _ _) _⟩
theorem blk_all {w : World} {b : Nat} {t : TypeId} {vs : List Value} (h : Blk w b t vs) : w.rangeAt b 0 vs := by
  have : Blk w b t ([] ++ (vs ++ [])) := by simpa using h
  exact this.range

theorem blk_nq {w : World} {b c : Nat} {t t' : TypeId} {x y : List Value} (h : Blk w b t x) (k : Blk w c t' y) (ht : t ≠ t') : b ≠ c := by
  rintro rfl
  unfold Blk at h k
  rw [h] at k
  injection k with k
  injection k with _ k
  exact ht k
/-- A row of the call's own lies apart from a block of another type. -/
theorem own_apart_t {w : World} {base k n b : Nat} {t t' : TypeId} {v : Value} {xs cs : List Value} (h : w.ownsRow base t k v n xs) (hb : Blk w b t' cs) (ht : t ≠ t') : some b ≠ v.ownBlock := by
  rcases h.2 with ⟨rfl, _⟩ | ⟨g, cap, cur, rfl, _, hh, _⟩
  · intro e; cases e
  · intro e
    have : b = g := by simpa [Value.ownBlock] using e
    subst this
    unfold Blk at hb
    rw [hh] at hb
    injection hb with hb
    injection hb with _ hb
    exact ht hb
/-- Two rows of unlike types. -/
theorem own_apart_2 {w : World} {base k n base' k' n' : Nat} {t t' : TypeId} {v v' : Value} {xs xs' : List Value} (h : w.ownsRow base t k v n xs) (h' : w.ownsRow base' t' k' v' n' xs') (ht : t ≠ t') : v.ownBlock = Option.none ∨ v.ownBlock ≠ v'.ownBlock := by
  rcases h.2 with ⟨rfl, _⟩ | ⟨g, cap, cur, rfl, _, hh, _⟩
  · exact Or.inl rfl
  · rcases h'.2 with ⟨rfl, _⟩ | ⟨g', cap', cur', rfl, _, hh', _⟩
    · exact Or.inr (by simp [Value.ownBlock])
    · refine Or.inr fun e => ?_
      have : g = g' := by simpa [Value.ownBlock] using e
      subst this
      rw [hh] at hh'
      injection hh' with e1
      injection e1 with _ e2
      exact ht e2

end Go.Proofs.Ytfaipdifkmjdeaa
