/- Rows of the call's own: from an earlier base on, and read. -/
import Derived.Test.YtfaipdifkmjdeaaMApp
import Derived.Test.YtfaipdifkmjdeaaMBlk
namespace Go.Proofs.Ytfaipdifkmjdeaa
open Go.RowKit

theorem own_low {w : World} {b1 b2 k n : Nat} {t : TypeId} {v : Value} {xs : List Value} (h : w.ownsRow b1 t k v n xs) (hb : b2 ≤ b1) : w.ownsRow b2 t k v n xs := by
  refine ⟨h.1, ?_⟩
  rcases h.2 with h1 | ⟨g, cap, cur, h1, h2, h3⟩
  · exact Or.inl h1
  · exact Or.inr ⟨g, cap, cur, h1, Nat.le_trans hb h2, h3⟩
/-- A row of bytes of the call's own, to be read. -/
theorem own_read {w : World} {base n : Nat} {v : Value} {l : List UInt8} (h : w.ownsRow base 5 1 v n (l.map bv)) : n = l.length ∧ ∃ ao c, v = .slice ao n c ∧ Bts w ao c l ∧ ∀ ad, ao = some ad → base ≤ ad.block ∧ Typ w ad.block := by
  have hn : n = l.length := by have := h.1; simpa using this.symm
  refine ⟨hn, ?_⟩
  rcases h.2 with ⟨rfl, h2⟩ | ⟨g, cap, cur, rfl, hg, hh, _⟩
  · have : l = [] := List.eq_nil_of_length_eq_zero (by omega)
    subst this
    exact ⟨none, 0, by rw [hn]; rfl, Bts.nil _, fun _ e => by cases e⟩
  · obtain ⟨_, h3, h4⟩ := Bts.own h
    exact ⟨_, _, rfl, h4, fun ad e => by cases e; exact ⟨h3, ⟨cur, _, hh⟩⟩⟩

theorem own_set {w : World} {base n cap g : Nat} {xs : List Value} (h : w.ownsRow base 5 1 (.slice (some ⟨g, 0, none⟩) n cap) n xs) (k : Nat) (v : Value) :
    (w.setCell ⟨g, k, none⟩ v).ownsRow base 5 1 (.slice (some ⟨g, 0, none⟩) n cap) n (xs.set k v) := by
  obtain ⟨h1, h2⟩ := h
  refine ⟨by rw [List.length_set]; exact h1, ?_⟩
  rcases h2 with ⟨h2, _⟩ | ⟨g', cap', cur, hv, hg, hh, h3, h4, h5, h6⟩
  · cases h2
  · cases hv
    refine Or.inr ⟨g, cap, cur.setIfInBounds k v, rfl, hg, ?_, h3, h4, by simpa using h5, ?_⟩
    · simp [World.setCell, Array.getElem?_modify, hh]
    · rw [← h6, Array.toList_setIfInBounds, List.take_set]

theorem own_there {w : World} {base n cap g : Nat} {xs : List Value} (h : w.ownsRow base 5 1 (.slice (some ⟨g, 0, none⟩) n cap) n xs) (k : Nat) (v : Value) (hk : xs[k]? = some v) : w.cell? ⟨g, k, none⟩ = some v ∧ w.frozen? ⟨g, k, none⟩ = false := by
  obtain ⟨h1, h2⟩ := h
  rcases h2 with ⟨h2, _⟩ | ⟨g', cap', cur, hv, hg, hh, h3, h4, h5, h6⟩
  · cases h2
  · cases hv
    refine ⟨?_, by simp [World.frozen?, hh]⟩
    rw [cell_of_row w g k _ _ _ hh]
    rw [← h6] at hk
    rw [List.getElem?_take] at hk
    split at hk
    · simpa using hk
    · cases hk

end Go.Proofs.Ytfaipdifkmjdeaa

/- A copy of bytes into a block. No condition but those that each lemma names. -/
namespace Go.Proofs.Ytfaipdifkmjdeaa
open Go.RowKit

theorem size_row : (Try.prog.info? 5).map (·.size) = some 1 := by kernel_rfl

theorem copy_bts (w : World) (b o dl dc : Nat) (ao : Option Addr) (c : Nat) (x : List UInt8) (hx : Bts w ao c x) (hth : w.there b o (min x.length dl)) :
    (Builtin.copy_ #[33, 33] 3 #[.slice (some ⟨b, o, none⟩) dl dc, .slice ao x.length c]).run Try.prog w = .ok (goInt ((min x.length dl : Nat) : Int)) (w.setCells b o ((x.take (min x.length dl)).map bv)) := by
  cases ao with
  | none =>
    have h0 := hx.zip rfl
    have : x = [] := List.eq_nil_of_length_eq_zero h0.1
    subst this
    rw [run_copy_none w _ _ _ 5 _ _ _ _ _ _ Try.underlying33 size_row (by simp)]
    simp [World.setCells]
  | some ad =>
    have hl : ((x.take (min x.length dl)).map bv).length = min x.length dl := by simp
    have := run_copy_cells (P := Try.prog) w 33 33 3 5 b o dl dc ad x.length c ((x.take (min x.length dl)).map bv) Try.underlying33 size_row hl ((hx.take _ (by omega)).news ad rfl) (fun j hj => (hth j (by rw [hl] at hj; exact hj)).1) (fun j hj => (hth j (by rw [hl] at hj; exact hj)).2) (bv_one _)
    rw [hl] at this
    exact this

theorem fill_zero (x : List UInt8) (n : Nat) (h : x.length ≤ n) : (List.replicate n (0 : UInt8)).map bv = ([] : List Value) ++ ((List.replicate x.length (0 : UInt8)).map bv ++ (List.replicate (n - x.length) (0 : UInt8)).map bv) := by
  rw [List.nil_append, ← List.map_append, List.replicate_append_replicate, Nat.add_sub_cancel' h]

/-- Zeros, of which the first are written over. -/
theorem Blk.filled {w : World} {b : Nat} {t : TypeId} {n : Nat} (h : Blk w b t ((List.replicate n (0 : UInt8)).map bv)) (x : List UInt8) (hx : x.length ≤ n) : Blk (w.setCells b 0 (x.map bv)) b t ((x ++ List.replicate (n - x.length) 0).map bv) := by
  rw [fill_zero x n hx] at h
  have := Blk.setCells (x.map bv) _ h (by simp)
  simpa using this

end Go.Proofs.Ytfaipdifkmjdeaa
