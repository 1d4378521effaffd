/- A reader behind a pointer, in words of our own; and that such words outlast what a call adds to memory. No condition but those that each lemma names. -/
import Derived.Test.YtadkpkdojbhigaaMLst
namespace Go.Proofs.Ytadkpkdojbhigaa
open Go.RowKit
/-- A reader's two cells. -/
def RdAt (w : World) (rb : Nat) (v : Value) (e : Int) : Prop := w.heap[rb]? = some (.cells #[v, .int .i64 e] 62 (0, 0))

theorem RdAt.c0 {w : World} {rb : Nat} {v : Value} {e : Int} (h : RdAt w rb v e) : w.cell? ⟨rb, 0, none⟩ = some v := by
  unfold RdAt at h; simp [World.cell?, h]
theorem RdAt.c1 {w : World} {rb : Nat} {v : Value} {e : Int} (h : RdAt w rb v e) : w.cell? ⟨rb, 1, none⟩ = some (.int .i64 e) := by
  unfold RdAt at h; simp [World.cell?, h]
theorem RdAt.fz {w : World} {rb : Nat} {v : Value} {e : Int} (h : RdAt w rb v e) (o : Nat) : w.frozen? ⟨rb, o, none⟩ = false := by
  unfold RdAt at h; simp [World.frozen?, h]
theorem RdAt.lt {w : World} {rb : Nat} {v : Value} {e : Int} (h : RdAt w rb v e) : rb < w.heap.size := (Array.getElem?_eq_some_iff.1 h).1
theorem RdAt.set0 {w : World} {rb : Nat} {v : Value} {e : Int} (h : RdAt w rb v e) (u : Value) : RdAt (w.setCell ⟨rb, 0, none⟩ u) rb u e := by
  unfold RdAt at h ⊢; simp [World.setCell, Array.getElem?_modify, h]
theorem RdAt.set1 {w : World} {rb : Nat} {v : Value} {e : Int} (h : RdAt w rb v e) (k : Int) : RdAt (w.setCell ⟨rb, 1, none⟩ (.int .i64 k)) rb v k := by
  unfold RdAt at h ⊢; simp [World.setCell, Array.getElem?_modify, h]
theorem RdAt.kept {w a : World} {rb : Nat} {v : Value} {e : Int} {r : Option Nat} (h : RdAt w rb v e) (g : w.grownBy a r) (hr : some rb ≠ r) : RdAt a rb v e := by
  unfold RdAt; rw [g.block rb h.lt hr]; exact h
theorem RdAt.alloc {w : World} {rb : Nat} {v : Value} {e : Int} (h : RdAt w rb v e) (o : Obj) : RdAt (w.alloc o) rb v e := h.kept (World.grownBy_alloc w o none) (by simp)

/-- The reader at block rb has the bytes l left, and e is wrong. -/
def Rd (w : World) (rb : Nat) (l : List UInt8) (e : Int) : Prop := ∃ ao c, RdAt w rb (.slice ao l.length c) e ∧ Bts w ao c l ∧ Inb w ao rb

theorem Rd.lt {w : World} {rb : Nat} {l : List UInt8} {e : Int} (h : Rd w rb l e) : rb < w.heap.size := by
  obtain ⟨ao, c, h1, _⟩ := h
  exact h1.lt

theorem Rd.keptTyp {w a : World} {rb : Nat} {l : List UInt8} {e : Int} {s : Option Nat} (h : Rd w rb l e) (g : w.grownBy a s) (hs : ∀ x, s = some x → x ≠ rb ∧ ¬ Typ w x) : Rd a rb l e := by
  obtain ⟨ao, c, h1, h2, h3⟩ := h
  refine ⟨ao, c, h1.kept g ?_, h2.kept g ?_, h3.kept g ?_⟩
  · intro e; exact (hs rb e.symm).1 rfl
  · intro x e; exact h3.off_typ (hs x e).2
  · intro x e; exact h3.off_typ (hs x e).2

theorem Rd.kept {w a : World} {rb : Nat} {l : List UInt8} {e : Int} {s : Option Nat} (h : Rd w rb l e) (g : w.grownBy a s) (hs : s = none ∨ ∃ x, s = some x ∧ w.heap.size ≤ x) : Rd a rb l e := by
  have hlt := h.lt
  refine h.keptTyp g ?_
  rcases hs with rfl | ⟨x, rfl, hx⟩
  · intro x e; cases e
  · intro y e; cases e; exact ⟨by omega, typ_new hx⟩

theorem Rd.failed {w : World} {rb : Nat} {v : Value} {e : Int} (h : RdAt w rb v e) (k : Int) : Rd ((w.setCell ⟨rb, 1, none⟩ (.int .i64 k)).setCell ⟨rb, 0, none⟩ (.slice none 0 0)) rb [] k :=
  ⟨none, 0, (h.set1 k).set0 _, Bts.nil _, fun _ e => by cases e⟩

theorem gb_failed (w : World) (rb : Nat) (k : Int) : w.grownBy ((w.setCell ⟨rb, 1, none⟩ (.int .i64 k)).setCell ⟨rb, 0, none⟩ (.slice none 0 0)) (some rb) :=
  gb_setCell (gb_set w rb 1 (.int .i64 k)) ⟨rb, 0, none⟩ _ (Or.inr rfl)

/-- A reader that has read k bytes. -/
theorem Rd.read {w : World} {rb : Nat} {ao : Option Addr} {c k : Nat} {l : List UInt8} {e : Int} (h1 : RdAt w rb (.slice ao l.length c) e) (h2 : Bts w ao c l) (h3 : Inb w ao rb) (hk : k ≤ l.length) :
    Rd (w.setCell ⟨rb, 0, none⟩ (.slice (cutA ao c k) (l.length - k) (c - k))) rb (l.drop k) e := by
  have g := gb_set w rb 0 (.slice (cutA ao c k) (l.length - k) (c - k))
  refine ⟨cutA ao c k, c - k, ?_, (h2.drop k hk).kept g ?_, (cutA_inb h3).kept g ?_⟩
  · rw [List.length_drop]; exact h1.set0 _
  · intro x e; cases e; exact cutA_off h3.off
  · intro x e; cases e; exact cutA_off h3.off

end Go.Proofs.Ytadkpkdojbhigaa
