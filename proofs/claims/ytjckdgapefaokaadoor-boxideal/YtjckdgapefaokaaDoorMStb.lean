/- '[]byte(s)': a string's bytes, in memory of their own. No condition but those that each lemma names. -/
import Derived.Test.YtjckdgapefaokaaDoorDPut
import Derived.Test.YtjckdgapefaokaaDoorKEqual
import Derived.Laws.IdiomStrings
namespace Go.Proofs.YtjckdgapefaokaaDoor
open Go.RowKit

/-- '[]byte(s)'. -/
theorem str_bytes (w : World) (l : List UInt8) (hl : l.length ≤ maxLen) : ∃ cap W1, (convert 9 22 (.string (str l))).run Tryd.prog w = .ok (.slice (some ⟨w.heap.size, 0, none⟩) l.length cap) W1 ∧ Bts W1 (some ⟨w.heap.size, 0, none⟩) cap l ∧ w.grownBy W1 none := by
  have h := run_bytes_of_string (P := Tryd.prog) w 9 22 5 (str l) Tryd.underlying9 Tryd.underlying22 Tryd.underlying5
  rw [str_size] at h
  refine ⟨_, _, h, ?_, gb_alloc (gb_drew (gb_refl _ _)) _⟩
  refine ⟨(fun e => by cases e), grownCap_ge _ _ _ _, grownCap_le_maxLen _ _ _ _ hl, (fun ad e _ => by cases e; rfl), (fun ad e i hi => ?_)⟩
  cases e
  have hh : (w.drew.alloc (.cells (bytesRow (str l) (grownCap w l.length 0 5)) 5 ((bytesRow (str l) (grownCap w l.length 0 5)).size, (bytesRow (str l) (grownCap w l.length 0 5)).size + 1))).heap[w.heap.size]? = some (.cells (bytesRow (str l) (grownCap w l.length 0 5)) 5 ((bytesRow (str l) (grownCap w l.length 0 5)).size, (bytesRow (str l) (grownCap w l.length 0 5)).size + 1)) := heap_alloc_new w.drew _
  rw [show (⟨w.heap.size, 0, none⟩ : Addr).off + i = i from Nat.zero_add i, cell_of_row _ _ _ _ _ _ hh]
  unfold bytesRow
  rw [Array.getElem?_append_left (by simp [str]; exact hi)]
  simp [str, hi]

theorem str_typ (w : World) (l : List UInt8) (hl : l.length ≤ maxLen) : ∃ cap W1, (convert 9 22 (.string (str l))).run Tryd.prog w = .ok (.slice (some ⟨w.heap.size, 0, none⟩) l.length cap) W1 ∧ Bts W1 (some ⟨w.heap.size, 0, none⟩) cap l ∧ Typ W1 w.heap.size ∧ w.grownBy W1 none := by
  obtain ⟨cap, W1, h1, h2, h3⟩ := str_bytes w l hl
  refine ⟨cap, W1, h1, h2, ?_, h3⟩
  have h := run_bytes_of_string (P := Tryd.prog) w 9 22 5 (str l) Tryd.underlying9 Tryd.underlying22 Tryd.underlying5
  rw [h] at h1
  injection h1 with _ h4
  rw [← h4]
  exact ⟨_, _, heap_alloc_new w.drew _⟩

end Go.Proofs.YtjckdgapefaokaaDoor
