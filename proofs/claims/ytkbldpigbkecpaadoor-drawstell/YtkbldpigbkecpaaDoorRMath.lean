/- The words that a block's turns take, by their places; and a string's byte by its place. No condition but those that each lemma names. -/
import Derived.Test.YtkbldpigbkecpaaDoorRSha
import Derived.Test.YtkbldpigbkecpaaDoorSTaken
namespace Go.Proofs.YtkbldpigbkecpaaDoor
open Go.RowKit

theorem sched_take (l : List W) (n m : Nat) : (sched l (n + m)).take (l.length + n) = sched l n := by
  induction m with
  | zero => rw [Nat.add_zero, List.take_of_length_le (by rw [sched_length]; exact Nat.le_refl _)]
  | succ m ih =>
    rw [← Nat.add_assoc, sched, List.take_append_of_le_length (by rw [sched_length]; omega), ih]

theorem spread_take (l : List UInt8) (j : Nat) (hj : j ≤ 48) : (spreadL l).take (16 + j) = sched (w16 l) j := by
  have := sched_take (w16 l) j (48 - j)
  rw [w16_length, show j + (48 - j) = 48 by omega] at this
  exact this

theorem spread_lo (l : List UInt8) (k : Nat) (hk : k < 16) : (spreadL l).getD k 0 = wordAt l k := by
  have h1 := spread_take l 0 (by omega)
  have h2 : (spreadL l).getD k 0 = ((spreadL l).take 16).getD k 0 := by
    simp [List.getD, hk]
  rw [h2, h1]
  simp [sched, w16, List.getD, hk]

theorem spread_hi (l : List UInt8) (k : Nat) (h1 : 16 ≤ k) (h2 : k < 64) : (spreadL l).getD k 0 = ((sm1 ((spreadL l).getD (k - 2) 0) + (spreadL l).getD (k - 7) 0) + sm0 ((spreadL l).getD (k - 15) 0)) + (spreadL l).getD (k - 16) 0 := by
  obtain ⟨j, rfl⟩ : ∃ j, k = 16 + j := ⟨k - 16, by omega⟩
  have e1 := spread_take l (j + 1) (by omega)
  have e0 := spread_take l j (by omega)
  have hl : (sched (w16 l) j).length = 16 + j := by rw [sched_length, w16_length]
  have hg : ∀ i, i < 16 + j → (sched (w16 l) j).getD i 0 = (spreadL l).getD i 0 := by
    intro i hi
    rw [← e0]
    simp [List.getD, hi]
  have h3 : (spreadL l).getD (16 + j) 0 = ((spreadL l).take (16 + (j + 1))).getD (16 + j) 0 := by
    have : 16 + j < 16 + (j + 1) := by omega
    simp [List.getD, this]
  rw [h3, e1, sched]
  have h4 : (sched (w16 l) j ++ [nxt (sched (w16 l) j)]).getD (16 + j) 0 = nxt (sched (w16 l) j) := by
    rw [List.getD, List.getElem?_append_right (by omega), hl]
    simp
  rw [h4, nxt, hl, hg _ (by omega), hg _ (by omega), hg _ (by omega), hg _ (by omega)]

theorem idx_str (l : List UInt8) (p : Nat) (n : Nat) (hp : p < l.length) (hn : n = l[p].toNat) (W : World) : (Instr.index 9 (.string (str l)) (.int .i64 (p : Int))).run Tryd.prog W = .ok (.int .u8 (n : Int)) W := by
  subst hn
  have hs : p < (str l).size := by rw [str_size]; exact hp
  rw [run_index_string _ _ _ _ _ Tryd.underlying9]
  simp
  rw [dif_pos hs]
  rfl

theorem get_wv {ws : List W} {k : Nat} (hk : k < ws.length) (zs : List W) : ((ws ++ zs).map wv)[k]? = some (.int .u32 (wz (ws.getD k 0))) := by
  rw [List.getElem?_map, List.getElem?_append_left hk, List.getElem?_eq_getElem hk, show ws.getD k 0 = ws[k] by simp [List.getD, hk]]
  rfl

end Go.Proofs.YtkbldpigbkecpaaDoor
