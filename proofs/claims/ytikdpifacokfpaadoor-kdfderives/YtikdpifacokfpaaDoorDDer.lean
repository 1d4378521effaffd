/- What kdf's Derive answers: what HKDF tells of 32 bytes, for a word and texts that are sized. Of a word of at most 1000 bytes and texts of at most 100000 together; where the tables hold what they are laid with. -/
import Derived.Test.YtikdpifacokfpaaDoorKExp
import Derived.Test.YtikdpifacokfpaaDoorDSized
import Derived.Laws.IdiomStrings
namespace Go.Proofs.YtikdpifacokfpaaDoor
open Go.RowKit

/-- What the key comes of, told. -/
def infoL (word : List UInt8) (L : List (List UInt8)) : List UInt8 := layS word ++ L.flatMap layS
theorem infoL_snoc (word : List UInt8) (L : List (List UInt8)) (k : Nat) (h : k < L.length) : infoL word (L.take (k + 1)) = infoL word (L.take k) ++ layS L[k] := by
  unfold infoL
  rw [List.take_succ_eq_append_getElem h, List.flatMap_append]
  simp
theorem flat_le : ∀ (L : List (List UInt8)), (L.flatMap layS).length = 4 * L.length + L.flatten.length
  | [] => rfl
  | x :: L => by
    have := flat_le L
    rw [List.flatMap_cons, List.length_append, this, layS_length, List.flatten_cons, List.length_append, List.length_cons]
    omega
theorem infoL_le (word : List UInt8) (L : List (List UInt8)) (k : Nat) : (infoL word (L.take k)).length ≤ 4 + word.length + 4 * L.length + L.flatten.length := by
  unfold infoL
  rw [List.length_append, layS_length, flat_le]
  have h1 : (L.take k).length ≤ L.length := by simp; omega
  have h2 : (L.take k).flatten.length ≤ L.flatten.length := by
    conv => rhs; rw [← List.take_append_drop k L]
    rw [List.flatten_append, List.length_append]; omega
  omega
theorem elem_le (L : List (List UInt8)) (k : Nat) (h : k < L.length) : (L[k]).length ≤ L.flatten.length := by
  have h2 : (L.take (k + 1)).flatten.length ≤ L.flatten.length := by
    conv => rhs; rw [← List.take_append_drop (k + 1) L]
    rw [List.flatten_append, List.length_append]; omega
  rw [List.take_succ_eq_append_getElem h, List.flatten_append, List.length_append, List.flatten_cons, List.flatten_nil, List.append_nil] at h2
  omega

/-- '[]byte(s)'. -/
theorem str_bytes (w : World) (l : List UInt8) (hl : l.length ≤ maxLen) : ∃ cap W1, (convert 9 30 (.string (str l))).run Tryd.prog w = .ok (.slice (some ⟨w.heap.size, 0, none⟩) l.length cap) W1 ∧ Bts W1 (some ⟨w.heap.size, 0, none⟩) cap l ∧ w.grownBy W1 none := by
  have h := run_bytes_of_string (P := Tryd.prog) w 9 30 5 (str l) Tryd.underlying9 Tryd.underlying30 Tryd.underlying5
  rw [str_size] at h
  refine ⟨_, _, h, ?_, gb_alloc (gb_drew (gb_refl _ _)) _⟩
  refine ⟨(fun e => by cases e), grownCap_ge _ _ _ _, grownCap_le_maxLen _ _ _ _ hl, (fun ad e _ => by cases e; rfl), (fun ad e i hi => ?_)⟩
  cases e
  have hh : (w.drew.alloc (.cells (bytesRow (str l) (grownCap w l.length 0 5)) 5 ((bytesRow (str l) (grownCap w l.length 0 5)).size, (bytesRow (str l) (grownCap w l.length 0 5)).size + 1))).heap[w.heap.size]? = some (.cells (bytesRow (str l) (grownCap w l.length 0 5)) 5 ((bytesRow (str l) (grownCap w l.length 0 5)).size, (bytesRow (str l) (grownCap w l.length 0 5)).size + 1)) := heap_alloc_new w.drew _
  rw [show (⟨w.heap.size, 0, none⟩ : Addr).off + i = i from Nat.zero_add i, cell_of_row _ _ _ _ _ _ hh]
  unfold bytesRow
  rw [Array.getElem?_append_left (by simp [str]; exact hi)]
  simp [str, hi]

set_option maxRecDepth 100000 in
set_option maxHeartbeats 400000 in
theorem sizedw_any (w : World) (ao bo : Option Addr) (c d : Nat) (l x : List UInt8) (hb : Bts w ao c l) (hx : Bts w bo d x) (hl : l.length + 16 + x.length ≤ 70368744177664) :
    Calls Tryd.prog 29 #[.slice ao l.length c, .slice bo x.length d] w fun e w' => ∃ v', e = .returned v' ∧ w'.ownsRow w.heap.size 5 1 v' (l ++ layS x).length ((l ++ layS x).map bv) ∧ w.grownBy w' none := by
  go_enter Tryd.func29, Tryd.ntmps29
  go_wp2_with fail
  rw [show (4 : Int) + (x.length : Int) = ((4 + x.length : Nat) : Int) from by omega]
  refine (fresh_any _ _ _ _ (4 + x.length) hb (by omega)).mono ?_
  rintro e w1 ⟨rfl, h1, h2⟩
  have hsz := h2.size
  have hx1 : ∀ a, Below w.heap.size w1 a → Bts a bo d x := fun a ha => hx.below ((gb_below h2).trans ha)
  clear hb hx
  go_wp2_with fail
  refine (layText_any _ _ _ l bo d x h1 hsz hx1 (by omega)).mono ?_
  rintro e w2 ⟨v2, rfl, h3, h4⟩
  clear h1 hx1
  go_wp2
  go_ret
  exact ⟨_, rfl, (by unfold layS; rw [← List.append_assoc]; exact h3), below_gb ((gb_below h2).trans h4)⟩

theorem sizedo_any (w : World) (bo : Option Addr) (d : Nat) (x : List UInt8) (hx : Bts w bo d x) (hl : 16 + x.length ≤ 70368744177664) :
    Calls Tryd.prog 29 #[.slice none 0 0, .slice bo x.length d] w fun e w' => ∃ v', e = .returned v' ∧ w'.ownsRow w.heap.size 5 1 v' (layS x).length ((layS x).map bv) ∧ w.grownBy w' none :=
  sizedw_any w none bo 0 d [] x (Bts.nil _) hx (by simp; omega)

end Go.Proofs.YtikdpifacokfpaaDoor
