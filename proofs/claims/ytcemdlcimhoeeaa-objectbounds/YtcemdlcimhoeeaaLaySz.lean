/- What wire's Put and Sized lay, told by plain functions of bytes; of any bytes and numbers, where all together are fewer than 2 to the 46. -/
import Derived.Test.YtcemdlcimhoeeaaPut
namespace Go.Proofs.Ytcemdlcimhoeeaa
open Go.RowKit

/-- A text as it is laid, its length ahead. -/
def layS (x : List UInt8) : List UInt8 := lb x.length 4 ++ x
/-- Texts as they are laid, their number ahead. -/
def layL (L : List (List UInt8)) : List UInt8 := lb L.length 2 ++ L.flatMap layS

set_option maxRecDepth 100000 in
set_option maxHeartbeats 400000 in
theorem put_own (w : World) (ao : Option Addr) (c : Nat) (l : List UInt8) (v : Nat) (n : Int) (hb : Bts w ao c l) (hl : l.length + 16 ≤ 70368744177664) :
    Calls Try.prog 49 #[.slice ao l.length c, .int .u64 v, .int .i64 n] w fun e w' => ∃ v', e = .returned v' ∧ w'.ownsRow w.heap.size 5 1 v' (l ++ lb v (nb n)).length ((l ++ lb v (nb n)).map bv) ∧ w.grownBy w' none := by
  have hn8 : nb n ≤ 8 := by unfold nb; omega
  have H : Hid (min (max n 0) 8 = ((nb n : Nat) : Int)) := by unfold nb Hid; omega
  generalize nb n = k at *
  go_enter Try.func49, Try.ntmps49
  go_wp2_with fail
  refine (numBytes _ _).mono ?_
  rintro e w' ⟨rfl, rfl⟩
  rw [H.out]
  go_wp2_with fail
  refine (fresh_any _ _ _ _ k hb (by omega)).mono ?_
  rintro e w1 ⟨rfl, h1, h2⟩
  have hsz := h2.size
  clear hb H
  go_wp2_with fail
  refine (lay_any _ _ _ l v k hn8 h1 hsz (by omega)).mono ?_
  rintro e w2 ⟨v2, rfl, h3, h4⟩
  clear h1
  go_wp2
  go_ret
  exact ⟨_, rfl, h3, below_gb ((gb_below h2).trans h4)⟩

theorem put_any (w : World) (ao : Option Addr) (c : Nat) (l : List UInt8) (v : Nat) (n : Int) (hb : Bts w ao c l) (hl : l.length + 16 ≤ 70368744177664) :
    Calls Try.prog 49 #[.slice ao l.length c, .int .u64 v, .int .i64 n] w fun e w' => ∃ v', e = .returned v' ∧ NewB w w' v' (l ++ lb v (nb n)) ∧ w.grownBy w' none :=
  (put_own w ao c l v n hb hl).mono fun _ _ ⟨v', e, h, g⟩ => ⟨v', e, NewB.own h, g⟩

set_option maxRecDepth 100000 in
set_option maxHeartbeats 400000 in
theorem sizedl_own (w : World) (ao bo : Option Addr) (c d : Nat) (l x : List UInt8) (hb : Bts w ao c l) (hx : Bts w bo d x) (hl : l.length + 16 + x.length ≤ 70368744177664) :
    Calls Try.prog 45 #[.slice ao l.length c, .slice bo x.length d] w fun e w' => ∃ v', e = .returned v' ∧ w'.ownsRow w.heap.size 5 1 v' (l ++ layS x).length ((l ++ layS x).map bv) ∧ w.grownBy w' none := by
  go_enter Try.func45, Try.ntmps45
  go_wp2_with fail
  rw [show (4 : Int) + (x.length : Int) = ((4 + x.length : Nat) : Int) from by omega]
  refine (fresh_any _ _ _ _ (4 + x.length) hb (by omega)).mono ?_
  rintro e w1 ⟨rfl, h1, h2⟩
  have hsz := h2.size
  have hx1 : ∀ a, Below w.heap.size w1 a → Bts a bo d x := fun a ha => hx.below ((gb_below h2).trans ha)
  clear hb hx
  go_wp2_with fail
  refine (layText_any _ _ _ l bo d x h1 hsz hx1 (by omega)).mono ?_
  rintro e w2 ⟨v2, rfl, h3, h4⟩
  clear h1 hx1
  go_wp2
  go_ret
  exact ⟨_, rfl, (by unfold layS; rw [← List.append_assoc]; exact h3), below_gb ((gb_below h2).trans h4)⟩
theorem sizedl_any (w : World) (ao bo : Option Addr) (c d : Nat) (l x : List UInt8) (hb : Bts w ao c l) (hx : Bts w bo d x) (hl : l.length + 16 + x.length ≤ 70368744177664) :
    Calls Try.prog 45 #[.slice ao l.length c, .slice bo x.length d] w fun e w' => ∃ v', e = .returned v' ∧ NewB w w' v' (l ++ layS x) ∧ w.grownBy w' none :=
  (sizedl_own w ao bo c d l x hb hx hl).mono fun _ _ ⟨v', e, h, g⟩ => ⟨v', e, NewB.own h, g⟩

end Go.Proofs.Ytcemdlcimhoeeaa
