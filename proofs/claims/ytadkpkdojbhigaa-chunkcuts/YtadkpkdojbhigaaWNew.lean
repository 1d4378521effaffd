/- What wire's New answers: a reader of new memory. -/
import Derived.Test.YtadkpkdojbhigaaNum
namespace Go.Proofs.Ytadkpkdojbhigaa
open Go.RowKit

theorem fresh_zero (w : World) (ao : Option Addr) (c : Nat) (l : List UInt8) (hb : Bts w ao c l) (hr : l.length ≤ 70368744177664) :
    Calls Try.prog 30 #[.slice ao l.length c, .int .i64 0] w fun e w' => e = .returned (.slice (some ⟨w.heap.size, 0, none⟩) l.length l.length) ∧
      Bts w' (some ⟨w.heap.size, 0, none⟩) l.length l ∧ w.grownBy w' none ∧ Typ w' w.heap.size := by
  refine (fresh_any w ao c l 0 hb (by omega)).mono ?_
  rintro e w' ⟨rfl, h1, h2⟩
  obtain ⟨_, _, h4⟩ := Bts.own h1
  exact ⟨rfl, h4, h2, Typ.own h1⟩

theorem new_any (w : World) (ao : Option Addr) (c : Nat) (l : List UInt8) (hb : Bts w ao c l) (hl : l.length ≤ 70368744177664) :
    Calls Try.prog 32 #[.slice ao l.length c] w fun e w' => ∃ rb, e = .returned (.pointer (some ⟨rb, 0, none⟩)) ∧ w.heap.size ≤ rb ∧ Rd w' rb l 0 ∧ w.grownBy w' none := by
  go_enter Try.func32, Try.ntmps32
  go_wp2_with fail
  refine (fresh_zero _ _ _ _ hb hl).mono ?_
  rintro e w1 ⟨rfl, h1, h2, h3⟩
  go_wp2
  go_ret
  have g := World.grownBy_alloc w1 (.cells #[.slice (some ⟨w.heap.size, 0, none⟩) l.length l.length, .int .i64 0] 62) none
  have hsz := h2.size
  have hlt := h3.lt
  exact ⟨w1.heap.size, rfl, hsz, ⟨some ⟨w.heap.size, 0, none⟩, l.length, heap_alloc_new w1 _, h1.kept g (fun _ e => by cases e), fun ad e => by cases e; exact ⟨h3.kept g (by simp), by simp only; omega⟩⟩, gb_alloc h2 _⟩

end Go.Proofs.Ytadkpkdojbhigaa
