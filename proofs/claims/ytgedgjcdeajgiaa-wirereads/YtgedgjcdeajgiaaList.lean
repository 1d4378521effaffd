/- What New, Done and the reader's List answer and leave in memory, told by plain functions of the bytes that are left and of what is wrong; of any reader in memory and of nil. -/
import Derived.Test.YtgedgjcdeajgiaaSized
namespace Go.Proofs.Ytgedgjcdeajgiaa
open Go.RowKit

theorem new_any (w : World) (ao : Option Addr) (c : Nat) (l : List UInt8) (hb : Bts w ao c l) (hl : l.length ≤ 70368744177664) :
    Calls Try.prog 17 #[.slice ao l.length c] w fun e w' => ∃ rb, e = .returned (.pointer (some ⟨rb, 0, none⟩)) ∧ w.heap.size ≤ rb ∧ Rd w' rb l 0 ∧ w.grownBy w' none := by
  go_enter Try.func17, Try.ntmps17
  go_wp2_with fail
  refine (fresh_zero _ _ _ _ hb hl).mono ?_
  rintro e w1 ⟨rfl, h1, h2, h3⟩
  go_wp2
  go_ret
  have g := World.grownBy_alloc w1 (.cells #[.slice (some ⟨w.heap.size, 0, none⟩) l.length l.length, .int .i64 0] 60) none
  have hsz := h2.size
  have hlt := h3.lt
  exact ⟨w1.heap.size, rfl, hsz, ⟨some ⟨w.heap.size, 0, none⟩, l.length, heap_alloc_new w1 _, h1.kept g (fun _ e => by cases e), fun ad e => by cases e; exact ⟨h3.kept g (by simp), by simp only; omega⟩⟩, gb_alloc h2 _⟩

def doneS (l : List UInt8) (e : Int) : Int := if e = 0 then (if l = [] then 0 else 11) else e

theorem done_nil (w : World) : Calls Try.prog 28 #[.pointer none] w fun e w' => e = .returned (.int .i64 0) ∧ w' = w := by
  go_enter Try.func28, Try.ntmps28
  go_wp2_with fail
  refine (came_nil _).mono ?_
  rintro e w' ⟨rfl, rfl⟩
  go_wp2_with fail
  refine (left_nil _).mono ?_
  rintro e w' ⟨rfl, rfl⟩
  go_wp2_with fail
  refine (wrong_nil _).mono ?_
  rintro e w' ⟨rfl, rfl⟩
  go_wp2
  go_ret
  exact ⟨rfl, rfl⟩

theorem done_at (w : World) (rb : Nat) (l : List UInt8) (k : Int) (h : Rd w rb l k) : Calls Try.prog 28 #[.pointer (some ⟨rb, 0, none⟩)] w fun e w' => e = .returned (.int .i64 (doneS l k)) ∧ w' = w := by
  obtain ⟨ao, c, h1, h2, h3⟩ := h
  by_cases hk : k = 0
  · subst hk
    by_cases hl : l = []
    · subst hl
      go_enter Try.func28, Try.ntmps28
      go_wp2_with fail
      refine (came_yes _ _ h1.c1).mono ?_
      rintro e w' ⟨rfl, rfl⟩
      go_wp2_with fail
      refine (left_at _ _ _ _ _ h1.c0).mono ?_
      rintro e w' ⟨rfl, rfl⟩
      go_wp2_with fail
      refine (wrong_at _ _ _ h1.c1).mono ?_
      rintro e w' ⟨rfl, rfl⟩
      go_wp2
      go_ret
      exact ⟨rfl, rfl⟩
    · have hp : 0 < l.length := List.length_pos_iff.2 hl
      have e1 : doneS l 0 = 11 := by simp [doneS, hl]
      rw [e1]
      clear hl e1
      go_enter Try.func28, Try.ntmps28
      go_wp2_with fail
      refine (came_yes _ _ h1.c1).mono ?_
      rintro e w' ⟨rfl, rfl⟩
      go_wp2_with fail
      refine (left_at _ _ _ _ _ h1.c0).mono ?_
      rintro e w' ⟨rfl, rfl⟩
      go_wp2
      go_ret
      exact ⟨rfl, rfl⟩
  · have hk' : (k == 0) = false := by simpa using hk
    have e1 : doneS l k = k := by simp [doneS, hk]
    rw [e1]
    clear hk e1
    go_enter Try.func28, Try.ntmps28
    go_wp2_with fail
    refine (came_no _ _ _ hk' h1.c1).mono ?_
    rintro e w' ⟨rfl, rfl⟩
    go_wp2_with fail
    refine (wrong_at _ _ _ h1.c1).mono ?_
    rintro e w' ⟨rfl, rfl⟩
    go_wp2
    go_ret
    exact ⟨rfl, rfl⟩

end Go.Proofs.Ytgedgjcdeajgiaa
