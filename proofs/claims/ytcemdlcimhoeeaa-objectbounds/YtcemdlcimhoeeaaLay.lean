/- What the reader's small methods (Wrong, Left, cameTo, fail) answer and leave in memory, of any reader in memory and of nil; no condition but that the reader's two cells lie there. -/
import Derived.Test.YtcemdlcimhoeeaaBase
import Derived.Test.YtcemdlcimhoeeaaIs
namespace Go.Proofs.Ytcemdlcimhoeeaa
open Go.RowKit

theorem wrong_nil (w : World) : Calls Try.prog 64 #[.pointer none] w fun e w' => e = .returned (.int .i64 0) ∧ w' = w := by
  go_enter Try.func64, Try.ntmps64
  go_wp2
  go_ret
  exact ⟨rfl, rfl⟩

theorem wrong_at (w : World) (rb : Nat) (e : Int) (h : w.cell? ⟨rb, 1, none⟩ = some (.int .i64 e)) :
    Calls Try.prog 64 #[.pointer (some ⟨rb, 0, none⟩)] w fun x w' => x = .returned (.int .i64 e) ∧ w' = w := by
  go_enter Try.func64, Try.ntmps64
  go_wp2
  go_ret
  exact ⟨rfl, rfl⟩

theorem left_nil (w : World) : Calls Try.prog 63 #[.pointer none] w fun e w' => e = .returned (.int .i64 0) ∧ w' = w := by
  go_enter Try.func63, Try.ntmps63
  go_wp2
  go_ret
  exact ⟨rfl, rfl⟩

theorem left_at (w : World) (rb : Nat) (ao : Option Addr) (n c : Nat) (h : w.cell? ⟨rb, 0, none⟩ = some (.slice ao n c)) :
    Calls Try.prog 63 #[.pointer (some ⟨rb, 0, none⟩)] w fun x w' => x = .returned (.int .i64 n) ∧ w' = w := by
  go_enter Try.func63, Try.ntmps63
  go_wp2
  go_ret
  exact ⟨rfl, rfl⟩

theorem came_nil (w : World) : Calls Try.prog 62 #[.pointer none, .int .i64 0] w fun e w' => e = .returned (.bool true) ∧ w' = w := by
  go_enter Try.func62, Try.ntmps62
  go_wp2_with fail
  refine (wrong_nil _).mono ?_
  rintro e w' ⟨rfl, rfl⟩
  go_wp2_with fail
  refine (is_same _ _).mono ?_
  rintro e w' ⟨rfl, rfl⟩
  go_wp2
  go_ret
  exact ⟨rfl, rfl⟩

theorem came_yes (w : World) (rb : Nat) (h : w.cell? ⟨rb, 1, none⟩ = some (.int .i64 0)) :
    Calls Try.prog 62 #[.pointer (some ⟨rb, 0, none⟩), .int .i64 0] w fun e w' => e = .returned (.bool true) ∧ w' = w := by
  go_enter Try.func62, Try.ntmps62
  go_wp2_with fail
  refine (wrong_at _ _ _ h).mono ?_
  rintro e w' ⟨rfl, rfl⟩
  go_wp2_with fail
  refine (is_same _ _).mono ?_
  rintro e w' ⟨rfl, rfl⟩
  go_wp2
  go_ret
  exact ⟨rfl, rfl⟩

theorem came_no (w : World) (rb : Nat) (k : Int) (hk : (k == 0) = false) (h : w.cell? ⟨rb, 1, none⟩ = some (.int .i64 k)) :
    Calls Try.prog 62 #[.pointer (some ⟨rb, 0, none⟩), .int .i64 0] w fun e w' => e = .returned (.bool false) ∧ w' = w := by
  go_enter Try.func62, Try.ntmps62
  go_wp2_with fail
  refine (wrong_at _ _ _ h).mono ?_
  rintro e w' ⟨rfl, rfl⟩
  go_wp2_with fail
  refine (is_other _ _ hk _).mono ?_
  rintro e w' ⟨rfl, rfl⟩
  go_wp2
  go_ret
  exact ⟨rfl, rfl⟩

theorem fail_nil (w : World) (k : Int) : Calls Try.prog 60 #[.pointer none, .int .i64 k] w fun e w' => e = .returned (.tuple #[]) ∧ w' = w := by
  go_enter Try.func60, Try.ntmps60
  go_wp2
  refine bodyPost_ret (results_none rfl _ _ _) rfl ?_
  exact ⟨rfl, rfl⟩

theorem fail_no (w : World) (rb : Nat) (e k : Int) (he : (e == 0) = false) (h : w.cell? ⟨rb, 1, none⟩ = some (.int .i64 e)) :
    Calls Try.prog 60 #[.pointer (some ⟨rb, 0, none⟩), .int .i64 k] w fun e w' => e = .returned (.tuple #[]) ∧ w' = w := by
  go_enter Try.func60, Try.ntmps60
  go_wp2_with fail
  refine (came_no _ _ _ he h).mono ?_
  rintro e w' ⟨rfl, rfl⟩
  go_wp2
  refine bodyPost_ret (results_none rfl _ _ _) rfl ?_
  exact ⟨rfl, rfl⟩

theorem fail_yes (w : World) (rb : Nat) (v : Value) (k : Int) (h : w.cell? ⟨rb, 1, none⟩ = some (.int .i64 0)) (h0 : w.cell? ⟨rb, 0, none⟩ = some v)
    (f0 : w.frozen? ⟨rb, 0, none⟩ = false) (f1 : w.frozen? ⟨rb, 1, none⟩ = false) :
    Calls Try.prog 60 #[.pointer (some ⟨rb, 0, none⟩), .int .i64 k] w fun e w' => e = .returned (.tuple #[]) ∧
      w' = (w.setCell ⟨rb, 1, none⟩ (.int .i64 k)).setCell ⟨rb, 0, none⟩ (.slice none 0 0) := by
  go_enter Try.func60, Try.ntmps60
  go_wp2_with fail
  refine (came_yes _ _ h).mono ?_
  rintro e w' ⟨rfl, rfl⟩
  go_wp2
  go_end0
  exact ⟨rfl, rfl⟩

end Go.Proofs.Ytcemdlcimhoeeaa

/- What wire's fresh, numberBytes, layNumber and layText answer and leave in memory: the bytes handed in, copied into new memory, and behind them a number's bytes, or a text with its length ahead; of any bytes and numbers, where all together are fewer than 2 to the 46. -/
namespace Go.Proofs.Ytcemdlcimhoeeaa
open Go.RowKit

theorem ret_int {k : IntKind} {a b : Int} (h : a = b) : Ending.returned (.int k a) = .returned (.int k b) := by rw [h]

theorem numBytes (n : Int) (w : World) : Calls Try.prog 58 #[.int .i64 n] w fun e w' => e = .returned (.int .i64 (min (max n 0) 8)) ∧ w' = w := by
  go_enter Try.func58, Try.ntmps58
  go_wp2
  all_goals (go_ret; exact ⟨ret_int (by omega), rfl⟩)

set_option maxHeartbeats 400000 in
theorem fresh_any (w : World) (ao : Option Addr) (c : Nat) (l : List UInt8) (room : Nat) (hb : Bts w ao c l) (hr : l.length + room ≤ 70368744177664) :
    Calls Try.prog 56 #[.slice ao l.length c, .int .i64 room] w fun e w' => e = .returned (.slice (some ⟨w.heap.size, 0, none⟩) l.length (l.length + room)) ∧
      w'.ownsRow w.heap.size 5 1 (.slice (some ⟨w.heap.size, 0, none⟩) l.length (l.length + room)) l.length (l.map bv) ∧ w.grownBy w' none := by
  obtain ⟨i0, hi, hz0, hz1, hz2⟩ := info_parts info_byte
  go_enter Try.func56, Try.ntmps56
  go_wp2_with (at_make; refine wpList_make_own _ rfl _ _ 33 rfl w.heap.size 5 i0 (.int .u8 0) 1 Try.underlying33 hi hz0 hz1 _ _ _ (l.length + room) rfl rfl ?c1 ?c2 ?c3 ?c4 ?_)
  case c1 => omega
  case c2 => rw [hz2]; omega
  case c3 => unfold maxLen; omega
  case c4 => exact Nat.le_refl _
  intro w1 hown hgrow
  have hb1 : Bts w1 ao c l := hb.kept hgrow (fun _ e => by cases e)
  go_wp2_with (at_builtin; refine wpList_append_fits_any _ rfl _ _ 33 rfl w.heap.size 5 i0 1 Try.underlying33 hi hz1 _ 0 _ _ rfl hown ao l.length c (l.map bv) rfl ?d1 hb1.zip hb1.news (bv_one l) ?d2 ?_)
  case d1 => simp
  case d2 => omega
  intro w2 hown2 hgrow2
  go_wp2
  go_ret
  exact ⟨by simp, hown2, gb_trans hgrow hgrow2 (fun x e => by cases e; exact Or.inl (Nat.le_refl _))⟩

end Go.Proofs.Ytcemdlcimhoeeaa
