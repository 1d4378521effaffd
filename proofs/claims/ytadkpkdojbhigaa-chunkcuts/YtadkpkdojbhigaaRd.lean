/- What the reader's small methods (Wrong, Left, cameTo, fail) answer and leave in memory, of any reader in memory and of nil; no condition but that the reader's two cells lie there. -/
import Derived.Test.YtadkpkdojbhigaaBase
import Derived.Test.YtadkpkdojbhigaaIs
namespace Go.Proofs.Ytadkpkdojbhigaa
open Go.RowKit

theorem wrong_nil (w : World) : Calls Try.prog 43 #[.pointer none] w fun e w' => e = .returned (.int .i64 0) ∧ w' = w := by
  go_enter Try.func43, Try.ntmps43
  go_wp2
  go_ret
  exact ⟨rfl, rfl⟩

theorem wrong_at (w : World) (rb : Nat) (e : Int) (h : w.cell? ⟨rb, 1, none⟩ = some (.int .i64 e)) :
    Calls Try.prog 43 #[.pointer (some ⟨rb, 0, none⟩)] w fun x w' => x = .returned (.int .i64 e) ∧ w' = w := by
  go_enter Try.func43, Try.ntmps43
  go_wp2
  go_ret
  exact ⟨rfl, rfl⟩

theorem came_nil (w : World) : Calls Try.prog 40 #[.pointer none, .int .i64 0] w fun e w' => e = .returned (.bool true) ∧ w' = w := by
  go_enter Try.func40, Try.ntmps40
  go_wp2_with fail
  refine (wrong_nil _).mono ?_
  rintro e w' ⟨rfl, rfl⟩
  go_wp2_with fail
  refine (is_same _ _).mono ?_
  rintro e w' ⟨rfl, rfl⟩
  go_wp2
  go_ret
  exact ⟨rfl, rfl⟩

theorem came_yes (w : World) (rb : Nat) (h : w.cell? ⟨rb, 1, none⟩ = some (.int .i64 0)) :
    Calls Try.prog 40 #[.pointer (some ⟨rb, 0, none⟩), .int .i64 0] w fun e w' => e = .returned (.bool true) ∧ w' = w := by
  go_enter Try.func40, Try.ntmps40
  go_wp2_with fail
  refine (wrong_at _ _ _ h).mono ?_
  rintro e w' ⟨rfl, rfl⟩
  go_wp2_with fail
  refine (is_same _ _).mono ?_
  rintro e w' ⟨rfl, rfl⟩
  go_wp2
  go_ret
  exact ⟨rfl, rfl⟩

theorem came_no (w : World) (rb : Nat) (k : Int) (hk : (k == 0) = false) (h : w.cell? ⟨rb, 1, none⟩ = some (.int .i64 k)) :
    Calls Try.prog 40 #[.pointer (some ⟨rb, 0, none⟩), .int .i64 0] w fun e w' => e = .returned (.bool false) ∧ w' = w := by
  go_enter Try.func40, Try.ntmps40
  go_wp2_with fail
  refine (wrong_at _ _ _ h).mono ?_
  rintro e w' ⟨rfl, rfl⟩
  go_wp2_with fail
  refine (is_other _ _ hk _).mono ?_
  rintro e w' ⟨rfl, rfl⟩
  go_wp2
  go_ret
  exact ⟨rfl, rfl⟩

theorem fail_nil (w : World) (k : Int) : Calls Try.prog 41 #[.pointer none, .int .i64 k] w fun e w' => e = .returned (.tuple #[]) ∧ w' = w := by
  go_enter Try.func41, Try.ntmps41
  go_wp2
  refine bodyPost_ret (results_none rfl _ _ _) rfl ?_
  exact ⟨rfl, rfl⟩

theorem fail_no (w : World) (rb : Nat) (e k : Int) (he : (e == 0) = false) (h : w.cell? ⟨rb, 1, none⟩ = some (.int .i64 e)) :
    Calls Try.prog 41 #[.pointer (some ⟨rb, 0, none⟩), .int .i64 k] w fun e w' => e = .returned (.tuple #[]) ∧ w' = w := by
  go_enter Try.func41, Try.ntmps41
  go_wp2_with fail
  refine (came_no _ _ _ he h).mono ?_
  rintro e w' ⟨rfl, rfl⟩
  go_wp2
  refine bodyPost_ret (results_none rfl _ _ _) rfl ?_
  exact ⟨rfl, rfl⟩

theorem fail_yes (w : World) (rb : Nat) (v : Value) (k : Int) (h : w.cell? ⟨rb, 1, none⟩ = some (.int .i64 0)) (h0 : w.cell? ⟨rb, 0, none⟩ = some v)
    (f0 : w.frozen? ⟨rb, 0, none⟩ = false) (f1 : w.frozen? ⟨rb, 1, none⟩ = false) :
    Calls Try.prog 41 #[.pointer (some ⟨rb, 0, none⟩), .int .i64 k] w fun e w' => e = .returned (.tuple #[]) ∧
      w' = (w.setCell ⟨rb, 1, none⟩ (.int .i64 k)).setCell ⟨rb, 0, none⟩ (.slice none 0 0) := by
  go_enter Try.func41, Try.ntmps41
  go_wp2_with fail
  refine (came_yes _ _ h).mono ?_
  rintro e w' ⟨rfl, rfl⟩
  go_wp2
  go_end0
  exact ⟨rfl, rfl⟩

end Go.Proofs.Ytadkpkdojbhigaa
