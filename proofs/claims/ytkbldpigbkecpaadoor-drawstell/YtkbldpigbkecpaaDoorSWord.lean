/- What sha's turned answers. No condition but those that the lemma names. -/
import Derived.Test.YtkbldpigbkecpaaDoorMWord
namespace Go.Proofs.YtkbldpigbkecpaaDoor
open Go.RowKit

theorem turned_any (w : World) (x : W) (n : Nat) (h0 : 0 < n) (h1 : n < 32) :
    Calls Tryd.prog 35 #[wv x, .int .i64 (n : Int)] w fun e w' => e = .returned (wv (ror x n)) ∧ w' = w := by
  go_enter Tryd.func35, Tryd.ntmps35
  go_wp2_with (go_at_call 39; refine (rol_any _ x n h0 h1).mono ?_; rintro e w' ⟨rfl, rfl⟩)
  go_ret
  exact ⟨rfl, rfl⟩

end Go.Proofs.YtkbldpigbkecpaaDoor
