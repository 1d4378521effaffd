/- What wire's fresh, numberBytes, layNumber and layText answer and leave in memory: the bytes handed in, copied into new memory, and behind them a number's bytes, or a text with its length ahead; of any bytes and numbers, where all together are fewer than 2 to the 46. -/
import Derived.Test.YtadkpkdojbhigaaRd
import Derived.Test.YtadkpkdojbhigaaDFrs
namespace Go.Proofs.Ytadkpkdojbhigaa
open Go.RowKit

theorem ret_int {k : IntKind} {a b : Int} (h : a = b) : Ending.returned (.int k a) = .returned (.int k b) := by rw [h]

theorem numBytes (n : Int) (w : World) : Calls Try.prog 38 #[.int .i64 n] w fun e w' => e = .returned (.int .i64 (min (max n 0) 8)) ∧ w' = w := by
  go_enter Try.func38, Try.ntmps38
  go_wp2
  all_goals (go_ret; exact ⟨ret_int (by omega), rfl⟩)

end Go.Proofs.Ytadkpkdojbhigaa
