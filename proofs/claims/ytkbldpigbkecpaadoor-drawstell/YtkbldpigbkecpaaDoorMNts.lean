/- A slice of numbers, in words of our own. No condition but those that each lemma names. -/
import Derived.Test.YtkbldpigbkecpaaDoorMem
namespace Go.Proofs.YtkbldpigbkecpaaDoor
open Go.RowKit

/-- The slice value '.slice ao l.length c' holds the numbers l. -/
structure Nts (w : World) (ao : Option Addr) (c : Nat) (l : List Int) : Prop where
  zip : ao = none → l.length = 0 ∧ c = 0
  fits : l.length ≤ c
  most : c ≤ maxLen
  shape : ∀ ad, ao = some ad → 0 < l.length → ad.spot = none
  cell : ∀ ad, ao = some ad → ∀ i (h : i < l.length), w.cell? ⟨ad.block, ad.off + i, none⟩ = some (.int .i64 l[i])

end Go.Proofs.YtkbldpigbkecpaaDoor
