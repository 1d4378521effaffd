/- A slice of numbers, in words of our own. No condition but those that each lemma names. -/
import Derived.Test.YtfaipdifkmjdeaaMem
namespace Go.Proofs.Ytfaipdifkmjdeaa
open Go.RowKit

/-- The slice value '.slice ao l.length c' holds the numbers l. -/
structure Nts (w : World) (ao : Option Addr) (c : Nat) (l : List Int) : Prop where
  zip : ao = none → l.length = 0 ∧ c = 0
  fits : l.length ≤ c
  most : c ≤ maxLen
  shape : ∀ ad, ao = some ad → 0 < l.length → ad.spot = none
  cell : ∀ ad, ao = some ad → ∀ i (h : i < l.length), w.cell? ⟨ad.block, ad.off + i, none⟩ = some (.int .i64 l[i])

theorem Nts.kept {w a : World} {ao : Option Addr} {c : Nat} {l : List Int} (h : Nts w ao c l) (g : w.grownBy a none) : Nts a ao c l :=
  ⟨h.zip, h.fits, h.most, h.shape, fun ad e i hi => g.cell (h.cell ad e i hi) (by simp)⟩
theorem Nts.at {w : World} {ao : Option Addr} {c : Nat} {l : List Int} (h : Nts w ao c l) (i : Nat) (hi : i < l.length) : ∃ b o, ao = some ⟨b, o, none⟩ ∧ w.cell? ⟨b, o + i, none⟩ = some (.int .i64 l[i]) := by
  cases ao with
  | none => have := (h.zip rfl).1; omega
  | some ad =>
    have hs := h.shape ad rfl (by omega)
    have hc := h.cell ad rfl i hi
    obtain ⟨b, o, s⟩ := ad
    simp only at hs hc
    subst hs
    exact ⟨b, o, rfl, hc⟩

end Go.Proofs.Ytfaipdifkmjdeaa
