/- What an argument that came in holds: a slice of numbers. -/
import Derived.Test.YtadkpkdojbhigaaMNts
import Derived.Test.YtadkpkdojbhigaaMOpn
namespace Go.Proofs.Ytadkpkdojbhigaa
open Go.ChangeShapes Go.WideShapes Go.ChangeAt Go.RowKit Go.Deep

/-- A slice of numbers that came in holds numbers. -/
theorem nts_open {H : Type} {enc : TypeId × Value → H} {W : World} {a : Option Addr} {len cap : Nat} {d : DataW H} {p : List MemPlace} (h : DataW.Trod enc Try.prog W 0 (fun _ => true) true 32 (.slice a len cap) d p) :
    ∃ l : List Int, l.length = len ∧ Nts W a cap l := by
  obtain ⟨fuel, hf⟩ := h
  rcases open_ints Try.underlying32 Try.underlying3 (by kernel_rfl) hf with ⟨hcs, _⟩ | ⟨x, l, c, zs, hcs, _, hl, hm, hz, _, hcell, hwz⟩
  · simp [Value.cells] at hcs
    obtain ⟨rfl, rfl, rfl⟩ := hcs
    exact ⟨[], rfl, ⟨fun _ => ⟨rfl, rfl⟩, Nat.le_refl _, Nat.zero_le _, (fun _ h => by cases h), (fun _ h => by cases h)⟩⟩
  · simp [Value.cells] at hcs
    obtain ⟨rfl, rfl, rfl⟩ := hcs
    have hzc : zs.length = cap := by simpa using hz
    have hsp : 0 < zs.length → x.spot = none := fun h0 => by
      have := World.cell?_spot (hcell 0 h0)
      simpa [Addr.add] using this
    refine ⟨zs.take len, by simp; omega, ⟨(fun e => by cases e), by simp; omega, hm, (fun ad e hp => by cases e; exact hsp (by simp at hp; omega)), (fun ad e i hi => ?_)⟩⟩
    cases e
    have hi' : i < len := by simp at hi; omega
    have hs := hsp (by omega)
    have hc := hcell i (by omega)
    obtain ⟨b, o, s⟩ := x
    simp only at hs
    subst hs
    rw [Addr.add_lit] at hc
    rw [hc]
    simp [List.getD, List.getElem?_eq_getElem (show i < zs.length by omega)]

end Go.Proofs.Ytadkpkdojbhigaa
