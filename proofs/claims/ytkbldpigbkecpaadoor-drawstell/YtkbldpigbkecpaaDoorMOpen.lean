/- What an argument that came in holds: a list of texts. -/
import Derived.Test.YtkbldpigbkecpaaDoorMOpn
namespace Go.Proofs.YtkbldpigbkecpaaDoor
open Go.ChangeShapes Go.WideShapes Go.ChangeAt Go.RowKit Go.Deep

theorem lst_open {H : Type} {enc : TypeId × Value → H} {W : World} {a : Option Addr} {len cap : Nat} {d : DataW H} {p : List MemPlace} (h : DataW.Trod enc Tryd.prog W 0 (fun _ => true) true 39 (.slice a len cap) d p) :
    ∃ L : List (List UInt8), L.length = len ∧ Lst W a cap L := by
  obtain ⟨fuel, hf⟩ := h
  rcases open_slice1 Tryd.underlying39 (by kernel_rfl) hf with ⟨hcs, _⟩ | ⟨x, l, c, m, n, V, D, Pl, hcs, _, hl, hm, hmm, _, hx⟩
  · simp [Value.cells] at hcs
    obtain ⟨rfl, rfl, rfl⟩ := hcs
    exact ⟨[], rfl, ⟨fun _ => ⟨rfl, rfl⟩, Nat.le_refl _, Nat.zero_le _, (fun _ e => by cases e), (fun _ e => by cases e)⟩⟩
  · simp [Value.cells] at hcs
    obtain ⟨rfl, rfl, rfl⟩ := hcs
    have hmc : m = cap := by simpa using hmm
    have hsp : 0 < m → x.spot = none := fun h0 => by
      have := World.cell?_spot (hx 0 h0).1
      simpa [Addr.add] using this
    have key : ∀ i, i < len → ∃ y : List UInt8, ∃ ao c, V i = .slice ao y.length c ∧ Bts W ao c y := fun i hi => by
      obtain ⟨y, ao, c, h1, h2⟩ := bts_cell (hx i (by omega)).2
      exact ⟨y, ao, c, h1, h2⟩
    obtain ⟨f, hfx⟩ := choose_lt (α := List UInt8) (p := fun i y => ∃ ao c, V i = .slice ao y.length c ∧ Bts W ao c y) key
    refine ⟨(List.range len).map f, by simp, ⟨(fun e => by cases e), by simp; omega, hm, (fun ad e hp => by cases e; exact hsp (by simp at hp; omega)), (fun ad e i hi => ?_)⟩⟩
    cases e
    have hi' : i < len := by simpa using hi
    have hs := hsp (by omega)
    have hc := (hx i (by omega)).1
    obtain ⟨b, o, s⟩ := x
    simp only at hs
    subst hs
    rw [Addr.add_lit] at hc
    obtain ⟨ao, ci, h1, h2⟩ := hfx i hi'
    rw [h1] at hc
    exact ⟨ao, ci, by simpa using hc, by simpa using h2⟩

end Go.Proofs.YtkbldpigbkecpaaDoor
