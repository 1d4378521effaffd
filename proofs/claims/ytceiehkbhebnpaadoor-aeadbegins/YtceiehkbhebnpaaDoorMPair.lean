/- What an argument that came in holds: two slices of bytes in an array, by value. -/
import Derived.Test.YtceiehkbhebnpaaDoorMArb
namespace Go.Proofs.YtceiehkbhebnpaaDoor
open Go.ChangeShapes Go.WideShapes Go.ChangeAt Go.RowKit Go.Deep

theorem pair_open {H : Type} {enc : TypeId × Value → H} {W : World} {base : Nat} {v : Value} {d : DataW H} {p : List MemPlace} (hval : Value.okWide Tryd.prog W .any base 38 v) (h : DataW.Trod enc Tryd.prog W 0 (fun _ => true) true 38 v d p) :
    ∃ (a0 a1 : Option Addr) (c0 c1 : Nat) (l0 l1 : List UInt8), v = .agg #[.slice a0 l0.length c0, .slice a1 l1.length c1] ∧ Bts W a0 c0 l0 ∧ Bts W a1 c1 l1 := by
  have ht : Tryd.prog.underlying 38 = some (.array 2 24) := Tryd.underlying38
  have hn : Tryd.prog.cellsOf 38 = 2 := by kernel_rfl
  obtain ⟨cs, rfl⟩ := okWide_arr ht hval
  obtain ⟨fuel, hf⟩ := h
  obtain ⟨xs, m, rfl, _, hl, hxl, hx⟩ := DataW.trod_array ht hf
  have hc1 : Tryd.prog.cellsOf 24 = 1 := by kernel_rfl
  have hcs : (Value.agg cs).cells.toList = cs.toList := rfl
  rw [hcs] at hl hx
  rw [hn] at hl
  have key : ∀ i (hi : i < cs.toList.length), ∃ l ao c, cs.toList[i] = .slice ao (l : List UInt8).length c ∧ Bts W ao c l := by
    intro i hi
    have h1 := hx i (by omega)
    rw [hc1, Nat.mul_one, List.drop_eq_getElem_cons hi, List.take_succ_cons, List.take_zero] at h1
    have hlt : i < xs.length := by omega
    rw [List.getElem?_eq_getElem hlt] at h1
    exact bts_cell h1
  obtain ⟨l0, a0, c0, e0, h0⟩ := key 0 (by omega)
  obtain ⟨l1, a1, c1, e1, h1⟩ := key 1 (by omega)
  refine ⟨a0, a1, c0, c1, l0, l1, ?_, h0, h1⟩
  have : cs.toList = [.slice a0 l0.length c0, .slice a1 l1.length c1] := by
    rw [← e0, ← e1]
    apply List.ext_getElem
    · simp at hl ⊢; omega
    · intro i h2 h3
      have : i < 2 := by simpa using h3
      match i, this with
      | 0, _ => rfl
      | 1, _ => rfl
  rw [← Array.toArray_toList (xs := cs), this]

end Go.Proofs.YtceiehkbhebnpaaDoor
