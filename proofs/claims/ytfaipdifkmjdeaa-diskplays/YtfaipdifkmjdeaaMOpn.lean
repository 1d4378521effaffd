/- What an argument that came in holds: a slice of bytes. -/
import Derived.Test.YtfaipdifkmjdeaaMLst
import Derived.ProofKit
import Derived.OpenShut
import Derived.Deep.Slices
namespace Go.Proofs.Ytfaipdifkmjdeaa
open Go.ChangeShapes Go.WideShapes Go.ChangeAt Go.RowKit Go.Deep

theorem own_knob : ownKnob Try.prog.godebug = none := by kernel_rfl

theorem laid_out : laidOutB Try.prog = true := by kernel_rfl

/-- A slice of bytes that came in holds bytes. -/
theorem bts_open {H : Type} {enc : TypeId × Value → H} {W : World} {a : Option Addr} {len cap : Nat} {d : DataW H} {p : List MemPlace} (h : DataW.Trod enc Try.prog W 0 (fun _ => true) true 33 (.slice a len cap) d p) :
    ∃ l : List UInt8, l.length = len ∧ Bts W a cap l := by
  obtain ⟨fuel, hf⟩ := h
  rcases open_ints Try.underlying33 Try.underlying5 (by kernel_rfl) hf with ⟨hcs, _⟩ | ⟨x, l, c, zs, hcs, _, hl, hm, hz, _, hcell, hwz⟩
  · simp [Value.cells] at hcs
    obtain ⟨rfl, rfl, rfl⟩ := hcs
    exact ⟨[], rfl, Bts.nil _⟩
  · simp [Value.cells] at hcs
    obtain ⟨rfl, rfl, rfl⟩ := hcs
    have hzc : zs.length = cap := by simpa using hz
    have hsp : 0 < zs.length → x.spot = none := fun h0 => by
      have := World.cell?_spot (hcell 0 h0)
      simpa [Addr.add] using this
    refine ⟨(zs.take len).map fun z => UInt8.ofNat z.toNat, by simp; omega, ⟨(fun e => by cases e), by simp; omega, hm, (fun ad e hp => by cases e; exact hsp (by simp at hp; omega)), (fun ad e i hi => ?_)⟩⟩
    cases e
    have hi' : i < len := by simp at hi; omega
    have hs := hsp (by omega)
    have hc := hcell i (by omega)
    obtain ⟨b, o, s⟩ := x
    simp only at hs
    subst hs
    rw [Addr.add_lit] at hc
    rw [hc]
    have hw := hwz _ (List.getElem_mem (show i < zs.length by omega))
    have hb := bounds_u8 hw
    simp only [List.getElem_map, List.getElem_take, List.getD, List.getElem?_eq_getElem (show i < zs.length by omega), Option.getD_some]
    congr 2
    rw [UInt8.toNat_ofNat']
    omega

/-- A slice of bytes in a cell. -/
theorem bts_cell {H : Type} {enc : TypeId × Value → H} {W : World} {fuel : Nat} {v : Value} {x : DataW H × List MemPlace} (h : DataW.trod enc Try.prog W 0 (fun _ => true) true fuel 33 [v] = some x) :
    ∃ l ao c, v = .slice ao (l : List UInt8).length c ∧ Bts W ao c l := by
  have hv : ∃ ao n c, v = .slice ao n c := by
    rcases open_ints Try.underlying33 Try.underlying5 (by kernel_rfl) h with ⟨hcs, _⟩ | ⟨y, l, c, zs, hcs, _⟩
    · cases hcs; exact ⟨_, _, _, rfl⟩
    · cases hcs; exact ⟨_, _, _, rfl⟩
  obtain ⟨ao, n, c, rfl⟩ := hv
  obtain ⟨l, h1, h2⟩ := bts_open (enc := enc) (W := W) (a := ao) (len := n) (cap := c) (d := x.1) (p := x.2) ⟨fuel, by simpa [Value.cells] using h⟩
  exact ⟨l, ao, c, by rw [h1], h2⟩

/-- A slice of bytes that came in is no greater than a machine's memory. -/
theorem bts_room {H : Type} {enc : TypeId × Value → H} {W : World} {a : Option Addr} {len cap : Nat} {d : DataW H} {p : List MemPlace} {ts : List TypeId} {ds : List (DataW H)} {j : Nat}
    (h : DataW.Trod enc Try.prog W 0 (fun _ => true) true 33 (.slice a len cap) d p) (hz : (DataW.weightsEach Try.prog ts ds).all (· ≤ reachBytes) = true) (ht : ts[j]? = some 33) (hd : ds[j]? = some d) : len ≤ 140737488355328 := by
  obtain ⟨fuel, hf⟩ := h
  rcases open_ints Try.underlying33 Try.underlying5 (by kernel_rfl) hf with ⟨hcs, _⟩ | ⟨x, l, c, zs, hcs, _, hl, hm, hz2, hx, hcell, hwz⟩
  · simp [Value.cells] at hcs
    obtain ⟨rfl, rfl, rfl⟩ := hcs
    omega
  · simp [Value.cells] at hcs
    obtain ⟨rfl, rfl, rfl⟩ := hcs
    have hzc : zs.length = cap := by simpa using hz2
    have e1 : d = .slice (lits .u8 (zs.take len)) (lits .u8 (zs.drop len)) := congrArg Prod.fst hx
    subst e1
    have h1 := sized_slice hz ht hd Try.underlying33
    have h2 : Try.prog.bytesOf 5 = 1 := by kernel_rfl
    have h3 := reachBytes_lt
    have h4 : ∀ ys : List Int, (lits .u8 ys : List (DataW H)).length = ys.length := fun ys => by simp [lits]
    rw [h2, h4, h4, ← List.length_append, List.take_append_drop] at h1
    omega

end Go.Proofs.Ytfaipdifkmjdeaa
