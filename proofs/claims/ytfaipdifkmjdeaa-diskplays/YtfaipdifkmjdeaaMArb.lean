/- What an argument that came in holds: a slice of numbers. -/
import Derived.Test.YtfaipdifkmjdeaaMNts
import Derived.Test.YtfaipdifkmjdeaaMOpn
namespace Go.Proofs.Ytfaipdifkmjdeaa
open Go.ChangeShapes Go.WideShapes Go.ChangeAt Go.RowKit Go.Deep

/-- A slice of numbers that came in holds numbers. -/
theorem nts_open {H : Type} {enc : TypeId × Value → H} {W : World} {a : Option Addr} {len cap : Nat} {d : DataW H} {p : List MemPlace} (h : DataW.Trod enc Try.prog W 0 (fun _ => true) true 34 (.slice a len cap) d p) :
    ∃ l : List Int, l.length = len ∧ Nts W a cap l := by
  obtain ⟨fuel, hf⟩ := h
  rcases open_ints Try.underlying34 Try.underlying3 (by kernel_rfl) hf with ⟨hcs, _⟩ | ⟨x, l, c, zs, hcs, _, hl, hm, hz, _, hcell, hwz⟩
  · simp [Value.cells] at hcs
    obtain ⟨rfl, rfl, rfl⟩ := hcs
    exact ⟨[], rfl, ⟨fun _ => ⟨rfl, rfl⟩, Nat.le_refl _, Nat.zero_le _, (fun _ h => by cases h), (fun _ h => by cases h)⟩⟩
  · simp [Value.cells] at hcs
    obtain ⟨rfl, rfl, rfl⟩ := hcs
    have hzc : zs.length = cap := by simpa using hz
    have hsp : 0 < zs.length → x.spot = none := fun h0 => by
      have := World.cell?_spot (hcell 0 h0)
      simpa [Addr.add] using this
    refine ⟨zs.take len, by simp; omega, ⟨(fun e => by cases e), by simp; omega, hm, (fun ad e hp => by cases e; exact hsp (by simp at hp; omega)), (fun ad e i hi => ?_)⟩⟩
    cases e
    have hi' : i < len := by simp at hi; omega
    have hs := hsp (by omega)
    have hc := hcell i (by omega)
    obtain ⟨b, o, s⟩ := x
    simp only at hs
    subst hs
    rw [Addr.add_lit] at hc
    rw [hc]
    simp [List.getD, List.getElem?_eq_getElem (show i < zs.length by omega)]

theorem nts_cell {H : Type} {enc : TypeId × Value → H} {W : World} {fuel : Nat} {v : Value} {x : DataW H × List MemPlace} (h : DataW.trod enc Try.prog W 0 (fun _ => true) true fuel 34 [v] = some x) :
    ∃ (l : List Int) (ao : Option Addr) (c : Nat), v = .slice ao l.length c ∧ Nts W ao c l := by
  rcases open_ints Try.underlying34 Try.underlying3 (by kernel_rfl) h with ⟨hcs, _⟩ | ⟨x, l, c, zs, hcs, _, hl, hm, hz, _, hcell, hwz⟩
  · simp only [List.cons.injEq, and_true] at hcs
    subst hcs
    exact ⟨[], none, 0, rfl, ⟨fun _ => ⟨rfl, rfl⟩, Nat.le_refl _, Nat.zero_le _, (fun _ h => by cases h), (fun _ h => by cases h)⟩⟩
  · simp only [List.cons.injEq, and_true] at hcs
    subst hcs
    have hzc : zs.length = c := by simpa using hz
    have hsp : 0 < zs.length → x.spot = none := fun h0 => by
      have := World.cell?_spot (hcell 0 h0)
      simpa [Addr.add] using this
    have hzl : (zs.take l).length = l := by simp; omega
    refine ⟨zs.take l, some x, c, by rw [hzl], ⟨(fun e => by cases e), by omega, hm, (fun ad e hp => by cases e; exact hsp (by omega)), (fun ad e i hi => ?_)⟩⟩
    cases e
    have hi' : i < l := by omega
    have hs := hsp (by omega)
    have hc := hcell i (by omega)
    obtain ⟨b, o, s⟩ := x
    simp only at hs
    subst hs
    rw [Addr.add_lit] at hc
    rw [hc]
    simp [List.getD, List.getElem?_eq_getElem (show i < zs.length by omega)]

end Go.Proofs.Ytfaipdifkmjdeaa

/- What an argument that came in holds: an array of bytes by value. -/
namespace Go.Proofs.Ytfaipdifkmjdeaa
open Go.ChangeShapes Go.WideShapes Go.ChangeAt Go.RowKit Go.Deep

theorem okWide_arr {P : Program} {w : World} {r : Reach} {base : Nat} {t : TypeId} {v : Value} {n : Nat} {e : TypeId} (ht : P.underlying t = some (.array n e)) (h : Value.okWide P w r base t v) : ∃ cs, v = .agg cs := by
  simp only [Value.okWide, ht] at h
  obtain ⟨cs, h1, _⟩ := h
  exact ⟨cs, h1⟩

theorem list_bv : ∀ cs : List Value, (∀ v ∈ cs, ∃ b : UInt8, v = bv b) → ∃ l : List UInt8, cs = l.map bv
  | [], _ => ⟨[], rfl⟩
  | v :: r, h => by
    obtain ⟨b, hb⟩ := h v (by simp)
    obtain ⟨l, hl⟩ := list_bv r (fun u hu => h u (by simp [hu]))
    exact ⟨b :: l, by rw [hb, hl]; rfl⟩

set_option maxRecDepth 100000 in
/-- An array of bytes that came in by value. -/
theorem arr_open {H : Type} {enc : TypeId × Value → H} {W : World} {base : Nat} {t : TypeId} {n : Nat} {v : Value} {d : DataW H} {p : List MemPlace} (ht : Try.prog.underlying t = some (.array n 5)) (hn : Try.prog.cellsOf t = n) (hval : Value.okWide Try.prog W .any base t v) (h : DataW.Trod enc Try.prog W 0 (fun _ => true) true t v d p) :
    ∃ l : List UInt8, l.length = n ∧ v = .agg (l.map bv).toArray := by
  obtain ⟨cs, rfl⟩ := okWide_arr ht hval
  obtain ⟨fuel, hf⟩ := h
  obtain ⟨xs, m, rfl, _, hl, hxl, hx⟩ := DataW.trod_array ht hf
  have hc1 : Try.prog.cellsOf 5 = 1 := by kernel_rfl
  have hcs : (Value.agg cs).cells.toList = cs.toList := rfl
  rw [hcs] at hl hx
  rw [hn] at hl
  have key : ∀ i (hi : i < cs.toList.length), ∃ b : UInt8, cs.toList[i] = bv b := by
    intro i hi
    have h1 := hx i (by omega)
    rw [hc1, Nat.mul_one, List.drop_eq_getElem_cons hi, List.take_succ_cons, List.take_zero] at h1
    have hlt : i < xs.length := by omega
    rw [List.getElem?_eq_getElem hlt] at h1
    obtain ⟨z, hz, _, hw⟩ := DataW.trod_int Try.underlying5 h1
    have hb := bounds_u8 hw
    simp only [List.cons.injEq, and_true] at hz
    refine ⟨UInt8.ofNat z.toNat, ?_⟩
    rw [hz]
    unfold bv
    congr 1
    rw [UInt8.toNat_ofNat']
    omega
  obtain ⟨l, hl2⟩ := list_bv cs.toList (fun v hv => by
    obtain ⟨i, hi, rfl⟩ := List.getElem_of_mem hv
    exact key i hi)
  refine ⟨l, ?_, ?_⟩
  · rw [hl2, List.length_map] at hl; exact hl
  · rw [← hl2]

end Go.Proofs.Ytfaipdifkmjdeaa
