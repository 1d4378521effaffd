/- What an argument that came in holds: a slice of bytes. -/
import Derived.Test.YtlifmipnoeioaaaGreatDoorBase
import Derived.ProofKit
import Derived.OpenShut
import Derived.Deep.Slices
import Derived.Test.YtlifmipnoeioaaaGreatDoorSHash
import Derived.LaidMore
import Derived.Lib.LaidTab
import Derived.Stop.LaidErr
namespace Go.Proofs.YtlifmipnoeioaaaGreatDoor
open Go.ChangeShapes Go.WideShapes Go.ChangeAt Go.RowKit Go.Deep

theorem own_knob : ownKnob Tryz.prog.godebug = none := by kernel_rfl

theorem laid_out : laidOutB Tryz.prog = true := by kernel_rfl

/-- A slice of bytes that came in holds bytes. -/
theorem bts_open {H : Type} {enc : TypeId × Value → H} {W : World} {a : Option Addr} {len cap : Nat} {d : DataW H} {p : List MemPlace} (h : DataW.Trod enc Tryz.prog W 0 (fun _ => true) true 37 (.slice a len cap) d p) :
    ∃ l : List UInt8, l.length = len ∧ Bts W a cap l := by
  obtain ⟨fuel, hf⟩ := h
  rcases open_ints Tryz.underlying37 Tryz.underlying5 (by kernel_rfl) hf with ⟨hcs, _⟩ | ⟨x, l, c, zs, hcs, _, hl, hm, hz, _, hcell, hwz⟩
  · simp [Value.cells] at hcs
    obtain ⟨rfl, rfl, rfl⟩ := hcs
    exact ⟨[], rfl, Bts.nil _⟩
  · simp [Value.cells] at hcs
    obtain ⟨rfl, rfl, rfl⟩ := hcs
    have hzc : zs.length = cap := by simpa using hz
    have hsp : 0 < zs.length → x.spot = none := fun h0 => by
      have := World.cell?_spot (hcell 0 h0)
      simpa [Addr.add] using this
    refine ⟨(zs.take len).map fun z => UInt8.ofNat z.toNat, by simp; omega, ⟨(fun e => by cases e), by simp; omega, hm, (fun ad e hp => by cases e; exact hsp (by simp at hp; omega)), (fun ad e i hi => ?_)⟩⟩
    cases e
    have hi' : i < len := by simp at hi; omega
    have hs := hsp (by omega)
    have hc := hcell i (by omega)
    obtain ⟨b, o, s⟩ := x
    simp only at hs
    subst hs
    rw [Addr.add_lit] at hc
    rw [hc]
    have hw := hwz _ (List.getElem_mem (show i < zs.length by omega))
    have hb := bounds_u8 hw
    simp only [List.getElem_map, List.getElem_take, List.getD, List.getElem?_eq_getElem (show i < zs.length by omega), Option.getD_some]
    congr 2
    rw [UInt8.toNat_ofNat']
    omega

/-- A slice of bytes in a cell. -/
theorem bts_cell {H : Type} {enc : TypeId × Value → H} {W : World} {fuel : Nat} {v : Value} {x : DataW H × List MemPlace} (h : DataW.trod enc Tryz.prog W 0 (fun _ => true) true fuel 37 [v] = some x) :
    ∃ l ao c, v = .slice ao (l : List UInt8).length c ∧ Bts W ao c l := by
  have hv : ∃ ao n c, v = .slice ao n c := by
    rcases open_ints Tryz.underlying37 Tryz.underlying5 (by kernel_rfl) h with ⟨hcs, _⟩ | ⟨y, l, c, zs, hcs, _⟩
    · cases hcs; exact ⟨_, _, _, rfl⟩
    · cases hcs; exact ⟨_, _, _, rfl⟩
  obtain ⟨ao, n, c, rfl⟩ := hv
  obtain ⟨l, h1, h2⟩ := bts_open (enc := enc) (W := W) (a := ao) (len := n) (cap := c) (d := x.1) (p := x.2) ⟨fuel, by simpa [Value.cells] using h⟩
  exact ⟨l, ao, c, by rw [h1], h2⟩

/-- A slice of bytes that came in is no greater than a machine's memory. -/
theorem bts_room {H : Type} {enc : TypeId × Value → H} {W : World} {a : Option Addr} {len cap : Nat} {d : DataW H} {p : List MemPlace} {ts : List TypeId} {ds : List (DataW H)} {j : Nat}
    (h : DataW.Trod enc Tryz.prog W 0 (fun _ => true) true 37 (.slice a len cap) d p) (hz : (DataW.weightsEach Tryz.prog ts ds).all (· ≤ reachBytes) = true) (ht : ts[j]? = some 37) (hd : ds[j]? = some d) : len ≤ 140737488355328 := by
  obtain ⟨fuel, hf⟩ := h
  rcases open_ints Tryz.underlying37 Tryz.underlying5 (by kernel_rfl) hf with ⟨hcs, _⟩ | ⟨x, l, c, zs, hcs, _, hl, hm, hz2, hx, hcell, hwz⟩
  · simp [Value.cells] at hcs
    obtain ⟨rfl, rfl, rfl⟩ := hcs
    omega
  · simp [Value.cells] at hcs
    obtain ⟨rfl, rfl, rfl⟩ := hcs
    have hzc : zs.length = cap := by simpa using hz2
    have e1 : d = .slice (lits .u8 (zs.take len)) (lits .u8 (zs.drop len)) := congrArg Prod.fst hx
    subst e1
    have h1 := sized_slice hz ht hd Tryz.underlying37
    have h2 : Tryz.prog.bytesOf 5 = 1 := by kernel_rfl
    have h3 := reachBytes_lt
    have h4 : ∀ ys : List Int, (lits .u8 ys : List (DataW H)).length = ys.length := fun ys => by simp [lits]
    rw [h2, h4, h4, ← List.length_append, List.take_append_drop] at h1
    omega

end Go.Proofs.YtlifmipnoeioaaaGreatDoor

/- What an argument that came in holds: a list of texts. -/
namespace Go.Proofs.YtlifmipnoeioaaaGreatDoor
open Go.ChangeShapes Go.WideShapes Go.ChangeAt Go.RowKit Go.Deep

theorem lst_open {H : Type} {enc : TypeId × Value → H} {W : World} {a : Option Addr} {len cap : Nat} {d : DataW H} {p : List MemPlace} (h : DataW.Trod enc Tryz.prog W 0 (fun _ => true) true 227 (.slice a len cap) d p) :
    ∃ L : List (List UInt8), L.length = len ∧ Lst W a cap L := by
  obtain ⟨fuel, hf⟩ := h
  rcases open_slice1 Tryz.underlying227 (by kernel_rfl) hf with ⟨hcs, _⟩ | ⟨x, l, c, m, n, V, D, Pl, hcs, _, hl, hm, hmm, _, hx⟩
  · simp [Value.cells] at hcs
    obtain ⟨rfl, rfl, rfl⟩ := hcs
    exact ⟨[], rfl, ⟨fun _ => ⟨rfl, rfl⟩, Nat.le_refl _, Nat.zero_le _, (fun _ e => by cases e), (fun _ e => by cases e)⟩⟩
  · simp [Value.cells] at hcs
    obtain ⟨rfl, rfl, rfl⟩ := hcs
    have hmc : m = cap := by simpa using hmm
    have hsp : 0 < m → x.spot = none := fun h0 => by
      have := World.cell?_spot (hx 0 h0).1
      simpa [Addr.add] using this
    have key : ∀ i, i < len → ∃ y : List UInt8, ∃ ao c, V i = .slice ao y.length c ∧ Bts W ao c y := fun i hi => by
      obtain ⟨y, ao, c, h1, h2⟩ := bts_cell (hx i (by omega)).2
      exact ⟨y, ao, c, h1, h2⟩
    obtain ⟨f, hfx⟩ := choose_lt (α := List UInt8) (p := fun i y => ∃ ao c, V i = .slice ao y.length c ∧ Bts W ao c y) key
    refine ⟨(List.range len).map f, by simp, ⟨(fun e => by cases e), by simp; omega, hm, (fun ad e hp => by cases e; exact hsp (by simp at hp; omega)), (fun ad e i hi => ?_)⟩⟩
    cases e
    have hi' : i < len := by simpa using hi
    have hs := hsp (by omega)
    have hc := (hx i (by omega)).1
    obtain ⟨b, o, s⟩ := x
    simp only at hs
    subst hs
    rw [Addr.add_lit] at hc
    obtain ⟨ao, ci, h1, h2⟩ := hfx i hi'
    rw [h1] at hc
    exact ⟨ao, ci, by simpa using hc, by simpa using h2⟩

end Go.Proofs.YtlifmipnoeioaaaGreatDoor

/- What a row that lists sha's two tables gives: they hold what the program's text lays in them. -/
namespace Go.Proofs.YtlifmipnoeioaaaGreatDoor
open Go.ChangeShapes Go.WideShapes Go.ChangeAt Go.RowKit

/-- What the rows list. -/
def laid2 : List (String × DataW Unit) := [("coffret/sha.squareRoots", Rows.laid_coffret_sha_squareRoots), ("coffret/sha.cubeRoots", Rows.laid_coffret_sha_cubeRoots)]

theorem laid_sq : (Rows.laid_coffret_sha_squareRoots : DataW Unit) = Lib.tabData .u32 (Hs.map wz) := by kernel_rfl
theorem laid_cu : (Rows.laid_coffret_sha_cubeRoots : DataW Unit) = Lib.tabData .u32 (Ks.map wz) := by kernel_rfl
theorem g_sq : Tryz.prog.globalNamed "coffret/sha.squareRoots" = some 2 := by kernel_rfl
theorem g_cu : Tryz.prog.globalNamed "coffret/sha.cubeRoots" = some 1 := by kernel_rfl
theorem t_sq : (Tryz.prog.globals[2]?).map (·.type) = some 210 := by kernel_rfl
theorem t_cu : (Tryz.prog.globals[1]?).map (·.type) = some 233 := by kernel_rfl

theorem var_row {W : World} {name : String} {g : Nat} {cs : Array Value} (hg : Tryz.prog.globalNamed name = some g) (h : W.var? Tryz.prog name = some cs) : ∃ t fr, W.heap[g]? = some (.cells cs t fr) := by
  unfold World.var? at h
  rw [hg, Option.bind_some] at h
  split at h
  · rename_i cs' t fr hh
    cases h
    exact ⟨t, fr, hh⟩
  · cases h

theorem words_wv (l : List W) : (l.map wz).map (fun z => Value.int .u32 z) = l.map wv := by
  rw [List.map_map]; rfl

/-- From the row's condition to what the contracts ask. -/
theorem tabs_of_laid {W : World} (h : laidMetH Tryz.prog laid2 W) : Tabs W := by
  rw [MakeChecks.laidMetH_plain _ _ _ (by kernel_rfl)] at h
  unfold laid2 at h
  rw [laid_sq, laid_cu] at h
  have h1 := Lib.tabIs_of_head g_sq t_sq Tryz.underlying210 Tryz.underlying209 (by kernel_rfl) (by kernel_rfl) h
  have h2 := Lib.tabIs_of_head g_cu t_cu Tryz.underlying233 Tryz.underlying209 (by kernel_rfl) (by kernel_rfl) h.tail
  unfold Lib.TabIs at h1 h2
  rw [words_wv] at h1 h2
  exact ⟨var_row g_cu h2, var_row g_sq h1⟩

theorem door_met (os : Os) (args : Array Value) : laidMetH Tryz.prog laid2 ((World.doorLaid Tryz.prog 400 os).forCall (fun _ _ => 0) ⟨#[], args, []⟩).memory :=
  laidMetH_of_parts3 (fuel := 8) (laidMet_of_run' 8 (by kernel_rfl) (by kernel_rfl)) (by kernel_rfl) (by kernel_rfl)

end Go.Proofs.YtlifmipnoeioaaaGreatDoor

/- What an argument that came in holds: an array of bytes by value. -/
namespace Go.Proofs.YtlifmipnoeioaaaGreatDoor
open Go.ChangeShapes Go.WideShapes Go.ChangeAt Go.RowKit Go.Deep

theorem okWide_arr {P : Program} {w : World} {r : Reach} {base : Nat} {t : TypeId} {v : Value} {n : Nat} {e : TypeId} (ht : P.underlying t = some (.array n e)) (h : Value.okWide P w r base t v) : ∃ cs, v = .agg cs := by
  simp only [Value.okWide, ht] at h
  obtain ⟨cs, h1, _⟩ := h
  exact ⟨cs, h1⟩

theorem list_bv : ∀ cs : List Value, (∀ v ∈ cs, ∃ b : UInt8, v = bv b) → ∃ l : List UInt8, cs = l.map bv
  | [], _ => ⟨[], rfl⟩
  | v :: r, h => by
    obtain ⟨b, hb⟩ := h v (by simp)
    obtain ⟨l, hl⟩ := list_bv r (fun u hu => h u (by simp [hu]))
    exact ⟨b :: l, by rw [hb, hl]; rfl⟩

set_option maxRecDepth 100000 in
/-- An array of bytes that came in by value. -/
theorem arr_open {H : Type} {enc : TypeId × Value → H} {W : World} {base : Nat} {t : TypeId} {n : Nat} {v : Value} {d : DataW H} {p : List MemPlace} (ht : Tryz.prog.underlying t = some (.array n 5)) (hn : Tryz.prog.cellsOf t = n) (hval : Value.okWide Tryz.prog W .any base t v) (h : DataW.Trod enc Tryz.prog W 0 (fun _ => true) true t v d p) :
    ∃ l : List UInt8, l.length = n ∧ v = .agg (l.map bv).toArray := by
  obtain ⟨cs, rfl⟩ := okWide_arr ht hval
  obtain ⟨fuel, hf⟩ := h
  obtain ⟨xs, m, rfl, _, hl, hxl, hx⟩ := DataW.trod_array ht hf
  have hc1 : Tryz.prog.cellsOf 5 = 1 := by kernel_rfl
  have hcs : (Value.agg cs).cells.toList = cs.toList := rfl
  rw [hcs] at hl hx
  rw [hn] at hl
  have key : ∀ i (hi : i < cs.toList.length), ∃ b : UInt8, cs.toList[i] = bv b := by
    intro i hi
    have h1 := hx i (by omega)
    rw [hc1, Nat.mul_one, List.drop_eq_getElem_cons hi, List.take_succ_cons, List.take_zero] at h1
    have hlt : i < xs.length := by omega
    rw [List.getElem?_eq_getElem hlt] at h1
    obtain ⟨z, hz, _, hw⟩ := DataW.trod_int Tryz.underlying5 h1
    have hb := bounds_u8 hw
    simp only [List.cons.injEq, and_true] at hz
    refine ⟨UInt8.ofNat z.toNat, ?_⟩
    rw [hz]
    unfold bv
    congr 1
    rw [UInt8.toNat_ofNat']
    omega
  obtain ⟨l, hl2⟩ := list_bv cs.toList (fun v hv => by
    obtain ⟨i, hi, rfl⟩ := List.getElem_of_mem hv
    exact key i hi)
  refine ⟨l, ?_, ?_⟩
  · rw [hl2, List.length_map] at hl; exact hl
  · rw [← hl2]

end Go.Proofs.YtlifmipnoeioaaaGreatDoor
