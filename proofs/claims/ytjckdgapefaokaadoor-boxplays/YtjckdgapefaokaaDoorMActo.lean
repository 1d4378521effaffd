/- BoxPlays' walk: in both modes any texts are sealed to the document's bytes, and any bytes opened as it says. For any number, first bytes and steps. -/
import Derived.Test.YtjckdgapefaokaaDoorWBPlaysN
import Derived.Test.YtjckdgapefaokaaDoorWBPlaysM
import Derived.Test.YtjckdgapefaokaaDoorMLst
import Derived.ProofKit
import Derived.OpenShut
import Derived.Deep.Slices
import Derived.Test.YtjckdgapefaokaaDoorSHash
import Derived.LaidMore
import Derived.Lib.LaidTab
import Derived.Stop.LaidErr
import Derived.Test.YtjckdgapefaokaaDoorCKn
import Derived.Test.YtjckdgapefaokaaDoorBActs
namespace Go.Proofs.YtjckdgapefaokaaDoor
open Go.RowKit

theorem boxPlays_any (w : World) (mz : Int) (a0 : Option Addr) (c0 : Nat) (l0 : List UInt8) (hb0 : Bts w a0 c0 l0) (ao : Option Addr) (cl : Nat) (l : List ActR) (hA : Acts w ao cl l) (hT : Tabs w) (hC : CTab w) :
    Calls Tryd.prog 3 #[.int .i64 mz, .slice a0 l0.length c0, .slice ao l.length cl] w fun e w' => e = .returned (.bool true) ∧ w.grownBy w' none := by
  have hf := hb0.fits
  have hn : (l0.length = (l0.take 300).length ∧ l0.length ≤ 300) ∨ (300 < l0.length ∧ (l0.take 300).length = 300 ∧ l0.length ≤ c0) := by
    by_cases h : 300 < l0.length
    · exact Or.inr ⟨h, by rw [List.length_take]; omega, hf⟩
    · exact Or.inl ⟨by rw [List.length_take]; omega, by omega⟩
  by_cases h0 : mz = 0
  · subst h0
    exact boxPlays_m w 0 (Or.inl rfl) a0 l0.length c0 (l0.take 300) (hb0.short 300) ao cl l hA hT hC hn
  · by_cases h1 : mz = 1
    · subst h1
      exact boxPlays_m w 1 (Or.inr rfl) a0 l0.length c0 (l0.take 300) (hb0.short 300) ao cl l hA hT hC hn
    · exact boxPlays_no w mz h0 h1 a0 l0.length c0 (l0.take 300) (hb0.short 300) _ hT hC hn

end Go.Proofs.YtjckdgapefaokaaDoor

/- What an argument that came in holds: a slice of bytes. -/
namespace Go.Proofs.YtjckdgapefaokaaDoor
open Go.ChangeShapes Go.WideShapes Go.ChangeAt Go.RowKit Go.Deep

theorem own_knob : ownKnob Tryd.prog.godebug = none := by kernel_rfl

theorem laid_out : laidOutB Tryd.prog = true := by kernel_rfl

/-- A slice of bytes that came in holds bytes. -/
theorem bts_open {H : Type} {enc : TypeId × Value → H} {W : World} {a : Option Addr} {len cap : Nat} {d : DataW H} {p : List MemPlace} (h : DataW.Trod enc Tryd.prog W 0 (fun _ => true) true 22 (.slice a len cap) d p) :
    ∃ l : List UInt8, l.length = len ∧ Bts W a cap l := by
  obtain ⟨fuel, hf⟩ := h
  rcases open_ints Tryd.underlying22 Tryd.underlying5 (by kernel_rfl) hf with ⟨hcs, _⟩ | ⟨x, l, c, zs, hcs, _, hl, hm, hz, _, hcell, hwz⟩
  · simp [Value.cells] at hcs
    obtain ⟨rfl, rfl, rfl⟩ := hcs
    exact ⟨[], rfl, Bts.nil _⟩
  · simp [Value.cells] at hcs
    obtain ⟨rfl, rfl, rfl⟩ := hcs
    have hzc : zs.length = cap := by simpa using hz
    have hsp : 0 < zs.length → x.spot = none := fun h0 => by
      have := World.cell?_spot (hcell 0 h0)
      simpa [Addr.add] using this
    refine ⟨(zs.take len).map fun z => UInt8.ofNat z.toNat, by simp; omega, ⟨(fun e => by cases e), by simp; omega, hm, (fun ad e hp => by cases e; exact hsp (by simp at hp; omega)), (fun ad e i hi => ?_)⟩⟩
    cases e
    have hi' : i < len := by simp at hi; omega
    have hs := hsp (by omega)
    have hc := hcell i (by omega)
    obtain ⟨b, o, s⟩ := x
    simp only at hs
    subst hs
    rw [Addr.add_lit] at hc
    rw [hc]
    have hw := hwz _ (List.getElem_mem (show i < zs.length by omega))
    have hb := bounds_u8 hw
    simp only [List.getElem_map, List.getElem_take, List.getD, List.getElem?_eq_getElem (show i < zs.length by omega), Option.getD_some]
    congr 2
    rw [UInt8.toNat_ofNat']
    omega

/-- A slice of bytes in a cell. -/
theorem bts_cell {H : Type} {enc : TypeId × Value → H} {W : World} {fuel : Nat} {v : Value} {x : DataW H × List MemPlace} (h : DataW.trod enc Tryd.prog W 0 (fun _ => true) true fuel 22 [v] = some x) :
    ∃ l ao c, v = .slice ao (l : List UInt8).length c ∧ Bts W ao c l := by
  have hv : ∃ ao n c, v = .slice ao n c := by
    rcases open_ints Tryd.underlying22 Tryd.underlying5 (by kernel_rfl) h with ⟨hcs, _⟩ | ⟨y, l, c, zs, hcs, _⟩
    · cases hcs; exact ⟨_, _, _, rfl⟩
    · cases hcs; exact ⟨_, _, _, rfl⟩
  obtain ⟨ao, n, c, rfl⟩ := hv
  obtain ⟨l, h1, h2⟩ := bts_open (enc := enc) (W := W) (a := ao) (len := n) (cap := c) (d := x.1) (p := x.2) ⟨fuel, by simpa [Value.cells] using h⟩
  exact ⟨l, ao, c, by rw [h1], h2⟩

/-- A slice of bytes that came in is no greater than a machine's memory. -/
theorem bts_room {H : Type} {enc : TypeId × Value → H} {W : World} {a : Option Addr} {len cap : Nat} {d : DataW H} {p : List MemPlace} {ts : List TypeId} {ds : List (DataW H)} {j : Nat}
    (h : DataW.Trod enc Tryd.prog W 0 (fun _ => true) true 22 (.slice a len cap) d p) (hz : (DataW.weightsEach Tryd.prog ts ds).all (· ≤ reachBytes) = true) (ht : ts[j]? = some 22) (hd : ds[j]? = some d) : len ≤ 140737488355328 := by
  obtain ⟨fuel, hf⟩ := h
  rcases open_ints Tryd.underlying22 Tryd.underlying5 (by kernel_rfl) hf with ⟨hcs, _⟩ | ⟨x, l, c, zs, hcs, _, hl, hm, hz2, hx, hcell, hwz⟩
  · simp [Value.cells] at hcs
    obtain ⟨rfl, rfl, rfl⟩ := hcs
    omega
  · simp [Value.cells] at hcs
    obtain ⟨rfl, rfl, rfl⟩ := hcs
    have hzc : zs.length = cap := by simpa using hz2
    have e1 : d = .slice (lits .u8 (zs.take len)) (lits .u8 (zs.drop len)) := congrArg Prod.fst hx
    subst e1
    have h1 := sized_slice hz ht hd Tryd.underlying22
    have h2 : Tryd.prog.bytesOf 5 = 1 := by kernel_rfl
    have h3 := reachBytes_lt
    have h4 : ∀ ys : List Int, (lits .u8 ys : List (DataW H)).length = ys.length := fun ys => by simp [lits]
    rw [h2, h4, h4, ← List.length_append, List.take_append_drop] at h1
    omega

end Go.Proofs.YtjckdgapefaokaaDoor

/- What an argument that came in holds: a list of texts. -/
namespace Go.Proofs.YtjckdgapefaokaaDoor
open Go.ChangeShapes Go.WideShapes Go.ChangeAt Go.RowKit Go.Deep

theorem lst_open {H : Type} {enc : TypeId × Value → H} {W : World} {a : Option Addr} {len cap : Nat} {d : DataW H} {p : List MemPlace} (h : DataW.Trod enc Tryd.prog W 0 (fun _ => true) true 53 (.slice a len cap) d p) :
    ∃ L : List (List UInt8), L.length = len ∧ Lst W a cap L := by
  obtain ⟨fuel, hf⟩ := h
  rcases open_slice1 Tryd.underlying53 (by kernel_rfl) hf with ⟨hcs, _⟩ | ⟨x, l, c, m, n, V, D, Pl, hcs, _, hl, hm, hmm, _, hx⟩
  · simp [Value.cells] at hcs
    obtain ⟨rfl, rfl, rfl⟩ := hcs
    exact ⟨[], rfl, ⟨fun _ => ⟨rfl, rfl⟩, Nat.le_refl _, Nat.zero_le _, (fun _ e => by cases e), (fun _ e => by cases e)⟩⟩
  · simp [Value.cells] at hcs
    obtain ⟨rfl, rfl, rfl⟩ := hcs
    have hmc : m = cap := by simpa using hmm
    have hsp : 0 < m → x.spot = none := fun h0 => by
      have := World.cell?_spot (hx 0 h0).1
      simpa [Addr.add] using this
    have key : ∀ i, i < len → ∃ y : List UInt8, ∃ ao c, V i = .slice ao y.length c ∧ Bts W ao c y := fun i hi => by
      obtain ⟨y, ao, c, h1, h2⟩ := bts_cell (hx i (by omega)).2
      exact ⟨y, ao, c, h1, h2⟩
    obtain ⟨f, hfx⟩ := choose_lt (α := List UInt8) (p := fun i y => ∃ ao c, V i = .slice ao y.length c ∧ Bts W ao c y) key
    refine ⟨(List.range len).map f, by simp, ⟨(fun e => by cases e), by simp; omega, hm, (fun ad e hp => by cases e; exact hsp (by simp at hp; omega)), (fun ad e i hi => ?_)⟩⟩
    cases e
    have hi' : i < len := by simpa using hi
    have hs := hsp (by omega)
    have hc := (hx i (by omega)).1
    obtain ⟨b, o, s⟩ := x
    simp only at hs
    subst hs
    rw [Addr.add_lit] at hc
    obtain ⟨ao, ci, h1, h2⟩ := hfx i hi'
    rw [h1] at hc
    exact ⟨ao, ci, by simpa using hc, by simpa using h2⟩

end Go.Proofs.YtjckdgapefaokaaDoor

/- What a row that lists sha's two tables gives: they hold what the program's text lays in them. -/
namespace Go.Proofs.YtjckdgapefaokaaDoor
open Go.ChangeShapes Go.WideShapes Go.ChangeAt Go.RowKit

/-- What the rows list. -/
def laid2 : List (String × DataW Unit) := [("coffret/sha.squareRoots", Rows.laid_coffret_sha_squareRoots), ("coffret/sha.cubeRoots", Rows.laid_coffret_sha_cubeRoots)]

theorem laid_sq : (Rows.laid_coffret_sha_squareRoots : DataW Unit) = Lib.tabData .u32 (Hs.map wz) := by kernel_rfl
theorem laid_cu : (Rows.laid_coffret_sha_cubeRoots : DataW Unit) = Lib.tabData .u32 (Ks.map wz) := by kernel_rfl
theorem g_sq : Tryd.prog.globalNamed "coffret/sha.squareRoots" = some 1 := by kernel_rfl
theorem g_cu : Tryd.prog.globalNamed "coffret/sha.cubeRoots" = some 0 := by kernel_rfl
theorem t_sq : (Tryd.prog.globals[1]?).map (·.type) = some 96 := by kernel_rfl
theorem t_cu : (Tryd.prog.globals[0]?).map (·.type) = some 140 := by kernel_rfl

theorem var_row {W : World} {name : String} {g : Nat} {cs : Array Value} (hg : Tryd.prog.globalNamed name = some g) (h : W.var? Tryd.prog name = some cs) : ∃ t fr, W.heap[g]? = some (.cells cs t fr) := by
  unfold World.var? at h
  rw [hg, Option.bind_some] at h
  split at h
  · rename_i cs' t fr hh
    cases h
    exact ⟨t, fr, hh⟩
  · cases h

theorem words_wv (l : List W) : (l.map wz).map (fun z => Value.int .u32 z) = l.map wv := by
  rw [List.map_map]; rfl

/-- From the row's condition to what the contracts ask. -/
theorem tabs_of_laid {W : World} (h : laidMetH Tryd.prog laid2 W) : Tabs W := by
  rw [MakeChecks.laidMetH_plain _ _ _ (by kernel_rfl)] at h
  unfold laid2 at h
  rw [laid_sq, laid_cu] at h
  have h1 := Lib.tabIs_of_head g_sq t_sq Tryd.underlying96 Tryd.underlying92 (by kernel_rfl) (by kernel_rfl) h
  have h2 := Lib.tabIs_of_head g_cu t_cu Tryd.underlying140 Tryd.underlying92 (by kernel_rfl) (by kernel_rfl) h.tail
  unfold Lib.TabIs at h1 h2
  rw [words_wv] at h1 h2
  exact ⟨var_row g_cu h2, var_row g_sq h1⟩

theorem door_met (os : Os) (args : Array Value) : laidMetH Tryd.prog laid2 ((World.doorLaid Tryd.prog 400 os).forCall (fun _ _ => 0) ⟨#[], args, []⟩).memory :=
  laidMetH_of_parts3 (fuel := 8) (laidMet_of_run' 8 (by kernel_rfl) (by kernel_rfl)) (by kernel_rfl) (by kernel_rfl)

end Go.Proofs.YtjckdgapefaokaaDoor

/- What an argument that came in holds: an array of bytes by value. -/
namespace Go.Proofs.YtjckdgapefaokaaDoor
open Go.ChangeShapes Go.WideShapes Go.ChangeAt Go.RowKit Go.Deep

theorem okWide_arr {P : Program} {w : World} {r : Reach} {base : Nat} {t : TypeId} {v : Value} {n : Nat} {e : TypeId} (ht : P.underlying t = some (.array n e)) (h : Value.okWide P w r base t v) : ∃ cs, v = .agg cs := by
  simp only [Value.okWide, ht] at h
  obtain ⟨cs, h1, _⟩ := h
  exact ⟨cs, h1⟩

theorem list_bv : ∀ cs : List Value, (∀ v ∈ cs, ∃ b : UInt8, v = bv b) → ∃ l : List UInt8, cs = l.map bv
  | [], _ => ⟨[], rfl⟩
  | v :: r, h => by
    obtain ⟨b, hb⟩ := h v (by simp)
    obtain ⟨l, hl⟩ := list_bv r (fun u hu => h u (by simp [hu]))
    exact ⟨b :: l, by rw [hb, hl]; rfl⟩

set_option maxRecDepth 100000 in
/-- An array of bytes that came in by value. -/
theorem arr_open {H : Type} {enc : TypeId × Value → H} {W : World} {base : Nat} {t : TypeId} {n : Nat} {v : Value} {d : DataW H} {p : List MemPlace} (ht : Tryd.prog.underlying t = some (.array n 5)) (hn : Tryd.prog.cellsOf t = n) (hval : Value.okWide Tryd.prog W .any base t v) (h : DataW.Trod enc Tryd.prog W 0 (fun _ => true) true t v d p) :
    ∃ l : List UInt8, l.length = n ∧ v = .agg (l.map bv).toArray := by
  obtain ⟨cs, rfl⟩ := okWide_arr ht hval
  obtain ⟨fuel, hf⟩ := h
  obtain ⟨xs, m, rfl, _, hl, hxl, hx⟩ := DataW.trod_array ht hf
  have hc1 : Tryd.prog.cellsOf 5 = 1 := by kernel_rfl
  have hcs : (Value.agg cs).cells.toList = cs.toList := rfl
  rw [hcs] at hl hx
  rw [hn] at hl
  have key : ∀ i (hi : i < cs.toList.length), ∃ b : UInt8, cs.toList[i] = bv b := by
    intro i hi
    have h1 := hx i (by omega)
    rw [hc1, Nat.mul_one, List.drop_eq_getElem_cons hi, List.take_succ_cons, List.take_zero] at h1
    have hlt : i < xs.length := by omega
    rw [List.getElem?_eq_getElem hlt] at h1
    obtain ⟨z, hz, _, hw⟩ := DataW.trod_int Tryd.underlying5 h1
    have hb := bounds_u8 hw
    simp only [List.cons.injEq, and_true] at hz
    refine ⟨UInt8.ofNat z.toNat, ?_⟩
    rw [hz]
    unfold bv
    congr 1
    rw [UInt8.toNat_ofNat']
    omega
  obtain ⟨l, hl2⟩ := list_bv cs.toList (fun v hv => by
    obtain ⟨i, hi, rfl⟩ := List.getElem_of_mem hv
    exact key i hi)
  refine ⟨l, ?_, ?_⟩
  · rw [hl2, List.length_map] at hl; exact hl
  · rw [← hl2]

end Go.Proofs.YtjckdgapefaokaaDoor

/- What a row that lists chacha's table gives: it holds what the program's text lays in it. -/
namespace Go.Proofs.YtjckdgapefaokaaDoor
open Go.ChangeShapes Go.WideShapes Go.ChangeAt Go.RowKit

/-- What the rows list. -/
def laid1 : List (String × DataW Unit) := [("coffret/chacha.firstWords", Rows.laid_coffret_chacha_firstWords)]

theorem laid_fw : (Rows.laid_coffret_chacha_firstWords : DataW Unit) = Lib.tabData .u32 (Fw.map wz) := by kernel_rfl
theorem g_fw : Tryd.prog.globalNamed "coffret/chacha.firstWords" = some 2 := by kernel_rfl
theorem t_fw : (Tryd.prog.globals[2]?).map (·.type) = some 158 := by kernel_rfl

theorem var_row1 {W : World} {name : String} {g : Nat} {cs : Array Value} (hg : Tryd.prog.globalNamed name = some g) (h : W.var? Tryd.prog name = some cs) : ∃ t fr, W.heap[g]? = some (.cells cs t fr) := by
  unfold World.var? at h
  rw [hg, Option.bind_some] at h
  split at h
  · rename_i cs' t fr hh
    cases h
    exact ⟨t, fr, hh⟩
  · cases h

theorem words_wv1 (l : List W) : (l.map wz).map (fun z => Value.int .u32 z) = l.map wv := by
  rw [List.map_map]; rfl

/-- From the row's condition to what the contracts ask. -/
theorem ctab_of_laid {W : World} (h : laidMetH Tryd.prog laid1 W) : CTab W := by
  rw [MakeChecks.laidMetH_plain _ _ _ (by kernel_rfl)] at h
  unfold laid1 at h
  rw [laid_fw] at h
  have h1 := Lib.tabIs_of_head g_fw t_fw Tryd.underlying158 Tryd.underlying92 (by kernel_rfl) (by kernel_rfl) h
  unfold Lib.TabIs at h1
  rw [words_wv1] at h1
  exact ⟨var_row1 g_fw h1⟩

theorem door_met1 (os : Os) (args : Array Value) : laidMetH Tryd.prog laid1 ((World.doorLaid Tryd.prog 400 os).forCall (fun _ _ => 0) ⟨#[], args, []⟩).memory :=
  laidMetH_of_parts3 (fuel := 8) (laidMet_of_run' 8 (by kernel_rfl) (by kernel_rfl)) (by kernel_rfl) (by kernel_rfl)

end Go.Proofs.YtjckdgapefaokaaDoor

/- What a row that lists sha's two tables and chacha's gives: they hold what the program's text lays in them. -/
namespace Go.Proofs.YtjckdgapefaokaaDoor
open Go.ChangeShapes Go.WideShapes Go.ChangeAt Go.RowKit

/-- What the rows list. -/
def laid3 : List (String × DataW Unit) := [("coffret/sha.squareRoots", Rows.laid_coffret_sha_squareRoots), ("coffret/sha.cubeRoots", Rows.laid_coffret_sha_cubeRoots), ("coffret/chacha.firstWords", Rows.laid_coffret_chacha_firstWords)]

/-- From the row's condition to what the contracts ask. -/
theorem tabs_of_laid3 {W : World} (h : laidMetH Tryd.prog laid3 W) : Tabs W ∧ CTab W := by
  rw [MakeChecks.laidMetH_plain _ _ _ (by kernel_rfl)] at h
  unfold laid3 at h
  rw [laid_sq, laid_cu, laid_fw] at h
  have h1 := Lib.tabIs_of_head g_sq t_sq Tryd.underlying96 Tryd.underlying92 (by kernel_rfl) (by kernel_rfl) h
  have h2 := Lib.tabIs_of_head g_cu t_cu Tryd.underlying140 Tryd.underlying92 (by kernel_rfl) (by kernel_rfl) h.tail
  have h3 := Lib.tabIs_of_head g_fw t_fw Tryd.underlying158 Tryd.underlying92 (by kernel_rfl) (by kernel_rfl) h.tail.tail
  unfold Lib.TabIs at h1 h2 h3
  rw [words_wv] at h1 h2
  rw [words_wv1] at h3
  exact ⟨⟨var_row g_cu h2, var_row g_sq h1⟩, ⟨var_row1 g_fw h3⟩⟩

theorem door_met3 (os : Os) (args : Array Value) : laidMetH Tryd.prog laid3 ((World.doorLaid Tryd.prog 400 os).forCall (fun _ _ => 0) ⟨#[], args, []⟩).memory :=
  laidMetH_of_parts3 (fuel := 8) (laidMet_of_run' 8 (by kernel_rfl) (by kernel_rfl)) (by kernel_rfl) (by kernel_rfl)

end Go.Proofs.YtjckdgapefaokaaDoor

/- What an argument that came in holds: a slice of steps; and a byte. -/
namespace Go.Proofs.YtjckdgapefaokaaDoor
open Go.ChangeShapes Go.WideShapes Go.ChangeAt Go.RowKit Go.Deep

theorem byte_open {z : Int} (h : (Lit.int .u8 z).wf = true) : ∃ x : UInt8, .int .u8 z = bv x := by
  have hb := bounds_u8 h
  refine ⟨UInt8.ofNat z.toNat, ?_⟩
  unfold bv
  congr 1
  rw [UInt8.toNat_ofNat']
  omega

theorem act_fields : ∃ f0 f1 f2 f3 f4 : Field, Tryd.prog.underlying 35 = some (.struct #[f0, f1, f2, f3, f4]) ∧ (f0.type = 3 ∧ f0.offset = 0) ∧ (f1.type = 3 ∧ f1.offset = 1) ∧ (f2.type = 5 ∧ f2.offset = 2) ∧ (f3.type = 22 ∧ f3.offset = 3) ∧ (f4.type = 22 ∧ f4.offset = 4) :=
  ⟨_, _, _, _, _, Tryd.underlying35, ⟨rfl, rfl⟩, ⟨rfl, rfl⟩, ⟨rfl, rfl⟩, ⟨rfl, rfl⟩, ⟨rfl, rfl⟩⟩

set_option maxRecDepth 100000 in
theorem act_open {H : Type} {enc : TypeId × Value → H} {W : World} {n : Nat} {cs : List Value} {x : DataW H × List MemPlace} (h : DataW.trod enc Tryd.prog W 0 (fun _ => true) true n 35 cs = some x) :
    ∃ r : ActR, cs = [.int .i64 r.kind, .int .i64 r.n, bv r.key, .slice r.bo r.be.length r.bc, .slice r.xo r.tx.length r.xc] ∧ Bts W r.bo r.bc r.be ∧ Bts W r.xo r.xc r.tx := by
  obtain ⟨f0, f1, f2, f3, f4, he, ⟨t0, o0⟩, ⟨t1, o1⟩, ⟨t2, o2⟩, ⟨t3, o3⟩, ⟨t4, o4⟩⟩ := act_fields
  have k0 : Tryd.prog.cellsOf 3 = 1 := by kernel_rfl
  have k2 : Tryd.prog.cellsOf 5 = 1 := by kernel_rfl
  have k3 : Tryd.prog.cellsOf 22 = 1 := by kernel_rfl
  have k5 : Tryd.prog.cellsOf 35 = 5 := by kernel_rfl
  obtain ⟨xs, k, hk, hxy, hl, hxl, hf⟩ := DataW.trod_struct he h
  rw [k5] at hl
  match xs, hxl, cs, hl with
  | [y0, y1, y2, y3, y4], _, [v0, v1, v2, v3, v4], _ =>
    have g0 := hf 0 f0 rfl
    have g1 := hf 1 f1 rfl
    have g2 := hf 2 f2 rfl
    have g3 := hf 3 f3 rfl
    have g4 := hf 4 f4 rfl
    rw [t0, o0, k0] at g0
    rw [t1, o1, k0] at g1
    rw [t2, o2, k2] at g2
    rw [t3, o3, k3] at g3
    rw [t4, o4, k3] at g4
    simp only [List.drop_zero, List.drop_succ_cons, List.take_succ_cons, List.take_zero, List.getElem?_cons_zero, List.getElem?_cons_succ] at g0 g1 g2 g3 g4
    obtain ⟨z0, e0, _, _⟩ := DataW.trod_int Tryd.underlying3 g0
    obtain ⟨z1, e1, _, _⟩ := DataW.trod_int Tryd.underlying3 g1
    obtain ⟨z2, e2, _, w2⟩ := DataW.trod_int Tryd.underlying5 g2
    obtain ⟨y, hy⟩ := byte_open w2
    obtain ⟨l3, a3, c3, e3, b3⟩ := bts_cell g3
    obtain ⟨l4, a4, c4, e4, b4⟩ := bts_cell g4
    refine ⟨⟨z0, z1, y, a3, c3, l3, a4, c4, l4⟩, ?_, b3, b4⟩
    simp only [List.cons.injEq, and_true] at e0 e1 e2
    rw [e0, e1, e2, hy, e3, e4]

set_option maxRecDepth 100000 in
/-- A slice of steps that came in holds steps. -/
theorem acts_open {H : Type} {enc : TypeId × Value → H} {W : World} {a : Option Addr} {len cap : Nat} {d : DataW H} {p : List MemPlace} (h : DataW.Trod enc Tryd.prog W 0 (fun _ => true) true 23 (.slice a len cap) d p) :
    ∃ l : List ActR, l.length = len ∧ Acts W a cap l := by
  obtain ⟨fuel, hf⟩ := h
  have k5 : Tryd.prog.cellsOf 35 = 5 := by kernel_rfl
  rcases open_slice Tryd.underlying23 hf with ⟨hcs, _⟩ | ⟨x, l, c, m, n, D, Pl, hcs, _, hl, hm, hmm, _, hx⟩
  · simp [Value.cells] at hcs
    obtain ⟨rfl, rfl, rfl⟩ := hcs
    exact ⟨[], rfl, ⟨fun _ => ⟨rfl, rfl⟩, Nat.le_refl _, Nat.zero_le _, (fun _ e => by cases e), (fun _ e => by cases e), (fun _ e => by cases e), (fun _ e => by cases e), (fun _ e => by cases e), (fun _ e => by cases e), (fun i hi => by simp at hi), (fun i hi => by simp at hi)⟩⟩
  · simp [Value.cells] at hcs
    obtain ⟨rfl, rfl, rfl⟩ := hcs
    have hmc : m = cap := by rw [hmm]; rfl
    have each : ∀ i, i < len → ∃ r : ActR, (W.cell? (x.add (i * 5 + 0)) = some (.int .i64 r.kind) ∧ W.cell? (x.add (i * 5 + 1)) = some (.int .i64 r.n) ∧ W.cell? (x.add (i * 5 + 2)) = some (bv r.key) ∧ W.cell? (x.add (i * 5 + 3)) = some (.slice r.bo r.be.length r.bc) ∧ W.cell? (x.add (i * 5 + 4)) = some (.slice r.xo r.tx.length r.xc)) ∧ Bts W r.bo r.bc r.be ∧ Bts W r.xo r.xc r.tx := by
      intro i hi
      obtain ⟨cs', h1, h2⟩ := hx i (by omega)
      rw [k5] at h1
      obtain ⟨_, hlen, hcell⟩ := World.cells?_some h1
      obtain ⟨r, rfl, hb, ht⟩ := act_open h2
      have e0 := hcell 0 (by omega)
      have e1 := hcell 1 (by omega)
      have e2 := hcell 2 (by omega)
      have e3 := hcell 3 (by omega)
      have e4 := hcell 4 (by omega)
      rw [add_add] at e0 e1 e2 e3 e4
      exact ⟨r, ⟨by simpa using e0, by simpa using e1, by simpa using e2, by simpa using e3, by simpa using e4⟩, hb, ht⟩
    obtain ⟨q, hq⟩ := choose_lt each
    have hsp : 0 < len → x.spot = none := fun h0 => by
      have := World.cell?_spot (hq 0 h0).1.1
      simpa [Addr.add] using this
    obtain ⟨b, o, sp⟩ := x
    have hq' : ∀ i, i < len → ∀ j, (⟨b, o, sp⟩ : Addr).add (i * 5 + j) = ⟨b, o + (i * 5 + j), none⟩ := fun i hi j => by
      have := hsp (by omega)
      simp only at this
      subst this
      exact Addr.add_lit _ _ _
    refine ⟨(List.range len).map q, by simp, ⟨(fun e => by cases e), by simpa using hl, hm, (fun ad e hp => by cases e; exact hsp (by simpa using hp)), ?_, ?_, ?_, ?_, ?_, ?_, ?_⟩⟩
    · intro ad e i hi
      cases e
      have hi' : i < len := by simpa using hi
      have := (hq i hi').1.1
      rw [hq' i hi'] at this
      simpa using this
    · intro ad e i hi
      cases e
      have hi' : i < len := by simpa using hi
      have := (hq i hi').1.2.1
      rw [hq' i hi'] at this
      simpa using this
    · intro ad e i hi
      cases e
      have hi' : i < len := by simpa using hi
      have := (hq i hi').1.2.2.1
      rw [hq' i hi'] at this
      simpa using this
    · intro ad e i hi
      cases e
      have hi' : i < len := by simpa using hi
      have := (hq i hi').1.2.2.2.1
      rw [hq' i hi'] at this
      simpa using this
    · intro ad e i hi
      cases e
      have hi' : i < len := by simpa using hi
      have := (hq i hi').1.2.2.2.2
      rw [hq' i hi'] at this
      simpa using this
    · intro i hi
      have hi' : i < len := by simpa using hi
      simpa using (hq i hi').2.1
    · intro i hi
      have hi' : i < len := by simpa using hi
      simpa using (hq i hi').2.2

end Go.Proofs.YtjckdgapefaokaaDoor
