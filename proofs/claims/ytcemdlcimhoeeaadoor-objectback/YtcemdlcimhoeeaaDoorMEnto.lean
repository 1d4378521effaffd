/- What arguments that came in hold: entries, a commit, a note; no name in them is longer than a machine's memory. -/
import Derived.Test.YtcemdlcimhoeeaaDoorMArb
import Derived.Test.YtcemdlcimhoeeaaDoorOCell
import Derived.Test.YtcemdlcimhoeeaaDoorMGrd
import Derived.SizedLaws
namespace Go.Proofs.YtcemdlcimhoeeaaDoor
open Go.ChangeShapes Go.WideShapes Go.ChangeAt Go.RowKit Go.Deep

set_option maxRecDepth 100000 in
theorem arr_cells {H : Type} {enc : TypeId × Value → H} {W : World} {t : TypeId} {n fuel : Nat} {cs : List Value} {x : DataW H × List MemPlace} (ht : Tryd.prog.underlying t = some (.array n 5)) (hn : Tryd.prog.cellsOf t = n) (h : DataW.trod enc Tryd.prog W 0 (fun _ => true) true fuel t cs = some x) :
    ∃ l : List UInt8, l.length = n ∧ cs = l.map bv := by
  obtain ⟨xs, m, rfl, _, hl, hxl, hx⟩ := DataW.trod_array ht h
  have hc1 : Tryd.prog.cellsOf 5 = 1 := by kernel_rfl
  rw [hn] at hl
  have key : ∀ i (hi : i < cs.length), ∃ b : UInt8, cs[i] = bv b := by
    intro i hi
    have h1 := hx i (by omega)
    rw [hc1, Nat.mul_one, List.drop_eq_getElem_cons hi, List.take_succ_cons, List.take_zero] at h1
    have hlt : i < xs.length := by omega
    rw [List.getElem?_eq_getElem hlt] at h1
    obtain ⟨z, hz, _, hw⟩ := DataW.trod_int Tryd.underlying5 h1
    have hb := bounds_u8 hw
    simp only [List.cons.injEq, and_true] at hz
    refine ⟨UInt8.ofNat z.toNat, ?_⟩
    rw [hz]
    unfold bv
    congr 1
    rw [UInt8.toNat_ofNat']
    omega
  obtain ⟨l, hl2⟩ := list_bv cs (fun v hv => by
    obtain ⟨i, hi, rfl⟩ := List.getElem_of_mem hv
    exact key i hi)
  refine ⟨l, ?_, hl2⟩
  rw [hl2, List.length_map] at hl; exact hl

theorem id_cells {H : Type} {enc : TypeId × Value → H} {W : World} {fuel : Nat} {cs : List Value} {x : DataW H × List MemPlace} (h : DataW.trod enc Tryd.prog W 0 (fun _ => true) true fuel 24 cs = some x) : ∃ l : List UInt8, l.length = 32 ∧ cs = l.map bv :=
  arr_cells Tryd.underlying24 (by kernel_rfl) h

theorem weightsAll_in {H : Type} {P : Program} {e : TypeId} : ∀ {l : List (DataW H)} {d : DataW H}, d ∈ l → ∀ n ∈ d.weights P e, n ∈ DataW.weightsAll P e l
  | d' :: r, d, hd, n, hn => by
    simp only [DataW.weightsAll, List.mem_append]
    rcases List.mem_cons.1 hd with rfl | h
    · exact Or.inl hn
    · exact Or.inr (weightsAll_in h n hn)

/-- A slice whose elements are rows of K cells. -/
theorem rows_open {H : Type} {enc : TypeId × Value → H} {W : World} {α : Type} [Inhabited α] {t e : TypeId} {K fuel : Nat} {v : Value} {x : DataW H × List MemPlace} (f : α → List Value) (Pd : α → DataW H → Prop)
    (ht : Tryd.prog.underlying t = some (.slice e)) (hK : Tryd.prog.cellsOf e = K) (hK0 : 0 < K)
    (hel : ∀ (n : Nat) (cs : List Value) (y : DataW H × List MemPlace), DataW.trod enc Tryd.prog W 0 (fun _ => true) true n e cs = some y → ∃ r : α, cs = f r ∧ Pd r y.1)
    (h : DataW.trod enc Tryd.prog W 0 (fun _ => true) true fuel t [v] = some x) :
    ∃ (L : List α) (ao : Option Addr) (c : Nat), v = .slice ao L.length c ∧ (ao = none → L.length = 0 ∧ c = 0) ∧ L.length ≤ c ∧ c ≤ maxLen ∧ (∀ ad, ao = some ad → 0 < L.length → ad.spot = none) ∧
      (∀ ad, ao = some ad → ∀ i (h : i < L.length), W.rangeAt ad.block (ad.off + i * K) (f L[i])) ∧ ∀ r ∈ L, ∃ d', Pd r d' ∧ ∀ m ∈ d'.weights Tryd.prog e, m ∈ x.1.weights Tryd.prog t := by
  rcases open_slice ht h with ⟨hcs, _⟩ | ⟨a, len, cap, m, n, D, Pl, hcs, _, hl, hm, hmm, hx0, hx⟩
  · simp only [List.cons.injEq, and_true] at hcs
    subst hcs
    exact ⟨[], none, 0, rfl, fun _ => ⟨rfl, rfl⟩, Nat.le_refl _, Nat.zero_le _, (fun _ e => by cases e), (fun _ e => by cases e), (fun _ e => by cases e)⟩
  · simp only [List.cons.injEq, and_true] at hcs
    subst hcs
    have hmc : m = cap := by rw [hmm]; rfl
    have each : ∀ i, i < len → ∃ r : α, (∀ j u, (f r)[j]? = some u → W.cell? (a.add (i * K + j)) = some u) ∧ (f r).length = K ∧ Pd r (D i) := by
      intro i hi
      obtain ⟨cs', h1, h2⟩ := hx i (by omega)
      rw [hK] at h1
      obtain ⟨_, hlen, hcell⟩ := World.cells?_some h1
      obtain ⟨r, rfl, hp⟩ := hel _ _ _ h2
      refine ⟨r, fun j u hu => ?_, hlen, hp⟩
      obtain ⟨hj, hu2⟩ := List.getElem?_eq_some_iff.1 hu
      have e0 := hcell j (by omega)
      rw [add_add] at e0
      rw [e0, ← hu2]
      simp [hj]
    obtain ⟨q, hq⟩ := choose_lt each
    have hsp : 0 < len → a.spot = none := fun h0 => by
      obtain ⟨h1, h2, _⟩ := hq 0 h0
      have h3 : 0 < (f (q 0)).length := by omega
      have := World.cell?_spot (h1 0 _ (List.getElem?_eq_getElem h3))
      simpa [Addr.add] using this
    obtain ⟨b, o, sp⟩ := a
    refine ⟨(List.range len).map q, some ⟨b, o, sp⟩, cap, by simp, (fun e => by cases e), by simpa using hl, hm, (fun ad e hp => by cases e; exact hsp (by simpa using hp)), ?_, ?_⟩
    · intro ad e i hi
      cases e
      have hi' : i < len := by simpa using hi
      have hs := hsp (by omega)
      simp only at hs
      subst hs
      intro j u hu
      have := (hq i hi').1 j u (by simpa using hu)
      rw [Addr.add_lit] at this
      rw [Nat.add_assoc]
      exact this
    · intro r hr
      obtain ⟨i, hi, rfl⟩ := List.mem_map.1 hr
      have hi' : i < len := List.mem_range.1 hi
      refine ⟨D i, (hq i hi').2.2, fun m hm => ?_⟩
      rw [hx0]
      simp only [DataW.weights, ht, List.mem_cons, List.mem_append]
      exact Or.inr (Or.inl (weightsAll_in (List.mem_map.2 ⟨i, hi, rfl⟩) _ hm))

theorem ids_cell {H : Type} {enc : TypeId × Value → H} {W : World} {fuel : Nat} {v : Value} {x : DataW H × List MemPlace} (h : DataW.trod enc Tryd.prog W 0 (fun _ => true) true fuel 25 [v] = some x) :
    ∃ (ps : List (List UInt8)) (ao : Option Addr) (c : Nat), v = .slice ao ps.length c ∧ Ids W ao c ps := by
  obtain ⟨L, ao, c, hv, h1, h2, h3, h4, h5, h6⟩ := rows_open (α := List UInt8) (K := 32) (fun l => l.map bv) (fun l _ => l.length = 32) Tryd.underlying25 (by kernel_rfl) (by decide) (fun n cs y hy => by
    obtain ⟨l, e1, e2⟩ := id_cells hy
    exact ⟨l, e2, e1⟩) h
  exact ⟨L, ao, c, hv, h1, h2, h3, h4, h5, fun r hr => by obtain ⟨_, e, _⟩ := h6 r hr; exact e⟩

theorem ent_fields3 : ∃ f0 f1 f2 : Field, Tryd.prog.underlying 41 = some (.struct #[f0, f1, f2]) ∧ (f0.type = 9 ∧ f0.offset = 0) ∧ (f1.type = 4 ∧ f1.offset = 1) ∧ (f2.type = 24 ∧ f2.offset = 2) :=
  ⟨_, _, _, Tryd.underlying41, ⟨rfl, rfl⟩, ⟨rfl, rfl⟩, ⟨rfl, rfl⟩⟩
theorem chg_fields5 : ∃ f0 f1 f2 f3 f4 : Field, Tryd.prog.underlying 28 = some (.struct #[f0, f1, f2, f3, f4]) ∧ (f0.type = 24 ∧ f0.offset = 0) ∧ (f1.type = 25 ∧ f1.offset = 32) ∧ (f2.type = 26 ∧ f2.offset = 33) ∧ (f3.type = 9 ∧ f3.offset = 34) ∧ (f4.type = 9 ∧ f4.offset = 35) :=
  ⟨_, _, _, _, _, Tryd.underlying28, ⟨rfl, rfl⟩, ⟨rfl, rfl⟩, ⟨rfl, rfl⟩, ⟨rfl, rfl⟩, ⟨rfl, rfl⟩⟩
theorem mrk_fields3 : ∃ f0 f1 f2 : Field, Tryd.prog.underlying 30 = some (.struct #[f0, f1, f2]) ∧ (f0.type = 24 ∧ f0.offset = 0) ∧ (f1.type = 9 ∧ f1.offset = 32) ∧ (f2.type = 9 ∧ f2.offset = 33) :=
  ⟨_, _, _, Tryd.underlying30, ⟨rfl, rfl⟩, ⟨rfl, rfl⟩, ⟨rfl, rfl⟩⟩

set_option maxRecDepth 100000 in
theorem ent_cells {H : Type} {enc : TypeId × Value → H} {W : World} {n : Nat} {cs : List Value} {x : DataW H × List MemPlace} (h : DataW.trod enc Tryd.prog W 0 (fun _ => true) true n 41 cs = some x) :
    ∃ e : EntL, cs = enC e ∧ e.id.length = 32 ∧ e.name.length ∈ x.1.weights Tryd.prog 41 := by
  obtain ⟨f0, f1, f2, he, ⟨t0, o0⟩, ⟨t1, o1⟩, ⟨t2, o2⟩⟩ := ent_fields3
  have k0 : Tryd.prog.cellsOf 9 = 1 := by kernel_rfl
  have k1 : Tryd.prog.cellsOf 4 = 1 := by kernel_rfl
  have k2 : Tryd.prog.cellsOf 24 = 32 := by kernel_rfl
  have k5 : Tryd.prog.cellsOf 41 = 34 := by kernel_rfl
  obtain ⟨xs, k, hk, hxy, hl, hxl, hf⟩ := DataW.trod_struct he h
  rw [k5] at hl
  match xs, hxl, cs, hl with
  | [y0, y1, y2], _, v0 :: v1 :: rest, hl =>
    have g0 := hf 0 f0 rfl
    have g1 := hf 1 f1 rfl
    have g2 := hf 2 f2 rfl
    rw [t0, o0, k0] at g0
    rw [t1, o1, k1] at g1
    rw [t2, o2, k2] at g2
    simp only [List.drop_zero, List.drop_succ_cons, List.take_succ_cons, List.take_zero, List.getElem?_cons_zero, List.getElem?_cons_succ] at g0 g1 g2
    rw [List.take_of_length_le (by simp only [List.length_cons] at hl; omega)] at g2
    obtain ⟨s, e0, z0, _⟩ := DataW.trod_string Tryd.underlying9 g0
    obtain ⟨b, e1, _⟩ := DataW.trod_bool Tryd.underlying4 g1
    obtain ⟨l, hl2, e2⟩ := id_cells g2
    simp only [List.cons.injEq, and_true] at e0 e1
    refine ⟨⟨s.data.toList, b, l⟩, ?_, hl2, ?_⟩
    · rw [e0, e1, e2]; rfl
    · rw [hxy, z0]
      simp only [DataW.weights, he, List.map_cons, List.map_nil, DataW.weightsEach, List.mem_append, List.mem_singleton]
      exact Or.inl trivial

theorem ents_open {H : Type} {enc : TypeId × Value → H} {W : World} {a : Option Addr} {len cap : Nat} {d : DataW H} {p : List MemPlace} (h : DataW.Trod enc Tryd.prog W 0 (fun _ => true) true 22 (.slice a len cap) d p) :
    ∃ es : List EntL, es.length = len ∧ Ens W a cap es ∧ ∀ e ∈ es, e.name.length ∈ d.weights Tryd.prog 22 := by
  obtain ⟨fuel, hf⟩ := h
  obtain ⟨L, ao, c, hv, h1, h2, h3, h4, h5, h6⟩ := rows_open (α := EntL) (K := 34) (v := .slice a len cap) enC (fun e d' => e.id.length = 32 ∧ e.name.length ∈ d'.weights Tryd.prog 41) Tryd.underlying22 (by kernel_rfl) (by decide) (fun n cs y hy => by
    obtain ⟨l, e1, e2, e3⟩ := ent_cells hy
    exact ⟨l, e1, e2, e3⟩) (by simpa [Value.cells] using hf)
  injection hv with e1 e2 e3
  subst e1 e2 e3
  exact ⟨L, rfl, ⟨h1, h2, h3, h4, h5, fun r hr => by obtain ⟨_, ⟨e, _⟩, _⟩ := h6 r hr; exact e⟩, fun r hr => by obtain ⟨_, ⟨_, e⟩, e2⟩ := h6 r hr; exact e2 _ e⟩

set_option maxRecDepth 100000 in
theorem chg_open {H : Type} {enc : TypeId × Value → H} {W : World} {base : Nat} {v : Value} {d : DataW H} {p : List MemPlace} (hval : Value.okWide Tryd.prog W .any base 28 v) (h : DataW.Trod enc Tryd.prog W 0 (fun _ => true) true 28 v d p) :
    ∃ (c : ChgL) (po : Option Addr) (pc : Nat), v = .agg (chC c po pc).toArray ∧ Ids W po pc c.pars ∧ c.tree.length = 32 ∧ c.time < 18446744073709551616 ∧ c.author.length ∈ d.weights Tryd.prog 28 ∧ c.text.length ∈ d.weights Tryd.prog 28 := by
  obtain ⟨f0, f1, f2, f3, f4, he, ⟨t0, o0⟩, ⟨t1, o1⟩, ⟨t2, o2⟩, ⟨t3, o3⟩, ⟨t4, o4⟩⟩ := chg_fields5
  have k0 : Tryd.prog.cellsOf 24 = 32 := by kernel_rfl
  have k1 : Tryd.prog.cellsOf 25 = 1 := by kernel_rfl
  have k2 : Tryd.prog.cellsOf 26 = 1 := by kernel_rfl
  have k3 : Tryd.prog.cellsOf 9 = 1 := by kernel_rfl
  have k5 : Tryd.prog.cellsOf 28 = 36 := by kernel_rfl
  obtain ⟨cs, rfl, hcs⟩ := okWide_struct he hval
  obtain ⟨fuel, hf⟩ := h
  obtain ⟨xs, k, hk, hxy, hl, hxl, hf⟩ := DataW.trod_struct he hf
  have hcc : (Value.agg cs).cells.toList = cs.toList := rfl
  rw [hcc] at hl hf
  rw [k5] at hl
  obtain ⟨L, hL⟩ : ∃ L, L = cs.toList := ⟨_, rfl⟩
  rw [← hL] at hl hf
  obtain ⟨A, B, hAB, hA, hB⟩ : ∃ A B, L = A ++ B ∧ A.length = 32 ∧ B.length = 4 := ⟨L.take 32, L.drop 32, (List.take_append_drop _ _).symm, by simp; omega, by simp; omega⟩
  match xs, hxl, B, hB with
  | [y0, y1, y2, y3, y4], _, [b0, b1, b2, b3], _ =>
    have g0 := hf 0 f0 rfl
    have g1 := hf 1 f1 rfl
    have g2 := hf 2 f2 rfl
    have g3 := hf 3 f3 rfl
    have g4 := hf 4 f4 rfl
    rw [t0, o0, k0, hAB] at g0
    rw [t1, o1, k1, hAB] at g1
    rw [t2, o2, k2, hAB] at g2
    rw [t3, o3, k3, hAB] at g3
    rw [t4, o4, k3, hAB] at g4
    rw [List.drop_zero, List.take_append_of_le_length (by omega), List.take_of_length_le (by omega)] at g0
    rw [List.drop_append, List.drop_of_length_le (by omega), hA] at g1 g2 g3 g4
    simp only [Nat.sub_self, Nat.reduceSub, List.nil_append, List.drop_zero, List.drop_succ_cons, List.take_succ_cons, List.take_zero, List.getElem?_cons_zero, List.getElem?_cons_succ] at g0 g1 g2 g3 g4
    obtain ⟨tr, htr, e0⟩ := id_cells g0
    obtain ⟨ps, po, pc, e1, hps⟩ := ids_cell g1
    obtain ⟨z, e2, _, wz⟩ := DataW.trod_int Tryd.underlying26 g2
    obtain ⟨s3, e3, z3, _⟩ := DataW.trod_string Tryd.underlying9 g3
    obtain ⟨s4, e4, z4, _⟩ := DataW.trod_string Tryd.underlying9 g4
    have hz := bounds_u64 wz
    simp only [List.cons.injEq, and_true] at e2 e3 e4
    have hd : d = .agg [y0.1, y1.1, y2.1, y3.1, y4.1] := by have := congrArg Prod.fst hxy; simpa using this
    refine ⟨⟨tr, ps, z.toNat, s3.data.toList, s4.data.toList⟩, po, pc, ?_, hps, htr, by show z.toNat < _; omega, ?_, ?_⟩
    · have hz2 : ((z.toNat : Nat) : Int) = z := by omega
      rw [← Array.toArray_toList (xs := cs), ← hL, hAB, e0, e1, e2, e3, e4]
      show _ = Value.agg (tr.map bv ++ [Value.slice po ps.length pc, Value.int .u64 ((z.toNat : Nat) : Int), _, _]).toArray
      rw [hz2]; rfl
    · rw [hd, z3]
      simp only [DataW.weights, he, List.map_cons, List.map_nil, DataW.weightsEach, List.mem_append, List.mem_singleton]
      simp
    · rw [hd, z4]
      simp only [DataW.weights, he, List.map_cons, List.map_nil, DataW.weightsEach, List.mem_append, List.mem_singleton]
      simp

set_option maxRecDepth 100000 in
theorem mrk_open {H : Type} {enc : TypeId × Value → H} {W : World} {base : Nat} {v : Value} {d : DataW H} {p : List MemPlace} (hval : Value.okWide Tryd.prog W .any base 30 v) (h : DataW.Trod enc Tryd.prog W 0 (fun _ => true) true 30 v d p) :
    ∃ m : MrkL, v = .agg (mkC m).toArray ∧ m.target.length = 32 ∧ m.name.length ∈ d.weights Tryd.prog 30 ∧ m.text.length ∈ d.weights Tryd.prog 30 := by
  obtain ⟨f0, f1, f2, he, ⟨t0, o0⟩, ⟨t1, o1⟩, ⟨t2, o2⟩⟩ := mrk_fields3
  have k0 : Tryd.prog.cellsOf 24 = 32 := by kernel_rfl
  have k3 : Tryd.prog.cellsOf 9 = 1 := by kernel_rfl
  have k5 : Tryd.prog.cellsOf 30 = 34 := by kernel_rfl
  obtain ⟨cs, rfl, hcs⟩ := okWide_struct he hval
  obtain ⟨fuel, hf⟩ := h
  obtain ⟨xs, k, hk, hxy, hl, hxl, hf⟩ := DataW.trod_struct he hf
  have hcc : (Value.agg cs).cells.toList = cs.toList := rfl
  rw [hcc] at hl hf
  rw [k5] at hl
  obtain ⟨L, hL⟩ : ∃ L, L = cs.toList := ⟨_, rfl⟩
  rw [← hL] at hl hf
  obtain ⟨A, B, hAB, hA, hB⟩ : ∃ A B, L = A ++ B ∧ A.length = 32 ∧ B.length = 2 := ⟨L.take 32, L.drop 32, (List.take_append_drop _ _).symm, by simp; omega, by simp; omega⟩
  match xs, hxl, B, hB with
  | [y0, y1, y2], _, [b0, b1], _ =>
    have g0 := hf 0 f0 rfl
    have g1 := hf 1 f1 rfl
    have g2 := hf 2 f2 rfl
    rw [t0, o0, k0, hAB] at g0
    rw [t1, o1, k3, hAB] at g1
    rw [t2, o2, k3, hAB] at g2
    rw [List.drop_zero, List.take_append_of_le_length (by omega), List.take_of_length_le (by omega)] at g0
    rw [List.drop_append, List.drop_of_length_le (by omega), hA] at g1 g2
    simp only [Nat.sub_self, Nat.reduceSub, List.nil_append, List.drop_zero, List.drop_succ_cons, List.take_succ_cons, List.take_zero, List.getElem?_cons_zero, List.getElem?_cons_succ] at g0 g1 g2
    obtain ⟨tr, htr, e0⟩ := id_cells g0
    obtain ⟨s3, e3, z3, _⟩ := DataW.trod_string Tryd.underlying9 g1
    obtain ⟨s4, e4, z4, _⟩ := DataW.trod_string Tryd.underlying9 g2
    simp only [List.cons.injEq, and_true] at e3 e4
    have hd : d = .agg [y0.1, y1.1, y2.1] := by have := congrArg Prod.fst hxy; simpa using this
    refine ⟨⟨tr, s3.data.toList, s4.data.toList⟩, ?_, htr, ?_, ?_⟩
    · rw [← Array.toArray_toList (xs := cs), ← hL, hAB, e0, e3, e4]
      rfl
    · rw [hd, z3]
      simp only [DataW.weights, he, List.map_cons, List.map_nil, DataW.weightsEach, List.mem_append, List.mem_singleton]
      simp
    · rw [hd, z4]
      simp only [DataW.weights, he, List.map_cons, List.map_nil, DataW.weightsEach, List.mem_append, List.mem_singleton]
      simp

end Go.Proofs.YtcemdlcimhoeeaaDoor
