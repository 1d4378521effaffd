/- How a map by names is gone over, in whatever order the run takes. No condition but those that each lemma names. -/
import Derived.Test.YtlifmipnoeioaaaGreatDoorGHas
import Derived.Maps.RangeRun
import Derived.Test.YtlifmipnoeioaaaGreatDoorGWait
import Derived.Test.YtlifmipnoeioaaaGreatDoorORdP
import Derived.Deep.LoopGhost
namespace Go.Proofs.YtlifmipnoeioaaaGreatDoor
open Go.RowKit
open Go.ChangeMaps (setBlock)

/-- The block r goes over the map m: these names have come. -/
structure OverAt (w : World) (m r : Nat) (K : List (List UInt8 × Value)) (done : List (List UInt8)) : Prop where
  is : ∃ A clock seen, w.heap[m]? = some (.map A clock) ∧ w.heap[r]? = some (.mapIter (some m) clock seen clock) ∧ A.toList.map (fun e => (e.key, e.val)) = K.map (fun p => (keyV p.1, p.2)) ∧ (∀ e ∈ A.toList, e.born < clock) ∧ (A.toList.map (·.born)).Nodup ∧ (∀ e ∈ A.toList, ∀ x, e.key = keyV x → (seen.contains e.born = true ↔ x ∈ done))
  once : (K.map (·.1)).Nodup
  wide : ∀ p ∈ K, p.1.length = 32
  nodup : done.Nodup
  inn : ∀ x ∈ done, x ∈ K.map (·.1)

theorem OverAt.map {w : World} {m r : Nat} {K : List (List UInt8 × Value)} {done : List (List UInt8)} (h : OverAt w m r K done) : MapAt w m K := by
  obtain ⟨A, c, s, h1, h2, h3, h4, h5, h6⟩ := h.is
  exact ⟨⟨A, c, h1, h3, h4, h5⟩, h.once, h.wide⟩
theorem OverAt.lt {w : World} {m r : Nat} {K : List (List UInt8 × Value)} {done : List (List UInt8)} (h : OverAt w m r K done) : r < w.heap.size := by
  obtain ⟨A, c, s, h1, h2, h3⟩ := h.is
  exact (Array.getElem?_eq_some_iff.1 h2).1
theorem OverAt.kept {w a : World} {m r : Nat} {K : List (List UInt8 × Value)} {done : List (List UInt8)} {q : Option Nat} (h : OverAt w m r K done) (g : w.grownBy a q) (h1 : some m ≠ q) (h2 : some r ≠ q) : OverAt a m r K done := by
  have hm := h.map.lt
  have hr := h.lt
  obtain ⟨A, c, s, k1, k2, k3⟩ := h.is
  exact ⟨⟨A, c, s, by rw [g.block m hm h1]; exact k1, by rw [g.block r hr h2]; exact k2, k3⟩, h.once, h.wide, h.nodup, h.inn⟩
theorem OverAt.none {w a : World} {m r : Nat} {K : List (List UInt8 × Value)} {done : List (List UInt8)} (h : OverAt w m r K done) (g : w.grownBy a Option.none) : OverAt a m r K done := h.kept g (by simp) (by simp)
/-- A row of the call's own is no iterator. -/
theorem OverAt.own {w : World} {m r base k n : Nat} {K : List (List UInt8 × Value)} {done : List (List UInt8)} {t : TypeId} {v : Value} {xs : List Value} (h : OverAt w m r K done) (ho : w.ownsRow base t k v n xs) : some r ≠ v.ownBlock := by
  obtain ⟨_, _, _, _, h, _⟩ := h.is
  rcases ho.2 with ⟨rfl, _⟩ | ⟨g, cap, cur, rfl, _, hh, _⟩
  · intro e; cases e
  · intro e
    have : r = g := by simpa [Value.ownBlock] using e
    subst this
    rw [hh] at h
    cases h

/-- 'range m'. -/
theorem MapAt.over {w : World} {m : Nat} {K : List (List UInt8 × Value)} (h : MapAt w m K) (t e : TypeId) (ht : Tryz.prog.underlying t = some (.map 33 e)) :
    ∃ W, (Instr.range t (.map (some m))).run Tryz.prog w = .ok (.pointer (some ⟨w.heap.size, 0, Option.none⟩)) W ∧ OverAt W m w.heap.size K [] ∧ w.grownBy W Option.none := by
  obtain ⟨A, c, h1, h2, h3, h4⟩ := h.is
  have hlt := h.lt
  refine ⟨_, run_range_map w t _ e m A c ht h1, ⟨⟨A, c, #[], ?_, heap_alloc_new w _, h2, h3, h4, fun e _ x _ => by simp⟩, h.once, h.wide, by simp, by simp⟩, gb_alloc (gb_refl _ _) _⟩
  rw [heap_alloc_old w _ hlt]
  exact h1

/-- The next one: none is left, or one that has not come. -/
theorem OverAt.next {w : World} {m r : Nat} {K : List (List UInt8 × Value)} {done : List (List UInt8)} (h : OverAt w m r K done) (ty : TypeId) :
    ((∀ x ∈ K.map (·.1), x ∈ done) ∧ (Instr.next (.pointer (some ⟨r, 0, Option.none⟩)) false ty).run Tryz.prog w = .ok (.tuple #[.bool false]) w) ∨
      ∃ x v w2, (x, v) ∈ K ∧ x ∉ done ∧ (Instr.next (.pointer (some ⟨r, 0, Option.none⟩)) false ty).run Tryz.prog w = .ok (.tuple #[.bool true, keyV x, v]) w2 ∧ OverAt w2 m r K (done ++ [x]) ∧ (Instr.entry (.pointer (some ⟨r, 0, Option.none⟩))).run Tryz.prog w2 = .ok (.tuple #[keyV x, v]) w2 ∧ w.grownBy w2 (some r) ∧ w2.heap.size = w.heap.size := by
  have hrl := h.lt
  obtain ⟨A, c, s, h1, h2, h3, h4, h5, h6⟩ := h.is
  have hmem : ∀ e ∈ A.toList, ∃ x v, (x, v) ∈ K ∧ e.key = keyV x ∧ e.val = v := fun e he => by
    have : (e.key, e.val) ∈ A.toList.map (fun e => (e.key, e.val)) := List.mem_map.2 ⟨e, he, rfl⟩
    rw [h3] at this
    obtain ⟨p, hp, hpe⟩ := List.mem_map.1 this
    simp only [Prod.mk.injEq] at hpe
    exact ⟨p.1, p.2, hp, hpe.1.symm, hpe.2.symm⟩
  rcases run_next_at (P := Tryz.prog) w ty r m c c s A c h2 h1 h4 (Nat.le_refl _) with ⟨hl, hr⟩ | ⟨e, he, w1, hw1, hr⟩
  · refine Or.inl ⟨fun x hx => ?_, hr⟩
    obtain ⟨p, hp, rfl⟩ := List.mem_map.1 hx
    have : (keyV p.1, p.2) ∈ K.map (fun p => (keyV p.1, p.2)) := List.mem_map.2 ⟨p, hp, rfl⟩
    rw [← h3] at this
    obtain ⟨e, he, hek⟩ := List.mem_map.1 this
    simp only [Prod.mk.injEq] at hek
    refine (h6 e he p.1 hek.1).1 ?_
    cases hs : s.contains e.born with
    | true => rfl
    | false =>
      exfalso
      have hin : e ∈ (leftOf A s).toList := by
        unfold leftOf
        have : e ∈ A := by simpa using he
        simp [this]
        simpa using hs
      have : (leftOf A s).toList.length = 0 := by simpa using hl
      rw [List.length_eq_zero_iff] at this
      rw [this] at hin
      simp at hin
  · have heA : e ∈ A.toList ∧ s.contains e.born = false := by
      unfold leftOf at he
      have he2 : e ∈ A ∧ e.born ∉ s := by simpa using he
      exact ⟨by simpa using he2.1, by simpa using he2.2⟩
    obtain ⟨x, v, hxv, hek, hev⟩ := hmem e heA.1
    have hxd : x ∉ done := fun hx => by
      have := (h6 e heA.1 x hek).2 hx
      rw [heA.2] at this
      cases this
    have hnm : m ≠ r := by
      rintro rfl
      rw [h1] at h2
      cases h2
    have hb : ∀ o : Obj, (setBlock w1 r o).heap[r]? = some o ∧ (setBlock w1 r o).heap[m]? = w.heap[m]? ∧ w.grownBy (setBlock w1 r o) (some r) ∧ (setBlock w1 r o).heap.size = w.heap.size := fun o => by
      have hh : w1.heap = w.heap := by rcases hw1 with rfl | rfl <;> rfl
      refine ⟨?_, ?_, ⟨?_, ?_, ?_, ?_, fun k hk hne => ?_⟩, ?_⟩
      · simp [setBlock, hh, hrl]
      · simp [setBlock, hh, Ne.symm hnm]
      · rcases hw1 with rfl | rfl <;> rfl
      · rcases hw1 with rfl | rfl <;> rfl
      · rcases hw1 with rfl | rfl <;> rfl
      · simp [setBlock, hh]
      · have : r ≠ k := fun e => hne (by rw [e])
        simp [setBlock, hh, this]
      · simp [setBlock, hh]
    obtain ⟨q1, q2, q3, q4⟩ := hb (.mapIter (some m) c (s.push e.born) c)
    refine Or.inr ⟨x, v, _, hxv, hxd, by rw [hek, hev] at hr; exact hr, ⟨⟨A, c, s.push e.born, by rw [q2]; exact h1, q1, h3, h4, h5, fun e' he' x' hk' => ?_⟩, h.once, h.wide, ?_, ?_⟩, ?_, q3, q4⟩
    · rw [Array.contains_push, Bool.or_eq_true, h6 e' he' x' hk', List.mem_append, List.mem_singleton]
      constructor
      · rintro (h7 | h7)
        · exact Or.inl h7
        · right
          have h8 : e'.born = e.born := by simpa using h7
          have h9 := nodup_map_inj h5 he' heA.1 h8
          rw [h9, hek] at hk'
          exact (keyV_inj hk').symm
      · rintro (h7 | rfl)
        · exact Or.inl h7
        · right
          have : e' = e := by
            have hk2 : (A.toList.map (·.key)).Nodup := by
              have e1 : A.toList.map (·.key) = (K.map (·.1)).map keyV := by
                have := congrArg (List.map Prod.fst) h3
                rw [List.map_map, List.map_map] at this
                rw [List.map_map]
                exact this
              rw [e1]
              exact List.Pairwise.map _ (fun a b hne he => hne (keyV_inj he)) h.once
            exact nodup_map_inj hk2 he' heA.1 (by rw [hk', hek])
          rw [this]
          simp
    · exact List.nodup_append.2 ⟨h.nodup, by simp, fun a ha b hb => by
        rw [List.mem_singleton.1 hb]
        rintro rfl
        exact hxd ha⟩
    · intro y hy
      rcases List.mem_append.1 hy with hy | hy
      · exact h.inn y hy
      · rw [List.mem_singleton.1 hy]
        exact List.mem_map.2 ⟨_, hxv, rfl⟩
    · have := run_entry_at (P := Tryz.prog) (setBlock w1 r (.mapIter (some m) c (s.push e.born) c)) r m c s A c e q1 (by rw [q2]; exact h1) heA.1 h5
      rw [hek, hev] at this
      exact this

end Go.Proofs.YtlifmipnoeioaaaGreatDoor

/- The library's sort, by graph's compare, leaves names that rise; and how a map by names is gone over, in whatever order. -/
namespace Go.Proofs.YtlifmipnoeioaaaGreatDoor
open Go.RowKit Go.Shelf Go.Lib Go.Sort

theorem flatK_list (d : Array Nm) : (flatK encN 32 d).toList = d.toList.flatMap encN := by
  apply List.ext_getElem?
  intro t
  have hl : (d.toList.flatMap encN).length = d.size * 32 := by
    rw [flat_len2 encN 32 d.toList (fun x _ => encN_len x)]; simp
  by_cases ht : t < d.size * 32
  · have hq : t / 32 < d.toList.length := by simp; omega
    have h1 := flat_at encN 32 d.toList (fun x _ => encN_len x) (t / 32) (t % 32) hq (Nat.mod_lt _ (by decide))
    rw [show t / 32 * 32 + t % 32 = t by omega] at h1
    rw [h1, Array.getElem?_toList]
    have hs : t < (flatK encN 32 d).size := by rw [size_flatK]; exact ht
    have h2 := get_flatK encN 32 d t ht
    rw [getElem!_pos (flatK encN 32 d) t hs] at h2
    rw [Array.getElem?_eq_getElem hs, h2]
    have hq2 : t / 32 < d.size := by simpa using hq
    rw [getElem!_pos d _ hq2]
    have hr : t % 32 < (encN d[t / 32]).length := by rw [encN_len]; exact Nat.mod_lt _ (by decide)
    rw [getElem!_pos (encN d[t / 32]) (t % 32) hr]
    simp only [Array.getElem_toList]
    rw [List.getElem?_eq_getElem hr]
  · rw [List.getElem?_eq_none (by simp; omega), List.getElem?_eq_none (by rw [hl]; omega)]

theorem heap_sortK {w : World} {g n : Nat} {e : TypeId} {os : Array Obj} {cur : Array Value} (d : Array Nm) (hb : w.heap[g]? = some (.cells cur e (0, 0))) :
    (sortWorldK encN 32 w g 0 n d os).heap[g]? = some (.cells (putCells id 0 (flatK encN 32 d) cur) e (0, 0)) := by
  have hg : g < w.heap.size := (Array.getElem?_eq_some_iff.1 hb).1
  unfold sortWorldK putRowK putRow mapBlock grow
  simp only [Sort.ahead]
  rw [Array.getElem?_append_left (by simpa using hg)]
  simp [Array.getElem?_modify, hb, onCells]

theorem gb_sortK {w : World} {g n : Nat} {os : Array Obj} (d : Array Nm) : w.grownBy (sortWorldK encN 32 w g 0 n d os) (some g) := by
  refine ⟨rfl, rfl, rfl, ?_, fun k hk hne => ?_⟩
  · unfold sortWorldK putRowK putRow mapBlock grow
    simp [Sort.ahead]
  · have : g ≠ k := fun e => hne (by rw [e])
    unfold sortWorldK putRowK putRow mapBlock grow
    simp only [Sort.ahead]
    rw [Array.getElem?_append_left (by simpa using hk)]
    simp [Array.getElem?_modify, this]

theorem take_putK (cur : Array Value) (d : Array Nm) (h : d.size * 32 ≤ cur.size) : (putCells id 0 (flatK encN 32 d) cur).toList.take (d.size * 32) = d.toList.flatMap encN := by
  rw [← flatK_list]
  apply List.ext_getElem?
  intro j
  by_cases hj : j < d.size * 32
  · have hs : j < (flatK encN 32 d).size := by rw [size_flatK]; exact hj
    have hc : j < cur.size := by omega
    rw [List.getElem?_take_of_lt hj, Array.getElem?_toList, Array.getElem?_toList]
    unfold putCells
    rw [Array.getElem?_mapIdx, Array.getElem?_eq_getElem hc, Array.getElem?_eq_getElem hs]
    simp only [Option.map_some, id_eq, Nat.zero_le, Nat.zero_add, true_and, Nat.sub_zero]
    rw [if_pos hs, getElem!_pos (flatK encN 32 d) j hs]
  · rw [List.getElem?_eq_none (by simp; omega), List.getElem?_eq_none (by simp; omega)]

theorem eg_compare : ∀ args w, (callFunc 58 args).run Tryz.prog w = .ok (.enter 58 args) w := enters_of Tryz.func58 (by kernel_rfl) rfl
theorem agg_id (w : World) : (isAgg 33).run Tryz.prog w = .ok true w := by kernel_rfl

/-- Names that rise, where no name is there twice. -/
theorem ris_of_sorted {d : Array Nm} (hs : SortedIn (ltOf fun x y : Nm => compareBytes x.1 y.1) 0 d.size d) (hn : (d.toList.map (·.1)).Nodup) : Ris (d.toList.map (·.1)) := by
  unfold Ris
  rw [List.pairwise_iff_getElem]
  intro i j hi hj hij
  have hj' : j < d.size := by simpa using hj
  have hi' : i < d.size := by omega
  have h1 := hs i j (Nat.zero_le _) hij hj'
  rw [lt_less, getElem!_pos d j hj', getElem!_pos d i hi'] at h1
  simp only [List.getElem_map, Array.getElem_toList]
  cases h2 : lessL d[i].1 d[j].1 with
  | true => rfl
  | false =>
    exfalso
    have h3 := lessL_total _ _ h1 h2
    have h4 : (d.toList.map (·.1))[j] = (d.toList.map (·.1))[i] := by simpa using h3
    have := (List.getElem_inj hn).1 h4
    omega

theorem gsort_any (w : World) (base : Nat) (v : Value) (L : List (List UInt8)) (ho : w.ownsRow base 33 32 v L.length (L.flatMap (·.map bv))) (hi : ∀ x ∈ L, x.length = 32) (hn : L.Nodup) (hm : L.length ≤ 100000) :
    Calls Tryz.prog 70 #[v, .func (.func 58) #[] #[]] w fun e w' => e = .returned (.tuple #[]) ∧ ∃ L', Ris L' ∧ (∀ x, x ∈ L' ↔ x ∈ L) ∧ L'.length = L.length ∧ w'.ownsRow base 33 32 v L.length (L'.flatMap (·.map bv)) ∧ w.grownBy w' v.ownBlock := by
  rcases ho.2 with ⟨rfl, h0⟩ | ⟨g, cap, cur, rfl, hg, hh, h3, h4, h5, h6⟩
  · have : L = [] := List.eq_nil_of_length_eq_zero h0
    subst this
    refine (AnyF.slices_SortFunc_none (P := Tryz.prog) (ρ := srtR) srt6 none 0 _ w).mono ?_
    rintro e w' ⟨rfl, rfl⟩
    exact ⟨rfl, [], List.Pairwise.nil, fun _ => Iff.rfl, rfl, ho, gb_refl _ _⟩
  · obtain ⟨D, hD⟩ : ∃ D : List Nm, D = L.pmap Subtype.mk hi := ⟨_, rfl⟩
    have hDL : D.map (·.1) = L := by rw [hD, List.map_pmap]; simp
    have hDl : D.length = L.length := by rw [hD, List.length_pmap]
    have hfl : D.flatMap encN = L.flatMap (·.map bv) := by rw [← hDL, List.flatMap_map]; rfl
    have hH : HoldsK encN 32 w g 0 D.toArray := by
      intro j hj
      have hj' : j < L.length * 32 := by rw [size_flatK] at hj; simpa [hDl] using hj
      refine ⟨?_, by simp [World.frozen?, hh]⟩
      have h1 : (cur.toList.take (L.length * 32))[j]? = (L.flatMap (·.map bv))[j]? := by rw [h6]
      rw [List.getElem?_take_of_lt hj', ← hfl] at h1
      simp only [World.cell?, hh, Nat.zero_add]
      simp only [Option.isSome_none, Bool.false_eq_true, if_false]
      rw [← Array.getElem?_toList, h1, getElem!_pos (flatK encN 32 D.toArray) j hj]
      have := flatK_list D.toArray
      simp only at this
      rw [← this, Array.getElem?_toList, Array.getElem?_eq_getElem hj]
      rfl
    have hc := AnyQ.slices_SortFunc (P := Tryz.prog) (ρ := srtR) srt6 32 agg_id size_id encN encN_len (fun x v hv => bv_one _ v hv) (fun x y : Nm => compareBytes x.1 y.1) swo_less 58 #[] g 0 cap D.toArray w eg_compare
      (fun m os dk _ x y => by
        have := compare_any (sortWorldK encN 32 w g 0 m dk os) x.1 y.1 x.2 y.2
        exact this) hH (Array.getElem?_eq_some_iff.1 hh).1 (by simp; omega)
    have hsz : D.toArray.size = L.length := by simp [hDl]
    rw [hsz] at hc
    refine hc.mono ?_
    rintro e w' ⟨rfl, d', n, os, hp, hs, rfl⟩
    have hd's : d'.size = L.length := by rw [hp.1, hsz]
    have hperm : d'.toList.Perm D := by
      have := hp.2.2
      rw [show d'.extract 0 L.length = d' by rw [← hd's]; simp, show D.toArray.extract 0 L.length = D.toArray by rw [← hsz]; simp] at this
      simpa using this
    have hpm : (d'.toList.map (·.1)).Perm L := by rw [← hDL]; exact hperm.map _
    refine ⟨rfl, d'.toList.map (·.1), ris_of_sorted (by rw [hd's]; exact hs) (hpm.nodup_iff.2 hn), fun x => hpm.mem_iff, by simp [hd's], ?_, gb_sortK d'⟩
    have hfl2 : (d'.toList.map (·.1)).flatMap (·.map bv) = d'.toList.flatMap encN := by rw [List.flatMap_map]; rfl
    rw [hfl2]
    refine ⟨?_, Or.inr ⟨g, cap, _, rfl, hg, heap_sortK d' hh, h3, h4, by simp [putCells, h5], ?_⟩⟩
    · rw [flat_len2 encN 32 d'.toList (fun x _ => encN_len x)]; simp [hd's]
    · rw [← hd's]
      exact take_putK cur d' (by rw [hd's, h5]; exact Nat.mul_le_mul_right 32 h3)

end Go.Proofs.YtlifmipnoeioaaaGreatDoor

/- What graph's rising answers of a map of objects: its names, rising, whatever the map's own order. Of at most 100000 names. -/
namespace Go.Proofs.YtlifmipnoeioaaaGreatDoor
open Go.RowKit

set_option maxRecDepth 100000 in
set_option maxHeartbeats 4000000 in
theorem risingO_any (w : World) (m : Nat) (K : List (List UInt8 × Value)) (h : MapAt w m K) (hK : K.length ≤ 90000) :
    Calls Tryz.prog 42 #[.map (some m)] w fun e w' => ∃ v L, e = .returned v ∧ Ris L ∧ (∀ x, x ∈ L ↔ x ∈ K.map (·.1)) ∧ w'.ownsRow w.heap.size 33 32 v L.length (L.flatMap (·.map bv)) ∧ w.grownBy w' none := by
  obtain ⟨W1, hrg, hO1, g1⟩ := h.over 76 42 Tryz.underlying76
  obtain ⟨Z, hZ, hzv⟩ := zero_id
  have HZ := hide hZ
  have HO1 := hide hO1
  have HG1 := hide g1
  have HK := hide hK
  clear hZ hO1 g1 h hK
  go_enter Tryz.func42, Tryz.ntmps42
  go_wp2_with fail
  go_loopg [3] K.length (fun k v wr => ∃ done, Hid (OverAt wr m w.heap.size K done ∧ wr.ownsRow w.heap.size 33 32 v done.length (done.flatMap (·.map bv)) ∧ w.grownBy wr none) ∧ K.length - done.length ≤ k)
  case atStart => exact ⟨[], ⟨unhide HO1, World.ownsRow_nil _ _ _ _, unhide HG1⟩, by simp⟩
  case round =>
    rename_i v3 _
    obtain ⟨done, HD, hk⟩ := hrel
    have HKK := hide hk
    clear hk
    have hlen : done.length ≤ K.length := by
      have := nodup_le (unhide HD).1.nodup (unhide HD).1.inn
      simpa using this
    rcases (unhide HD).1.next 0 with ⟨hall, hr0⟩ | ⟨x, v, w2, hxv, hxd, hr0, hO2, he2, g2, -⟩
    · have hnx : ∀ ty, (Instr.next (.pointer (some ⟨w.heap.size, 0, none⟩)) false ty).run Tryz.prog wr = .ok (.tuple #[.bool false]) wr := fun ty => hr0
      have hiff : ∀ x, x ∈ done ↔ x ∈ K.map (·.1) := fun x => ⟨(unhide HD).1.inn x, hall x⟩
      have hwid : ∀ x ∈ done, x.length = 32 := fun x hx => by
        obtain ⟨p, hp, rfl⟩ := List.mem_map.1 ((unhide HD).1.inn x hx)
        exact (unhide HD).1.wide p hp
      obtain ⟨a3, c3, rfl⟩ := own_sl (unhide HD).2.1
      have cs := gsort_any wr w.heap.size _ done (unhide HD).2.1 hwid (unhide HD).1.nodup (by have := unhide HK; omega)
      have HI := hide hiff
      obtain ⟨n9, hn9⟩ : ∃ n, n = done.length := ⟨_, rfl⟩
      have HN9 := hide hn9
      rw [← hn9] at cs
      rw [← hn9]
      clear hall hr0 hiff hwid hlen hn9
      go_wp2_with (go_at_call 70; refine cs.mono ?_; rintro e w4 ⟨rfl, L', q1, q2, q3, q4, q5⟩; have HQ := hide (And.intro q1 (And.intro q2 (And.intro q3 (And.intro q4 q5)))); clear q1 q2 q3 q4 q5 cs)
      go_ret
      obtain ⟨q1, q2, q3, q4, q5⟩ := unhide HQ
      refine ⟨_, L', rfl, q1, fun x => (q2 x).trans (unhide HI x), by rw [q3]; exact q4, gb_trans (unhide HD).2.2 q5 (fun x e => Or.inl ?_)⟩
      exact ((unhide HD).2.1.lt x (by rw [← unhide HN9]; exact e)).1
    · have hnx : ∀ ty, (Instr.next (.pointer (some ⟨w.heap.size, 0, none⟩)) false ty).run Tryz.prog wr = .ok (.tuple #[.bool true, keyV x, v]) w2 := fun ty => hr0
      have hx : x.length = 32 := (unhide HD).1.wide _ hxv
      obtain ⟨XB, hXB⟩ : ∃ l, l = x.map bv := ⟨_, rfl⟩
      have hkv : keyV x = .agg XB.toArray := by rw [hXB]; rfl
      rw [hkv] at hnx he2
      have hXl : XB.length = 32 := by rw [hXB]; simp [hx]
      have hX1 : ∀ u ∈ XB, u.oneCell' = true := by rw [hXB]; exact bv_one _
      have hXo : XB.toArray.all (·.oneCell') = true := all_oneCell_toArray hX1
      have hiX : (Tryz.prog.info? 33).map (·.size) = some XB.length := by rw [hXl]; exact info_id
      have hiX2 : (Tryz.prog.info? 33).map (·.size) = some XB.toArray.size := by simpa using hiX
      have hZX : Z.toList.toArray.size = XB.toArray.size := by have := unhide HZ; simp [this, hXl]
      have ho2 := (unhide HD).2.1.kept g2 (Or.inr fun e => (unhide HD).1.own (unhide HD).2.1 e.symm)
      have gw2 : w.grownBy w2 none := gb_trans (unhide HD).2.2 g2 (fun y e => Or.inl (by cases e; exact Nat.le_refl _))
      obtain ⟨W3, hW3, hB3, g3⟩ := row_new w2 33 Z XB
      have hBZ : Blk (w2.alloc (.cells Z 33)) w2.heap.size 33 Z.toList := by simpa using Blk.new w2 33 Z.toList
      have hr3 := blk_all hB3
      obtain ⟨W5, hW5, hB5, g5⟩ := box_new W3 33 XB
      have hbs : (Instr.buildSlice 29 1 #[(0, .agg XB.toArray)]).run Tryz.prog W3 = .ok (.slice (some ⟨W3.heap.size, 0, none⟩) 1 1) W5 := by rw [hW5, hXB]; exact bs_id x hx W3
      have g25 := tn g3 g5
      have ho5 := own_id ho2 g25 (fun _ e => by cases e)
      have hO5 := hO2.none g25
      have G5 := tn gw2 g25
      have hne : w.heap.size ≤ W5.heap.size := G5.size
      have HXB := hide hXB
      have HBZ := hide hBZ
      have HW3 := hide hW3
      have HX1 := hide hX1
      have HXO := hide hXo
      have HIX := hide hiX
      have HIX2 := hide hiX2
      have HZX := hide hZX
      have HBS := hide hbs
      have HO5 := hide ho5
      have HV5 := hide hO5
      have HB5 := hide hB5
      have HG5 := hide G5
      have HXL := hide hXl
      have hn9 : done.length ≤ 100000 := by have := unhide HK; omega
      have HXD := hide hxd
      have HLE := hide hlen
      clear hXB hBZ hW3 hX1 hXo hiX hiX2 hZX hbs ho5 hO5 hB5 G5 hXl ho2 gw2 g3 g5 g25 hO2 g2 hB3 hW5 hkv hr0 HD hx hxv hxd hlen
      go_wp2_with (first
        | (have hB9 := unhide HBZ; refine wpList_store_row rfl 33 _ _ rfl w2.heap.size XB.toArray rfl rfl _ _ hB9 (unhide HIX2) (unhide HZX) (unhide HXO) ?_; clear hB9; rw [← unhide HW3])
        | (refine wpList_load_mid rfl 33 _ rfl w2.heap.size 0 rfl XB _ hr3 Tryz.underlying33 rfl (unhide HIX) ?_; clear hr3)
        | (refine wpList_build1 rfl 29 _ rfl (.agg XB.toArray) _ rfl (unhide HBS) ?_)
        | (refine wpList_append_id rfl _ _ rfl w.heap.size _ _ _ rfl (unhide HO5) _ XB (unhide HB5) (unhide HXL) (unhide HX1) rfl hn9 hne ?_; intro v6 w6 ho6 g6; have HO6 := hide ho6; have HV6 := hide ((unhide HV5).kept g6 ((unhide HV5).map.own (unhide HO5)) ((unhide HV5).own (unhide HO5))); have HG6 := hide (gb_trans (unhide HG5) g6 (fun x e => Or.inl ((unhide HO5).lt x e).1)); clear ho6 g6))
      go_roundg (K.length - (done ++ [x]).length)
      case measure =>
        have h1 := unhide HKK
        have h2 := nodup_le (unhide HV6).nodup (unhide HV6).inn
        simp only [List.length_append, List.length_cons, List.length_nil, List.length_map] at h2 ⊢
        omega
      case rel =>
        refine ⟨done ++ [x], ⟨unhide HV6, ?_, unhide HG6⟩, Nat.le_refl _⟩
        have e1 : (done ++ [x]).length = done.length + 1 := by simp
        have e2 : (done ++ [x]).flatMap (·.map bv) = done.flatMap (·.map bv) ++ XB := by rw [unhide HXB]; simp
        rw [e1, e2]
        exact unhide HO6

end Go.Proofs.YtlifmipnoeioaaaGreatDoor

/- What graph's rising answers of a map of names alone: its names, rising, whatever the map's own order. Of at most 100000 names. -/
namespace Go.Proofs.YtlifmipnoeioaaaGreatDoor
open Go.RowKit

set_option maxRecDepth 100000 in
set_option maxHeartbeats 4000000 in
theorem risingM_any (w : World) (m : Nat) (K : List (List UInt8 × Value)) (h : MapAt w m K) (hK : K.length ≤ 90000) :
    Calls Tryz.prog 44 #[.map (some m)] w fun e w' => ∃ v L, e = .returned v ∧ Ris L ∧ (∀ x, x ∈ L ↔ x ∈ K.map (·.1)) ∧ w'.ownsRow w.heap.size 33 32 v L.length (L.flatMap (·.map bv)) ∧ w.grownBy w' none := by
  obtain ⟨W1, hrg, hO1, g1⟩ := h.over 93 92 Tryz.underlying93
  obtain ⟨Z, hZ, hzv⟩ := zero_id
  have HZ := hide hZ
  have HO1 := hide hO1
  have HG1 := hide g1
  have HK := hide hK
  clear hZ hO1 g1 h hK
  go_enter Tryz.func44, Tryz.ntmps44
  go_wp2_with fail
  go_loopg [3] K.length (fun k v wr => ∃ done, Hid (OverAt wr m w.heap.size K done ∧ wr.ownsRow w.heap.size 33 32 v done.length (done.flatMap (·.map bv)) ∧ w.grownBy wr none) ∧ K.length - done.length ≤ k)
  case atStart => exact ⟨[], ⟨unhide HO1, World.ownsRow_nil _ _ _ _, unhide HG1⟩, by simp⟩
  case round =>
    rename_i v3 _
    obtain ⟨done, HD, hk⟩ := hrel
    have HKK := hide hk
    clear hk
    have hlen : done.length ≤ K.length := by
      have := nodup_le (unhide HD).1.nodup (unhide HD).1.inn
      simpa using this
    rcases (unhide HD).1.next 0 with ⟨hall, hr0⟩ | ⟨x, v, w2, hxv, hxd, hr0, hO2, he2, g2, -⟩
    · have hnx : ∀ ty, (Instr.next (.pointer (some ⟨w.heap.size, 0, none⟩)) false ty).run Tryz.prog wr = .ok (.tuple #[.bool false]) wr := fun ty => hr0
      have hiff : ∀ x, x ∈ done ↔ x ∈ K.map (·.1) := fun x => ⟨(unhide HD).1.inn x, hall x⟩
      have hwid : ∀ x ∈ done, x.length = 32 := fun x hx => by
        obtain ⟨p, hp, rfl⟩ := List.mem_map.1 ((unhide HD).1.inn x hx)
        exact (unhide HD).1.wide p hp
      obtain ⟨a3, c3, rfl⟩ := own_sl (unhide HD).2.1
      have cs := gsort_any wr w.heap.size _ done (unhide HD).2.1 hwid (unhide HD).1.nodup (by have := unhide HK; omega)
      have HI := hide hiff
      obtain ⟨n9, hn9⟩ : ∃ n, n = done.length := ⟨_, rfl⟩
      have HN9 := hide hn9
      rw [← hn9] at cs
      rw [← hn9]
      clear hall hr0 hiff hwid hlen hn9
      go_wp2_with (go_at_call 70; refine cs.mono ?_; rintro e w4 ⟨rfl, L', q1, q2, q3, q4, q5⟩; have HQ := hide (And.intro q1 (And.intro q2 (And.intro q3 (And.intro q4 q5)))); clear q1 q2 q3 q4 q5 cs)
      go_ret
      obtain ⟨q1, q2, q3, q4, q5⟩ := unhide HQ
      refine ⟨_, L', rfl, q1, fun x => (q2 x).trans (unhide HI x), by rw [q3]; exact q4, gb_trans (unhide HD).2.2 q5 (fun x e => Or.inl ?_)⟩
      exact ((unhide HD).2.1.lt x (by rw [← unhide HN9]; exact e)).1
    · have hnx : ∀ ty, (Instr.next (.pointer (some ⟨w.heap.size, 0, none⟩)) false ty).run Tryz.prog wr = .ok (.tuple #[.bool true, keyV x, v]) w2 := fun ty => hr0
      have hx : x.length = 32 := (unhide HD).1.wide _ hxv
      obtain ⟨XB, hXB⟩ : ∃ l, l = x.map bv := ⟨_, rfl⟩
      have hkv : keyV x = .agg XB.toArray := by rw [hXB]; rfl
      rw [hkv] at hnx he2
      have hXl : XB.length = 32 := by rw [hXB]; simp [hx]
      have hX1 : ∀ u ∈ XB, u.oneCell' = true := by rw [hXB]; exact bv_one _
      have hXo : XB.toArray.all (·.oneCell') = true := all_oneCell_toArray hX1
      have hiX : (Tryz.prog.info? 33).map (·.size) = some XB.length := by rw [hXl]; exact info_id
      have hiX2 : (Tryz.prog.info? 33).map (·.size) = some XB.toArray.size := by simpa using hiX
      have hZX : Z.toList.toArray.size = XB.toArray.size := by have := unhide HZ; simp [this, hXl]
      have ho2 := (unhide HD).2.1.kept g2 (Or.inr fun e => (unhide HD).1.own (unhide HD).2.1 e.symm)
      have gw2 : w.grownBy w2 none := gb_trans (unhide HD).2.2 g2 (fun y e => Or.inl (by cases e; exact Nat.le_refl _))
      obtain ⟨W3, hW3, hB3, g3⟩ := row_new w2 33 Z XB
      have hBZ : Blk (w2.alloc (.cells Z 33)) w2.heap.size 33 Z.toList := by simpa using Blk.new w2 33 Z.toList
      have hr3 := blk_all hB3
      obtain ⟨W5, hW5, hB5, g5⟩ := box_new W3 33 XB
      have hbs : (Instr.buildSlice 29 1 #[(0, .agg XB.toArray)]).run Tryz.prog W3 = .ok (.slice (some ⟨W3.heap.size, 0, none⟩) 1 1) W5 := by rw [hW5, hXB]; exact bs_id x hx W3
      have g25 := tn g3 g5
      have ho5 := own_id ho2 g25 (fun _ e => by cases e)
      have hO5 := hO2.none g25
      have G5 := tn gw2 g25
      have hne : w.heap.size ≤ W5.heap.size := G5.size
      have HXB := hide hXB
      have HBZ := hide hBZ
      have HW3 := hide hW3
      have HX1 := hide hX1
      have HXO := hide hXo
      have HIX := hide hiX
      have HIX2 := hide hiX2
      have HZX := hide hZX
      have HBS := hide hbs
      have HO5 := hide ho5
      have HV5 := hide hO5
      have HB5 := hide hB5
      have HG5 := hide G5
      have HXL := hide hXl
      have hn9 : done.length ≤ 100000 := by have := unhide HK; omega
      have HXD := hide hxd
      have HLE := hide hlen
      clear hXB hBZ hW3 hX1 hXo hiX hiX2 hZX hbs ho5 hO5 hB5 G5 hXl ho2 gw2 g3 g5 g25 hO2 g2 hB3 hW5 hkv hr0 HD hx hxv hxd hlen
      go_wp2_with (first
        | (have hB9 := unhide HBZ; refine wpList_store_row rfl 33 _ _ rfl w2.heap.size XB.toArray rfl rfl _ _ hB9 (unhide HIX2) (unhide HZX) (unhide HXO) ?_; clear hB9; rw [← unhide HW3])
        | (refine wpList_load_mid rfl 33 _ rfl w2.heap.size 0 rfl XB _ hr3 Tryz.underlying33 rfl (unhide HIX) ?_; clear hr3)
        | (refine wpList_build1 rfl 29 _ rfl (.agg XB.toArray) _ rfl (unhide HBS) ?_)
        | (refine wpList_append_id rfl _ _ rfl w.heap.size _ _ _ rfl (unhide HO5) _ XB (unhide HB5) (unhide HXL) (unhide HX1) rfl hn9 hne ?_; intro v6 w6 ho6 g6; have HO6 := hide ho6; have HV6 := hide ((unhide HV5).kept g6 ((unhide HV5).map.own (unhide HO5)) ((unhide HV5).own (unhide HO5))); have HG6 := hide (gb_trans (unhide HG5) g6 (fun x e => Or.inl ((unhide HO5).lt x e).1)); clear ho6 g6))
      go_roundg (K.length - (done ++ [x]).length)
      case measure =>
        have h1 := unhide HKK
        have h2 := nodup_le (unhide HV6).nodup (unhide HV6).inn
        simp only [List.length_append, List.length_cons, List.length_nil, List.length_map] at h2 ⊢
        omega
      case rel =>
        refine ⟨done ++ [x], ⟨unhide HV6, ?_, unhide HG6⟩, Nat.le_refl _⟩
        have e1 : (done ++ [x]).length = done.length + 1 := by simp
        have e2 : (done ++ [x]).flatMap (·.map bv) = done.flatMap (·.map bv) ++ XB := by rw [unhide HXB]; simp
        rw [e1, e2]
        exact unhide HO6

end Go.Proofs.YtlifmipnoeioaaaGreatDoor
