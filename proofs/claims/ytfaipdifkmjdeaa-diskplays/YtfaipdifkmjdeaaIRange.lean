/- How a map by numbers is gone over, in whatever order the run takes. No condition but those that each lemma names. -/
import Derived.Test.YtfaipdifkmjdeaaIMap
import Derived.Maps.RangeRun
namespace Go.Proofs.Ytfaipdifkmjdeaa
open Go.RowKit
open Go.ChangeMaps (setBlock)

/-- The block r goes over the map m: these names have come. -/
structure IoverAt (w : World) (m r : Nat) (K : List (Nat × Value)) (done : List Nat) : Prop where
  is : ∃ A clock seen, w.heap[m]? = some (.map A clock) ∧ w.heap[r]? = some (.mapIter (some m) clock seen clock) ∧ A.toList.map (fun e => (e.key, e.val)) = K.map (fun p => (keyN p.1, p.2)) ∧ (∀ e ∈ A.toList, e.born < clock) ∧ (A.toList.map (·.born)).Nodup ∧ (∀ e ∈ A.toList, ∀ x, e.key = keyN x → (seen.contains e.born = true ↔ x ∈ done))
  once : (K.map (·.1)).Nodup
  nodup : done.Nodup
  inn : ∀ x ∈ done, x ∈ K.map (·.1)

theorem IoverAt.map {w : World} {m r : Nat} {K : List (Nat × Value)} {done : List Nat} (h : IoverAt w m r K done) : ImapAt w m K := by
  obtain ⟨A, c, s, h1, h2, h3, h4, h5, h6⟩ := h.is
  exact ⟨⟨A, c, h1, h3, h4, h5⟩, h.once⟩
theorem IoverAt.lt {w : World} {m r : Nat} {K : List (Nat × Value)} {done : List Nat} (h : IoverAt w m r K done) : r < w.heap.size := by
  obtain ⟨A, c, s, h1, h2, h3⟩ := h.is
  exact (Array.getElem?_eq_some_iff.1 h2).1
theorem IoverAt.kept {w a : World} {m r : Nat} {K : List (Nat × Value)} {done : List Nat} {q : Option Nat} (h : IoverAt w m r K done) (g : w.grownBy a q) (h1 : some m ≠ q) (h2 : some r ≠ q) : IoverAt a m r K done := by
  have hm := h.map.lt
  have hr := h.lt
  obtain ⟨A, c, s, k1, k2, k3⟩ := h.is
  exact ⟨⟨A, c, s, by rw [g.block m hm h1]; exact k1, by rw [g.block r hr h2]; exact k2, k3⟩, h.once, h.nodup, h.inn⟩
theorem IoverAt.none {w a : World} {m r : Nat} {K : List (Nat × Value)} {done : List Nat} (h : IoverAt w m r K done) (g : w.grownBy a Option.none) : IoverAt a m r K done := h.kept g (by simp) (by simp)
/-- A row of the call's own is no iterator. -/
theorem IoverAt.own {w : World} {m r base k n : Nat} {K : List (Nat × Value)} {done : List Nat} {t : TypeId} {v : Value} {xs : List Value} (h : IoverAt w m r K done) (ho : w.ownsRow base t k v n xs) : some r ≠ v.ownBlock := by
  obtain ⟨_, _, _, _, h, _⟩ := h.is
  rcases ho.2 with ⟨rfl, _⟩ | ⟨g, cap, cur, rfl, _, hh, _⟩
  · intro e; cases e
  · intro e
    have : r = g := by simpa [Value.ownBlock] using e
    subst this
    rw [hh] at h
    cases h

/-- 'range m'. -/
theorem ImapAt.over {w : World} {m : Nat} {K : List (Nat × Value)} (h : ImapAt w m K) (t e : TypeId) (ht : Try.prog.underlying t = some (.map 3 e)) :
    ∃ W, (Instr.range t (.map (some m))).run Try.prog w = .ok (.pointer (some ⟨w.heap.size, 0, Option.none⟩)) W ∧ IoverAt W m w.heap.size K [] ∧ w.grownBy W Option.none := by
  obtain ⟨A, c, h1, h2, h3, h4⟩ := h.is
  have hlt := h.lt
  refine ⟨_, run_range_map w t _ e m A c ht h1, ⟨⟨A, c, #[], ?_, heap_alloc_new w _, h2, h3, h4, fun e _ x _ => by simp⟩, h.once, by simp, by simp⟩, gb_alloc (gb_refl _ _) _⟩
  rw [heap_alloc_old w _ hlt]
  exact h1

/-- The next one: none is left, or one that has not come. -/
theorem IoverAt.next {w : World} {m r : Nat} {K : List (Nat × Value)} {done : List Nat} (h : IoverAt w m r K done) (ty : TypeId) :
    ((∀ x ∈ K.map (·.1), x ∈ done) ∧ (Instr.next (.pointer (some ⟨r, 0, Option.none⟩)) false ty).run Try.prog w = .ok (.tuple #[.bool false]) w) ∨
      ∃ x v w2, (x, v) ∈ K ∧ x ∉ done ∧ (Instr.next (.pointer (some ⟨r, 0, Option.none⟩)) false ty).run Try.prog w = .ok (.tuple #[.bool true, keyN x, v]) w2 ∧ IoverAt w2 m r K (done ++ [x]) ∧ (Instr.entry (.pointer (some ⟨r, 0, Option.none⟩))).run Try.prog w2 = .ok (.tuple #[keyN x, v]) w2 ∧ w.grownBy w2 (some r) ∧ w2.heap.size = w.heap.size := by
  have hrl := h.lt
  obtain ⟨A, c, s, h1, h2, h3, h4, h5, h6⟩ := h.is
  have hmem : ∀ e ∈ A.toList, ∃ x v, (x, v) ∈ K ∧ e.key = keyN x ∧ e.val = v := fun e he => by
    have : (e.key, e.val) ∈ A.toList.map (fun e => (e.key, e.val)) := List.mem_map.2 ⟨e, he, rfl⟩
    rw [h3] at this
    obtain ⟨p, hp, hpe⟩ := List.mem_map.1 this
    simp only [Prod.mk.injEq] at hpe
    exact ⟨p.1, p.2, hp, hpe.1.symm, hpe.2.symm⟩
  rcases run_next_at (P := Try.prog) w ty r m c c s A c h2 h1 h4 (Nat.le_refl _) with ⟨hl, hr⟩ | ⟨e, he, w1, hw1, hr⟩
  · refine Or.inl ⟨fun x hx => ?_, hr⟩
    obtain ⟨p, hp, rfl⟩ := List.mem_map.1 hx
    have : (keyN p.1, p.2) ∈ K.map (fun p => (keyN p.1, p.2)) := List.mem_map.2 ⟨p, hp, rfl⟩
    rw [← h3] at this
    obtain ⟨e, he, hek⟩ := List.mem_map.1 this
    simp only [Prod.mk.injEq] at hek
    refine (h6 e he p.1 hek.1).1 ?_
    cases hs : s.contains e.born with
    | true => rfl
    | false =>
      exfalso
      have hin : e ∈ (leftOf A s).toList := by
        unfold leftOf
        have : e ∈ A := by simpa using he
        simp [this]
        simpa using hs
      have : (leftOf A s).toList.length = 0 := by simpa using hl
      rw [List.length_eq_zero_iff] at this
      rw [this] at hin
      simp at hin
  · have heA : e ∈ A.toList ∧ s.contains e.born = false := by
      unfold leftOf at he
      have he2 : e ∈ A ∧ e.born ∉ s := by simpa using he
      exact ⟨by simpa using he2.1, by simpa using he2.2⟩
    obtain ⟨x, v, hxv, hek, hev⟩ := hmem e heA.1
    have hxd : x ∉ done := fun hx => by
      have := (h6 e heA.1 x hek).2 hx
      rw [heA.2] at this
      cases this
    have hnm : m ≠ r := by
      rintro rfl
      rw [h1] at h2
      cases h2
    have hb : ∀ o : Obj, (setBlock w1 r o).heap[r]? = some o ∧ (setBlock w1 r o).heap[m]? = w.heap[m]? ∧ w.grownBy (setBlock w1 r o) (some r) ∧ (setBlock w1 r o).heap.size = w.heap.size := fun o => by
      have hh : w1.heap = w.heap := by rcases hw1 with rfl | rfl <;> rfl
      refine ⟨?_, ?_, ⟨?_, ?_, ?_, ?_, fun k hk hne => ?_⟩, ?_⟩
      · simp [setBlock, hh, hrl]
      · simp [setBlock, hh, Ne.symm hnm]
      · rcases hw1 with rfl | rfl <;> rfl
      · rcases hw1 with rfl | rfl <;> rfl
      · rcases hw1 with rfl | rfl <;> rfl
      · simp [setBlock, hh]
      · have : r ≠ k := fun e => hne (by rw [e])
        simp [setBlock, hh, this]
      · simp [setBlock, hh]
    obtain ⟨q1, q2, q3, q4⟩ := hb (.mapIter (some m) c (s.push e.born) c)
    refine Or.inr ⟨x, v, _, hxv, hxd, by rw [hek, hev] at hr; exact hr, ⟨⟨A, c, s.push e.born, by rw [q2]; exact h1, q1, h3, h4, h5, fun e' he' x' hk' => ?_⟩, h.once, ?_, ?_⟩, ?_, q3, q4⟩
    · rw [Array.contains_push, Bool.or_eq_true, h6 e' he' x' hk', List.mem_append, List.mem_singleton]
      constructor
      · rintro (h7 | h7)
        · exact Or.inl h7
        · right
          have h8 : e'.born = e.born := by simpa using h7
          have h9 := nodup_inj_I h5 he' heA.1 h8
          rw [h9, hek] at hk'
          exact (keyN_inj hk').symm
      · rintro (h7 | rfl)
        · exact Or.inl h7
        · right
          have : e' = e := by
            have hk2 : (A.toList.map (·.key)).Nodup := by
              have e1 : A.toList.map (·.key) = (K.map (·.1)).map keyN := by
                have := congrArg (List.map Prod.fst) h3
                rw [List.map_map, List.map_map] at this
                rw [List.map_map]
                exact this
              rw [e1]
              exact List.Pairwise.map _ (fun a b hne he => hne (keyN_inj he)) h.once
            exact nodup_inj_I hk2 he' heA.1 (by rw [hk', hek])
          rw [this]
          simp
    · exact List.nodup_append.2 ⟨h.nodup, by simp, fun a ha b hb => by
        rw [List.mem_singleton.1 hb]
        rintro rfl
        exact hxd ha⟩
    · intro y hy
      rcases List.mem_append.1 hy with hy | hy
      · exact h.inn y hy
      · rw [List.mem_singleton.1 hy]
        exact List.mem_map.2 ⟨_, hxv, rfl⟩
    · have := run_entry_at (P := Try.prog) (setBlock w1 r (.mapIter (some m) c (s.push e.born) c)) r m c s A c e q1 (by rw [q2]; exact h1) heA.1 h5
      rw [hek, hev] at this
      exact this

end Go.Proofs.Ytfaipdifkmjdeaa
