/- A map by numbers, in words of our own: what a look-up tells, what a store and a delete leave. No condition but those that each lemma names. -/
import Derived.Test.YtfaipdifkmjdeaaMNts
import Derived.Test.YtfaipdifkmjdeaaMBlk
import Derived.MapKept
import Derived.Carry
import Derived.Stop.BytesEq
import GoSem.Builtin.Delete
namespace Go.Proofs.Ytfaipdifkmjdeaa
open Go.RowKit

/-- A number as a key. -/
def keyN (x : Nat) : Value := .int .i64 (x : Int)
theorem keyN_inj {a b : Nat} (h : keyN a = keyN b) : a = b := by
  unfold keyN at h
  injection h with _ h
  omega
theorem keyN_same (a b : Nat) : Instr.sameNow (.int .i64) (keyN a) (keyN b) = some (a == b) := by
  unfold keyN
  simp only [Instr.sameNow, if_true]
  congr 1
  by_cases h : a = b
  · subst h; simp
  · have : (a : Int) ≠ b := by omega
    rw [beq_eq_false_iff_ne.2 h, beq_eq_false_iff_ne.2 this]
theorem keyN_check (w : World) (b : Bool) (a : Nat) : (Instr.checkKey b 10000 3 (keyN a)).run Try.prog w = .ok () w :=
  MapKept.run_checkKey (d := .int .i64) Try.underlying3 (by simp [MapKept.IsKey, keyN]) b 9999

/-- The block m is a map with just these entries, in the order of its memory, each name once. -/
structure ImapAt (w : World) (m : Nat) (K : List (Nat × Value)) : Prop where
  is : ∃ A clock, w.heap[m]? = some (.map A clock) ∧ A.toList.map (fun e => (e.key, e.val)) = K.map (fun p => (keyN p.1, p.2)) ∧ (∀ e ∈ A.toList, e.born < clock) ∧ (A.toList.map (·.born)).Nodup
  once : (K.map (·.1)).Nodup

theorem ImapAt.lt {w : World} {m : Nat} {K : List (Nat × Value)} (h : ImapAt w m K) : m < w.heap.size := by
  obtain ⟨_, _, h, _⟩ := h.is
  exact (Array.getElem?_eq_some_iff.1 h).1
theorem ImapAt.same {w a : World} {m : Nat} {K : List (Nat × Value)} (h : ImapAt w m K) (g : a.heap[m]? = w.heap[m]?) : ImapAt a m K := by
  obtain ⟨A, c, h1, h2⟩ := h.is
  exact ⟨⟨A, c, by rw [g]; exact h1, h2⟩, h.once⟩
theorem ImapAt.kept {w a : World} {m : Nat} {K : List (Nat × Value)} {r : Option Nat} (h : ImapAt w m K) (g : w.grownBy a r) (hr : some m ≠ r) : ImapAt a m K := h.same (g.block m h.lt hr)
theorem ImapAt.none {w a : World} {m : Nat} {K : List (Nat × Value)} (h : ImapAt w m K) (g : w.grownBy a Option.none) : ImapAt a m K := h.kept g (by simp)
theorem ImapAt.new (w : World) : ImapAt (w.alloc (.map #[] 0)) w.heap.size [] := ⟨⟨#[], 0, heap_alloc_new w _, rfl, by simp, by simp⟩, by simp⟩
theorem ImapAt.blk {w : World} {m b : Nat} {K : List (Nat × Value)} {t : TypeId} {cs : List Value} (h : ImapAt w m K) (hb : Blk w b t cs) : m ≠ b := by
  rintro rfl
  obtain ⟨_, _, h, _⟩ := h.is
  unfold Blk at hb
  rw [hb] at h
  cases h
theorem ImapAt.typ {w : World} {m : Nat} {K : List (Nat × Value)} (h : ImapAt w m K) : ¬ Typ w m := by
  rintro ⟨_, _, h2⟩
  obtain ⟨_, _, h, _⟩ := h.is
  rw [h2] at h
  cases h
/-- A row of the call's own is no map. -/
theorem ImapAt.own {w : World} {m base k n : Nat} {K : List (Nat × Value)} {t : TypeId} {v : Value} {xs : List Value} (h : ImapAt w m K) (ho : w.ownsRow base t k v n xs) : some m ≠ v.ownBlock := by
  obtain ⟨_, _, h, _⟩ := h.is
  rcases ho.2 with ⟨rfl, _⟩ | ⟨g, cap, cur, rfl, _, hh, _⟩
  · intro e; cases e
  · intro e
    have : m = g := by simpa [Value.ownBlock] using e
    subst this
    rw [hh] at h
    cases h
/-- Another map. -/
theorem own_imap {w a : World} {m base k n : Nat} {K : List (Nat × Value)} {t : TypeId} {v : Value} {xs : List Value} (ho : w.ownsRow base t k v n xs) (h : ImapAt w m K) (g : w.grownBy a (some m)) : a.ownsRow base t k v n xs := by
  refine ⟨ho.1, ?_⟩
  have hne := h.own ho
  rcases ho.2 with h1 | ⟨p, cap, cur, hv, hg, hh, hr⟩
  · exact Or.inl h1
  · subst hv
    refine Or.inr ⟨p, cap, cur, rfl, hg, ?_, hr⟩
    rw [g.block p (Array.getElem?_eq_some_iff.1 hh).1 (fun e => hne (by rw [← e]; rfl))]
    exact hh

/-- What a map has by a name. -/
def getI (K : List (Nat × Value)) (x : Nat) : Option Value := (K.find? fun p => p.1 == x).map (·.2)
/-- What a store leaves. -/
def putI (K : List (Nat × Value)) (x : Nat) (v : Value) : List (Nat × Value) := if x ∈ K.map (·.1) then K.map fun p => if p.1 = x then (x, v) else p else K ++ [(x, v)]
/-- What a delete leaves. -/
def delI (K : List (Nat × Value)) (x : Nat) : List (Nat × Value) := K.filter fun p => p.1 != x

theorem getI_isSome (K : List (Nat × Value)) (x : Nat) : (getI K x).isSome = true ↔ x ∈ K.map (·.1) := by
  unfold getI
  rw [Option.isSome_map, List.find?_isSome]
  constructor
  · rintro ⟨p, hp, h⟩
    exact List.mem_map.2 ⟨p, hp, by simpa using h⟩
  · intro h
    obtain ⟨p, hp, rfl⟩ := List.mem_map.1 h
    exact ⟨p, hp, by simp⟩
theorem getI_none {K : List (Nat × Value)} {x : Nat} (h : x ∉ K.map (·.1)) : getI K x = none := by
  cases hg : getI K x with
  | none => rfl
  | some v => exact absurd ((getI_isSome K x).1 (by rw [hg]; rfl)) h
theorem getI_mem {K : List (Nat × Value)} {x : Nat} {v : Value} (h : getI K x = some v) : (x, v) ∈ K := by
  unfold getI at h
  obtain ⟨p, hp, rfl⟩ := Option.map_eq_some_iff.1 h
  have h1 := List.mem_of_find?_eq_some hp
  have h2 : p.1 = x := by simpa using List.find?_some hp
  obtain ⟨a, b⟩ := p
  simp only at h2
  subst h2
  exact h1
theorem nodup_inj_I {α β : Type} {f : α → β} : ∀ {K : List α}, (K.map f).Nodup → ∀ {a b : α}, a ∈ K → b ∈ K → f a = f b → a = b
  | [], _, _, _, h, _, _ => by simp at h
  | x :: K, hn, a, b, ha, hb, h => by
    have hc := List.nodup_cons.1 hn
    rcases List.mem_cons.1 ha with h1 | h1
    · rcases List.mem_cons.1 hb with h2 | h2
      · rw [h1, h2]
      · exact absurd (by rw [← h1, h]; exact List.mem_map.2 ⟨b, h2, rfl⟩) hc.1
    · rcases List.mem_cons.1 hb with h2 | h2
      · exact absurd (by rw [← h2, ← h]; exact List.mem_map.2 ⟨a, h1, rfl⟩) hc.1
      · exact nodup_inj_I hc.2 h1 h2 h
theorem getI_some {K : List (Nat × Value)} (hn : (K.map (·.1)).Nodup) {x : Nat} {v : Value} (h : (x, v) ∈ K) : getI K x = some v := by
  cases hg : getI K x with
  | none => exact absurd (List.mem_map.2 ⟨_, h, rfl⟩) (fun hm => by have := (getI_isSome K x).2 hm; rw [hg] at this; cases this)
  | some u =>
    have h1 := getI_mem hg
    have h2 := nodup_inj_I hn h1 h rfl
    injection h2 with _ h2
    rw [h2]

theorem find_atI (x : Nat) : ∀ (l : List MapEntry) (K : List (Nat × Value)) (i : Nat), l.map (fun e => (e.key, e.val)) = K.map (fun p => (keyN p.1, p.2)) →
    (x ∉ K.map (·.1) ∧ Instr.findNow (.int .i64) (keyN x) l i = some none) ∨
      ∃ (j : Nat) (hj : j < K.length), K[j].1 = x ∧ (∀ q (hq : q < j), (K[q]'(by omega)).1 ≠ x) ∧ Instr.findNow (.int .i64) (keyN x) l i = some (some (i + j, K[j].2))
  | [], [], _, _ => Or.inl ⟨by simp, rfl⟩
  | [], _ :: _, _, h => by simp at h
  | _ :: _, [], _, h => by simp at h
  | e :: l, p :: K, i, h => by
    simp only [List.map_cons, List.cons.injEq, Prod.mk.injEq] at h
    obtain ⟨⟨h1, h2⟩, h3⟩ := h
    have hs : Instr.sameNow (.int .i64) (keyN x) e.key = some (x == p.1) := by rw [h1]; exact keyN_same x p.1
    by_cases hp : p.1 = x
    · refine Or.inr ⟨0, by simp, hp, fun q hq => by omega, ?_⟩
      unfold Instr.findNow
      rw [hs, hp, beq_self_eq_true, h2]; rfl
    · have hb : (x == p.1) = false := beq_eq_false_iff_ne.2 fun e => hp e.symm
      have hF : Instr.findNow (.int .i64) (keyN x) (e :: l) i = Instr.findNow (.int .i64) (keyN x) l (i + 1) := by
        conv => lhs; unfold Instr.findNow
        rw [hs, hb]
      rw [hF]
      rcases find_atI x l K (i + 1) h3 with ⟨h4, h5⟩ | ⟨j, hj, h4, h6, h5⟩
      · exact Or.inl ⟨by simp only [List.map_cons, List.mem_cons, not_or]; exact ⟨fun e => hp e.symm, h4⟩, h5⟩
      · refine Or.inr ⟨j + 1, by simp; omega, by simpa using h4, fun q hq => ?_, by rw [h5]; simp; omega⟩
        cases q with
        | zero => exact hp
        | succ q => simpa using h6 q (by omega)

theorem find_runI (w : World) (x : Nat) (A : Array MapEntry) (K : List (Nat × Value)) (h : A.toList.map (fun e => (e.key, e.val)) = K.map (fun p => (keyN p.1, p.2))) :
    (x ∉ K.map (·.1) ∧ (Instr.findKey 3 (keyN x) A.toList).run Try.prog w = .ok none w) ∨
      ∃ (j : Nat) (hj : j < K.length), K[j].1 = x ∧ (∀ q (hq : q < j), (K[q]'(by omega)).1 ≠ x) ∧ (Instr.findKey 3 (keyN x) A.toList).run Try.prog w = .ok (some (j, K[j].2)) w := by
  rcases find_atI x A.toList K 0 h with ⟨h1, h2⟩ | ⟨j, hj, h1, h2, h3⟩
  · exact Or.inl ⟨h1, MapKept.run_findKey Try.underlying3 h2⟩
  · exact Or.inr ⟨j, hj, h1, h2, MapKept.run_findKey Try.underlying3 (by rw [h3, Nat.zero_add])⟩

theorem getI_at {K : List (Nat × Value)} {x : Nat} {j : Nat} (hj : j < K.length) (h1 : K[j].1 = x) (h2 : ∀ q (hq : q < j), (K[q]'(by omega)).1 ≠ x) : getI K x = some K[j].2 := by
  unfold getI
  rw [List.find?_eq_some_iff_getElem.2 ⟨by simpa using h1, j, hj, rfl, fun q hq => by simpa using h2 q hq⟩]
  rfl

/-- 'v, there := m[x]', and 'm[x]'. -/
theorem ImapAt.look {w : World} {m : Nat} {K : List (Nat × Value)} (h : ImapAt w m K) (t e : TypeId) (ht : Try.prog.underlying t = some (.map 3 e)) (z : Value) (hz : (zeroValue e).run Try.prog w = .ok z w) (x : Nat) (ok : Bool) :
    (Instr.lookup t (.map (some m)) (keyN x) ok).run Try.prog w = .ok (if ok then .tuple #[(getI K x).getD z, .bool (getI K x).isSome] else (getI K x).getD z) w := by
  obtain ⟨A, c, h1, h2, _⟩ := h.is
  have hc := keyN_check w A.isEmpty x
  have hg := MapKept.run_getObj_map (P := Try.prog) h1
  rcases find_runI w x A K h2 with ⟨h4, h5⟩ | ⟨j, hj, h4, h6, h5⟩
  · rw [getI_none h4]
    simp [Instr.lookup, run_underlying ht, hg, hc, h5, hz, Result.andThen]
  · rw [getI_at hj h4 h6]
    simp [Instr.lookup, run_underlying ht, hg, hc, h5, Result.andThen]

theorem modify_listI {A : Array MapEntry} (j : Nat) (f : MapEntry → MapEntry) : (A.modify j f).toList = A.toList.modify j f := by simp

/-- 'm[x] = v'. -/
theorem ImapAt.store {w : World} {m : Nat} {K : List (Nat × Value)} (h : ImapAt w m K) (t e : TypeId) (ht : Try.prog.underlying t = some (.map 3 e)) (x : Nat) (v : Value) :
    ∃ w', (Instr.mapUpdate t (.map (some m)) (keyN x) v).run Try.prog w = .ok () w' ∧ ImapAt w' m (putI K x v) ∧ w.grownBy w' (some m) ∧ w'.heap.size = w.heap.size := by
  have hlt := h.lt
  obtain ⟨A, c, h1, h2, hb, hnd⟩ := h.is
  have hc := keyN_check w false x
  have hg := MapKept.run_getObj_map (P := Try.prog) h1
  have hgr : ∀ o : Obj, w.grownBy { w with heap := w.heap.setIfInBounds m o } (some m) := fun o => ⟨rfl, rfl, rfl, by simp, fun i _ hi => by
    have : m ≠ i := fun e => hi (by rw [e])
    simp [this]⟩
  have hsame : ∀ o : Obj, ({ w with heap := w.heap.setIfInBounds m o } : World).heap[m]? = some o := fun o => by simp [hlt]
  rcases find_runI w x A K h2 with ⟨h4, h5⟩ | ⟨j, hj, h4, h6, h5⟩
  · refine ⟨{ w with heap := w.heap.setIfInBounds m (.map (A.push { key := keyN x, val := v, born := c }) (c + 1)) }, ?_, ⟨⟨_, _, hsame _, ?_, ?_, ?_⟩, ?_⟩, hgr _, by simp⟩
    · simp [Instr.mapUpdate, run_underlying ht, hg, hc, h5, Result.andThen, MapKept.run_setObj_map _ h1]
    · unfold putI; rw [if_neg h4]; simp [h2]
    · intro y hy
      simp only [Array.toList_push, List.mem_append, List.mem_singleton] at hy
      rcases hy with hy | rfl
      · exact Nat.lt_succ_of_lt (hb y hy)
      · exact Nat.lt_succ_self _
    · simp only [Array.toList_push, List.map_append, List.map_cons, List.map_nil]
      refine List.nodup_append.2 ⟨hnd, by simp, ?_⟩
      intro a ha b hb2
      simp only [List.mem_singleton] at hb2
      subst hb2
      obtain ⟨y, hy, rfl⟩ := List.mem_map.1 ha
      exact Nat.ne_of_lt (hb y hy)
    · unfold putI; rw [if_neg h4]
      rw [List.map_append]
      refine List.nodup_append.2 ⟨h.once, by simp, ?_⟩
      intro a ha b hb2
      simp only [List.map_cons, List.map_nil, List.mem_singleton] at hb2
      subst hb2
      exact fun e => h4 (e ▸ ha)
  · have hmem : x ∈ K.map (·.1) := List.mem_map.2 ⟨K[j], List.getElem_mem _, h4⟩
    have hlen : A.toList.length = K.length := by have := congrArg List.length h2; simpa using this
    have hjA : j < A.toList.length := by omega
    have hkey : A.toList[j].key = keyN x := by
      have h7 : (A.toList.map (fun e => (e.key, e.val)))[j]? = (K.map (fun p => (keyN p.1, p.2)))[j]? := by rw [h2]
      rw [List.getElem?_map, List.getElem?_map, List.getElem?_eq_getElem hjA, List.getElem?_eq_getElem hj] at h7
      simp only [Option.map_some, Option.some.injEq, Prod.mk.injEq] at h7
      rw [h7.1, h4]
    have hst : (Instr.keyThatStays (keyN x) (keyN x)).run Try.prog w = .ok (keyN x) w := by
      unfold Instr.keyThatStays
      rw [if_pos (by simp [keyN, Instr.sameBits])]; rfl
    have hjB : j < A.size := by simpa using hjA
    have hkey2 : A[j].key = keyN x := by simpa using hkey
    have hjo : A[j]? = some A[j] := by simp [hjB]
    have hjo2 : A[j]? = some A.toList[j] := by
      rw [← Array.getElem?_toList, List.getElem?_eq_getElem hjA]
    have hput : putI K x v = K.modify j fun _ => (x, v) := by
      unfold putI; rw [if_pos hmem]
      apply List.ext_getElem?
      intro i
      rw [List.getElem?_map, List.getElem?_modify]
      by_cases hij : j = i
      · subst hij
        rw [List.getElem?_eq_getElem hj]
        simp [h4]
      · simp only [if_neg hij]
        cases hi : K[i]? with
        | none => rfl
        | some p =>
          obtain ⟨hi2, rfl⟩ := List.getElem?_eq_some_iff.1 hi
          have : K[i].1 ≠ x := fun e => hij (by
            have h8 : (K.map (·.1))[j]'(by simpa using hj) = (K.map (·.1))[i]'(by simpa using hi2) := by simp [h4, e]
            exact (List.getElem_inj h.once).1 h8)
          simp [this]
    refine ⟨{ w with heap := w.heap.setIfInBounds m (.map (A.modify j fun e => { e with key := keyN x, val := v }) c) }, ?_, ⟨⟨_, _, hsame _, ?_, ?_, ?_⟩, ?_⟩, hgr _, by simp⟩
    · simp [Instr.mapUpdate, run_underlying ht, hg, hc, h5, Result.andThen, MapKept.run_setObj_map _ h1, hjo, hkey2, hst]
    · rw [hput, modify_listI]
      apply List.ext_getElem?
      intro i
      rw [List.getElem?_map, List.getElem?_map, List.getElem?_modify, List.getElem?_modify]
      have h7 : (A.toList.map (fun e => (e.key, e.val)))[i]? = (K.map (fun p => (keyN p.1, p.2)))[i]? := by rw [h2]
      rw [List.getElem?_map, List.getElem?_map] at h7
      by_cases hij : j = i
      · subst hij
        rw [List.getElem?_eq_getElem hjA, List.getElem?_eq_getElem hj]
        simp
      · simp only [if_neg hij]
        simpa using h7
    · intro y hy
      rw [modify_listI] at hy
      obtain ⟨i, hi⟩ := List.mem_iff_getElem?.1 hy
      rw [List.getElem?_modify] at hi
      obtain ⟨z, hz, rfl⟩ := Option.map_eq_some_iff.1 hi
      have := hb z (List.mem_of_getElem? hz)
      split <;> exact this
    · have : (A.modify j fun e => { e with key := keyN x, val := v }).toList.map (·.born) = A.toList.map (·.born) := by
        rw [modify_listI]
        apply List.ext_getElem?
        intro i
        rw [List.getElem?_map, List.getElem?_map, List.getElem?_modify]
        cases A.toList[i]? with
        | none => rfl
        | some z => simp only [Option.map_some]; split <;> rfl
      rw [this]; exact hnd
    · have : (putI K x v).map (·.1) = K.map (·.1) := by
        unfold putI; rw [if_pos hmem, List.map_map]
        apply List.map_congr_left
        intro p _
        simp only [Function.comp]
        split
        · rename_i e; exact e.symm
        · rfl
      rw [this]; exact h.once

theorem erase_mapI {α β : Type} (f : α → β) (l : List α) (i : Nat) : (l.eraseIdx i).map f = (l.map f).eraseIdx i := by
  rw [List.eraseIdx_eq_take_drop_succ, List.eraseIdx_eq_take_drop_succ, List.map_append, List.map_take, List.map_drop]

theorem putI_mem {K : List (Nat × Value)} (x : Nat) (v : Value) (p : Nat × Value) : p ∈ putI K x v ↔ p = (x, v) ∨ (p ∈ K ∧ p.1 ≠ x) := by
  unfold putI
  split
  · rename_i hm
    rw [List.mem_map]
    constructor
    · rintro ⟨q, hq, rfl⟩
      split
      · exact Or.inl rfl
      · rename_i h; exact Or.inr ⟨hq, h⟩
    · rintro (rfl | ⟨h1, h2⟩)
      · obtain ⟨q, hq, h⟩ := List.mem_map.1 hm
        exact ⟨q, hq, if_pos h⟩
      · exact ⟨p, h1, if_neg h2⟩
  · rename_i hm
    rw [List.mem_append, List.mem_singleton]
    constructor
    · rintro (h | h)
      · exact Or.inr ⟨h, fun e => hm (e ▸ List.mem_map.2 ⟨p, h, rfl⟩)⟩
      · exact Or.inl h
    · rintro (h | ⟨h, _⟩)
      · exact Or.inr h
      · exact Or.inl h
theorem delI_mem {K : List (Nat × Value)} (x : Nat) (p : Nat × Value) : p ∈ delI K x ↔ p ∈ K ∧ p.1 ≠ x := by simp [delI]

/-- 'delete(m, x)'. -/
theorem ImapAt.del {w : World} {m : Nat} {K : List (Nat × Value)} (h : ImapAt w m K) (t e u : TypeId) (T : Array TypeId) (hT : T[0]? = some t) (ht : Try.prog.underlying t = some (.map 3 e)) (x : Nat) :
    ∃ w', (Builtin.delete_ T u #[.map (some m), keyN x]).run Try.prog w = .ok (.tuple #[]) w' ∧ ImapAt w' m (delI K x) ∧ w.grownBy w' (some m) ∧ w'.heap.size = w.heap.size := by
  have hlt := h.lt
  obtain ⟨A, c, h1, h2, hb, hnd⟩ := h.is
  have hc := keyN_check w A.isEmpty x
  have hg := MapKept.run_getObj_map (P := Try.prog) h1
  have hgr : ∀ o : Obj, w.grownBy { w with heap := w.heap.setIfInBounds m o } (some m) := fun o => ⟨rfl, rfl, rfl, by simp, fun i _ hi => by
    have : m ≠ i := fun e => hi (by rw [e])
    simp [this]⟩
  have hsame : ∀ o : Obj, ({ w with heap := w.heap.setIfInBounds m o } : World).heap[m]? = some o := fun o => by simp [hlt]
  have hlen : A.toList.length = K.length := by have := congrArg List.length h2; simpa using this
  have honce : ((delI K x).map (·.1)).Nodup := (List.filter_sublist.map _).nodup h.once
  rcases find_runI w x A K h2 with ⟨h4, h5⟩ | ⟨j, hj, h4, h6, h5⟩
  · have hd : delI K x = K := by
      unfold delI
      rw [List.filter_eq_self]
      intro p hp
      simp only [bne_iff_ne, ne_eq]
      rintro rfl
      exact h4 (List.mem_map.2 ⟨p, hp, rfl⟩)
    refine ⟨{ w with heap := w.heap.setIfInBounds m (.map A c) }, ?_, ⟨⟨_, _, hsame _, by rw [hd]; exact h2, hb, hnd⟩, honce⟩, hgr _, by simp⟩
    simp [Builtin.delete_, hT, run_underlying ht, hg, hc, h5, Result.andThen, MapKept.run_setObj_map _ h1]
  · have hjA : j < A.size := by
      simp only [Array.length_toList] at hlen
      omega
    have hel : (A.eraseIdxIfInBounds j).toList = A.toList.eraseIdx j := by
      unfold Array.eraseIdxIfInBounds
      rw [dif_pos hjA]; simp
    have hd : delI K x = K.eraseIdx j := by
      unfold delI
      have hsp : K = K.take j ++ K[j] :: K.drop (j + 1) := by rw [← List.drop_eq_getElem_cons hj, List.take_append_drop]
      have hn : ((K.take j).map (·.1) ++ K[j].1 :: (K.drop (j + 1)).map (·.1)).Nodup := by
        have h9 := congrArg (List.map (·.1)) hsp
        rw [List.map_append, List.map_cons] at h9
        rw [← h9]; exact h.once
      have hn2 := List.nodup_append.1 hn
      have hn3 := List.nodup_cons.1 hn2.2.1
      rw [List.eraseIdx_eq_take_drop_succ]
      have hf : K.filter (fun p => p.1 != x) = (K.take j ++ K[j] :: K.drop (j + 1)).filter (fun p => p.1 != x) := congrArg _ hsp
      rw [hf, List.filter_append, List.filter_cons, if_neg (by simp [h4])]
      refine congr (congrArg _ ?_) ?_
      · rw [List.filter_eq_self]
        intro p hp
        simp only [bne_iff_ne, ne_eq]
        intro e
        exact hn2.2.2 p.1 (List.mem_map.2 ⟨p, hp, rfl⟩) K[j].1 (by simp) (by rw [e, h4])
      · rw [List.filter_eq_self]
        intro p hp
        simp only [bne_iff_ne, ne_eq]
        intro e
        exact hn3.1 (by rw [h4, ← e]; exact List.mem_map.2 ⟨p, hp, rfl⟩)
    refine ⟨{ w with heap := w.heap.setIfInBounds m (.map (A.eraseIdxIfInBounds j) c) }, ?_, ⟨⟨_, _, hsame _, ?_, ?_, ?_⟩, honce⟩, hgr _, by simp⟩
    · simp [Builtin.delete_, hT, run_underlying ht, hg, hc, h5, Result.andThen, MapKept.run_setObj_map _ h1]
    · rw [hd, hel, erase_mapI, erase_mapI, h2]
    · intro y hy
      rw [hel] at hy
      exact hb y (List.mem_of_mem_eraseIdx hy)
    · rw [hel, erase_mapI]
      exact (List.eraseIdx_sublist _ _).nodup hnd

end Go.Proofs.Ytfaipdifkmjdeaa
