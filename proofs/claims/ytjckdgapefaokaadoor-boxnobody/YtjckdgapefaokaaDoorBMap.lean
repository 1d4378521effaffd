/- A block that is known whole, and what stores, rows and parts of it leave. No condition but those that each lemma names. -/
import Derived.Test.YtjckdgapefaokaaDoorMem
import Derived.Deep.MidRow
import Derived.Deep.RegionHeld3
import Derived.Laws.BitsAllLaws
import Derived.Test.YtjckdgapefaokaaDoorBMath
import Derived.Test.YtjckdgapefaokaaDoorMStr
import Derived.MapKept
import Derived.Carry
namespace Go.Proofs.YtjckdgapefaokaaDoor
open Go.RowKit

/-- A row of words, or of bytes, by value: its element. -/
theorem index_row {P : Program} (t e : TypeId) (n : Nat) (cs : List Value) (i : Nat) (v : Value) (hu : P.underlying t = some (.array n e)) (hz : ∀ w, (Go.sizeOf e).run P w = .ok 1 w) (ha : ∀ w, (isAgg e).run P w = .ok false w)
    (hi : i < n) (hv : cs[i]? = some v) (w : World) : (Instr.index t (.agg cs.toArray) (.int .i64 (i : Int))).run P w = .ok v w := by
  simp only [Instr.index, asIntOf, Sem.run_bind, Sem.run_pure, Result.andThen_ok, run_underlying hu]
  rw [if_pos (by omega)]
  simp [part, hz, ha, hv]

theorem agg_byte (w : World) : (isAgg 5).run Tryd.prog w = .ok false w := by kernel_rfl

/-- The block b holds just these cells, and they may be written. -/
def Blk (w : World) (b : Nat) (t : TypeId) (cs : List Value) : Prop := w.heap[b]? = some (.cells cs.toArray t (0, 0))

theorem Blk.lt {w : World} {b : Nat} {t : TypeId} {cs : List Value} (h : Blk w b t cs) : b < w.heap.size := (Array.getElem?_eq_some_iff.1 h).1

theorem Blk.cell {w : World} {b : Nat} {t : TypeId} {cs : List Value} (h : Blk w b t cs) (j : Nat) : w.cell? ⟨b, j, none⟩ = cs[j]? := by
  rw [cell_of_row w b j _ t _ h]; simp

theorem Blk.fz {w : World} {b : Nat} {t : TypeId} {cs : List Value} (h : Blk w b t cs) (o : Nat) : w.frozen? ⟨b, o, none⟩ = false := by
  unfold Blk at h; simp [World.frozen?, h]

theorem Blk.kept {w a : World} {b : Nat} {t : TypeId} {cs : List Value} {r : Option Nat} (h : Blk w b t cs) (g : w.grownBy a r) (hr : some b ≠ r) : Blk a b t cs := by
  unfold Blk; rw [g.block b h.lt hr]; exact h

theorem Blk.alloc {w : World} {b : Nat} {t : TypeId} {cs : List Value} (h : Blk w b t cs) (o : Obj) : Blk (w.alloc o) b t cs := h.kept (World.grownBy_alloc w o none) (by simp)

theorem Blk.new (w : World) (t : TypeId) (cs : List Value) : Blk (w.alloc (.cells cs.toArray t)) w.heap.size t cs := heap_alloc_new w _

theorem Blk.set {w : World} {b : Nat} {t : TypeId} {cs : List Value} (h : Blk w b t cs) (j : Nat) (v : Value) : Blk (w.setCell ⟨b, j, none⟩ v) b t (cs.set j v) := by
  unfold Blk at h ⊢
  simp [World.setCell, Array.getElem?_modify, h]

theorem Blk.other {w : World} {b : Nat} {t : TypeId} {cs : List Value} (h : Blk w b t cs) (p : Addr) (v : Value) (hp : p.block ≠ b) : Blk (w.setCell p v) b t cs := by
  unfold Blk at h ⊢
  rw [heap_setCell_other w p b v (fun e => hp e.symm)]; exact h

theorem Blk.there {w : World} {b : Nat} {t : TypeId} {cs : List Value} (h : Blk w b t cs) (o n : Nat) (hn : o + n ≤ cs.length) : ∀ j, j < n → (w.cell? ⟨b, o + j, none⟩).isSome = true ∧ w.frozen? ⟨b, o + j, none⟩ = false := by
  intro j hj
  refine ⟨?_, h.fz _⟩
  rw [h.cell, List.getElem?_eq_getElem (by omega)]; rfl

theorem range_kept {w a : World} {b o : Nat} {cs : List Value} {r : Option Nat} (h : w.rangeAt b o cs) (g : w.grownBy a r) (hr : some b ≠ r) : a.rangeAt b o cs :=
  fun j v hv => g.cell (h j v hv) hr

/-- A part of an array in memory. -/
theorem slice_arr {P : Program} (t e : TypeId) (n : Nat) (ht : P.underlying t = some (.array n e)) (hz : ∀ w, (Go.sizeOf e).run P w = .ok 1 w) (b o lo hi : Nat) (zl zh : Int) (hl : zl = (lo : Int)) (hh : zh = (hi : Int)) (h1 : lo ≤ hi) (h2 : hi ≤ n) (h3 : lo < n) (W : World) :
    (Instr.sliceAt t (.pointer (some ⟨b, o, none⟩)) (some (.int .i64 zl)) (some (.int .i64 zh)) none).run P W = .ok (.slice (some ⟨b, o + lo, none⟩) (hi - lo) (n - lo)) W := by
  subst hl hh
  have ea : P.arrayLen t = n := by simp [Program.arrayLen, ht]
  have ee : P.elem t = e := by simp [Program.elem, ht]
  rw [run_sliceAt_array_lh W t ⟨b, o, none⟩ (by rw [ea, ee]; exact ht) .i64 .i64 _ _ (by omega) (by omega) (by omega), ea, ee, hz]
  simp only [Result.andThen_ok, slicedAt, Int.toNat_natCast, Nat.mul_one]
  rw [if_neg (by omega), Addr.add_mid]

theorem slice_arr_from {P : Program} (t e : TypeId) (n : Nat) (ht : P.underlying t = some (.array n e)) (hz : ∀ w, (Go.sizeOf e).run P w = .ok 1 w) (b o lo : Nat) (zl : Int) (hl : zl = (lo : Int)) (h3 : lo < n) (W : World) :
    (Instr.sliceAt t (.pointer (some ⟨b, o, none⟩)) (some (.int .i64 zl)) none none).run P W = .ok (.slice (some ⟨b, o + lo, none⟩) (n - lo) (n - lo)) W := by
  subst hl
  have ea : P.arrayLen t = n := by simp [Program.arrayLen, ht]
  have ee : P.elem t = e := by simp [Program.elem, ht]
  rw [run_sliceAt_array_l W t ⟨b, o, none⟩ (by rw [ea, ee]; exact ht) .i64 _ (by omega) (by omega), ea, ee, hz]
  simp only [Result.andThen_ok, slicedAt, Int.toNat_natCast, Nat.mul_one]
  rw [if_neg (by omega), Addr.add_mid]

theorem Blk.drew {w : World} {b : Nat} {t : TypeId} {cs : List Value} (h : Blk w b t cs) : Blk w.drew b t cs := h

theorem gb_drew {w a : World} {r : Option Nat} (h : w.grownBy a r) : w.grownBy a.drew r := ⟨h.os, h.tape, h.output, h.size, h.block⟩

theorem Blk.row {w : World} {b : Nat} {t : TypeId} {cs : List Value} (h : Blk w b t cs) (cs' : List Value) : Blk (w.setRow b cs'.toArray) b t cs' := by
  unfold Blk at h ⊢
  simp [World.setRow, Array.getElem?_modify, h]

theorem Blk.row_other {w : World} {b : Nat} {t : TypeId} {cs : List Value} (h : Blk w b t cs) (g : Nat) (cs' : Array Value) (hp : g ≠ b) : Blk (w.setRow g cs') b t cs := by
  unfold Blk at h ⊢
  simp [World.setRow, Array.getElem?_modify, h, hp]

theorem gb_row {w a : World} {r : Option Nat} (h : w.grownBy a r) (cs : Array Value) {g : Nat} (hp : w.heap.size ≤ g ∨ r = some g) : w.grownBy (a.setRow g cs) r :=
  gb_trans h (s := some g) ⟨rfl, rfl, rfl, by simp, fun k _ hne => by
    have : g ≠ k := fun e => hne (by rw [e])
    simp [World.setRow, Array.getElem?_modify, this]⟩ (fun x e => by cases e; exact hp)

theorem gb_drewN {w a : World} {r : Option Nat} (h : w.grownBy a r) (n : Nat) : w.grownBy (a.drewN n) r := ⟨h.os, h.tape, h.output, h.size, h.block⟩

theorem Blk.setCells {b : Nat} {t : TypeId} : ∀ (vs old : List Value) {w : World} {A C : List Value}, Blk w b t (A ++ (old ++ C)) → old.length = vs.length → Blk (w.setCells b A.length vs) b t (A ++ (vs ++ C))
  | [], old, w, A, C, h, hl => by
    have : old = [] := List.length_eq_zero_iff.1 (by simpa using hl)
    subst this
    exact h
  | v :: r, [], w, A, C, h, hl => by simp at hl
  | v :: r, o :: old, w, A, C, h, hl => by
    have h1 := h.set A.length v
    rw [List.set_append_right _ _ (Nat.le_refl _), Nat.sub_self, List.cons_append, List.set_cons_zero] at h1
    have h2 := Blk.setCells r old (w := w.setCell ⟨b, A.length, none⟩ v) (A := A ++ [v]) (C := C) (by simpa using h1) (by simpa using hl)
    simpa [World.setCells] using h2

theorem Blk.setCells_other {b b' : Nat} {t : TypeId} {cs : List Value} (hne : b' ≠ b) : ∀ (vs : List Value) (o : Nat) {w : World}, Blk w b t cs → Blk (w.setCells b' o vs) b t cs
  | [], _, _, h => h
  | v :: r, o, _, h => Blk.setCells_other hne r (o + 1) (h.other ⟨b', o, none⟩ v hne)

theorem gb_setCells {w : World} {r : Option Nat} {b : Nat} (hp : w.heap.size ≤ b ∨ r = some b) : ∀ (vs : List Value) (o : Nat) {a : World}, w.grownBy a r → w.grownBy (a.setCells b o vs) r
  | [], _, _, h => h
  | v :: vs, o, _, h => gb_setCells hp vs (o + 1) (gb_setCell h ⟨b, o, none⟩ v hp)

theorem setCells_snoc (b : Nat) (v : Value) : ∀ (vs : List Value) (o : Nat) (w : World), (w.setCells b o vs).setCell ⟨b, o + vs.length, none⟩ v = w.setCells b o (vs ++ [v])
  | [], _, _ => rfl
  | x :: r, o, w => by
    have := setCells_snoc b v r (o + 1) (w.setCell ⟨b, o, none⟩ x)
    simp only [List.cons_append, World.setCells, List.length_cons]
    rw [← this]
    congr 2
    omega

theorem Blk.range {w : World} {b : Nat} {t : TypeId} {A vs C : List Value} (h : Blk w b t (A ++ (vs ++ C))) : w.rangeAt b A.length vs := by
  intro j v hv
  have hj : j < vs.length := (List.getElem?_eq_some_iff.1 hv).1
  rw [h.cell, List.getElem?_append_right (by omega), Nat.add_sub_cancel_left, List.getElem?_append_left hj, hv]

theorem Blk.thereIn {w : World} {b : Nat} {t : TypeId} {A vs C : List Value} (h : Blk w b t (A ++ (vs ++ C))) : w.there b A.length vs.length :=
  fun j hj => ⟨h.range.isSome j hj, h.fz _⟩

end Go.Proofs.YtjckdgapefaokaaDoor

/- A map by sealed texts, in words of our own: what a look-up tells, and what a store leaves. No condition but those that each lemma names. -/
namespace Go.Proofs.YtjckdgapefaokaaDoor
open Go.RowKit

theorem str_inj {a b : List UInt8} : str a = str b ↔ a = b := by
  constructor
  · intro h
    have := congrArg ByteArray.toList h
    rwa [str_list, str_list] at this
  · intro h; rw [h]

theorem str_same (a b : List UInt8) : Instr.sameNow .string (.string (str a)) (.string (str b)) = some (a == b) := by
  obtain ⟨r, h1, h2⟩ := MapKept.sameNow_of_keys (d := .string) (a := .string (str a)) (b := .string (str b)) (by simp [MapKept.IsKey]) (by simp [MapKept.IsKey])
  rw [h1]
  by_cases h : a = b
  · subst h; rw [h2.2 rfl]; simp
  · have : r = false := by
      cases r with
      | false => rfl
      | true => have := h2.1 rfl; injection this with this; exact absurd (str_inj.1 this) h
    rw [this, beq_eq_false_iff_ne.2 h]

/-- The first one that was sealed so. -/
def firstOf (L : List Ent) (s : List UInt8) : Option Ent := L.find? fun x => x.s == s

/-- The block m is a map: by each sealed text that of the first entry of L that was sealed so. -/
def MapOk (f : Ent → Value) (w : World) (m : Nat) (L : List Ent) : Prop :=
  ∃ A clock K, w.heap[m]? = some (.map A clock) ∧ A.toList.map (fun e => (e.key, e.val)) = K.map (fun x => (Value.string (str x.s), f x)) ∧ ∀ s, firstOf K s = firstOf L s

theorem MapOk.lt {f : Ent → Value} {w : World} {m : Nat} {L : List Ent} (h : MapOk f w m L) : m < w.heap.size := by
  obtain ⟨_, _, _, h, _⟩ := h
  exact (Array.getElem?_eq_some_iff.1 h).1

theorem MapOk.same {f : Ent → Value} {w a : World} {m : Nat} {L : List Ent} (h : MapOk f w m L) (g : a.heap[m]? = w.heap[m]?) : MapOk f a m L := by
  obtain ⟨A, c, K, h1, h2⟩ := h
  exact ⟨A, c, K, by rw [g]; exact h1, h2⟩

theorem MapOk.kept {f : Ent → Value} {w a : World} {m : Nat} {L : List Ent} {r : Option Nat} (h : MapOk f w m L) (g : w.grownBy a r) (hr : some m ≠ r) : MapOk f a m L := h.same (g.block m h.lt hr)

theorem MapOk.new (f : Ent → Value) (w : World) : MapOk f (w.alloc (.map #[] 0)) w.heap.size [] := ⟨#[], 0, [], heap_alloc_new w _, rfl, fun _ => rfl⟩

theorem MapOk.blk {f : Ent → Value} {w : World} {m b : Nat} {L : List Ent} {t : TypeId} {cs : List Value} (h : MapOk f w m L) (hb : Blk w b t cs) : m ≠ b := by
  rintro rfl
  obtain ⟨_, _, _, h, _⟩ := h
  unfold Blk at hb
  rw [hb] at h
  cases h

theorem MapOk.typ {f : Ent → Value} {w : World} {m : Nat} {L : List Ent} (h : MapOk f w m L) : ¬ Typ w m := by
  rintro ⟨_, _, h2⟩
  obtain ⟨_, _, _, h, _⟩ := h
  rw [h2] at h
  cases h

theorem find_at (f : Ent → Value) (s : List UInt8) : ∀ (l : List MapEntry) (K : List Ent) (i : Nat), l.map (fun e => (e.key, e.val)) = K.map (fun x => (Value.string (str x.s), f x)) →
    (firstOf K s = none ∧ Instr.findNow .string (.string (str s)) l i = some none) ∨ ∃ j x e, firstOf K s = some x ∧ l[j]? = some e ∧ e.key = .string (str s) ∧ e.val = f x ∧ Instr.findNow .string (.string (str s)) l i = some (some (i + j, f x))
  | [], [], _, _ => Or.inl ⟨rfl, rfl⟩
  | [], _ :: _, _, h => by simp at h
  | _ :: _, [], _, h => by simp at h
  | e :: l, x :: K, i, h => by
    simp only [List.map_cons, List.cons.injEq, Prod.mk.injEq] at h
    obtain ⟨⟨h1, h2⟩, h3⟩ := h
    have hs : Instr.sameNow .string (.string (str s)) e.key = some (s == x.s) := by rw [h1]; exact str_same s x.s
    by_cases hx : x.s = s
    · refine Or.inr ⟨0, x, e, ?_, rfl, by rw [h1, hx], h2, ?_⟩
      · unfold firstOf; rw [List.find?_cons, hx, beq_self_eq_true]
      · unfold Instr.findNow; rw [hs, hx, beq_self_eq_true, h2]; rfl
    · have hb : (x.s == s) = false := beq_eq_false_iff_ne.2 hx
      have hb2 : (s == x.s) = false := beq_eq_false_iff_ne.2 (fun e => hx e.symm)
      have hK : firstOf (x :: K) s = firstOf K s := by unfold firstOf; rw [List.find?_cons, hb]
      have hF : Instr.findNow .string (.string (str s)) (e :: l) i = Instr.findNow .string (.string (str s)) l (i + 1) := by
        conv => lhs; unfold Instr.findNow
        rw [hs, hb2]
      rw [hK, hF]
      rcases find_at f s l K (i + 1) h3 with ⟨h4, h5⟩ | ⟨j, y, e', h4, h5, h6, h7, h8⟩
      · exact Or.inl ⟨h4, h5⟩
      · exact Or.inr ⟨j + 1, y, e', h4, by simpa using h5, h6, h7, by rw [h8, Nat.add_assoc, Nat.add_comm 1 j]⟩

/-- 'v, there := m[s]'. -/
theorem MapOk.look {P : Program} {f : Ent → Value} {w : World} {m : Nat} {L : List Ent} (h : MapOk f w m L) (t k e : TypeId) (ht : P.underlying t = some (.map k e)) (hk : P.underlying k = some .string) (z : Value) (hz : (zeroValue e).run P w = .ok z w) (s : List UInt8) :
    (Instr.lookup t (.map (some m)) (.string (str s)) true).run P w = .ok (.tuple #[((firstOf L s).map f).getD z, .bool (firstOf L s).isSome]) w := by
  obtain ⟨A, c, K, h1, h2, h3⟩ := h
  have hc : (Instr.checkKey A.isEmpty 10000 k (.string (str s))).run P w = .ok () w := MapKept.run_checkKey (k := .string (str s)) hk (by simp [MapKept.IsKey]) _ 9999
  have hg := MapKept.run_getObj_map (P := P) h1
  rcases find_at f s A.toList K 0 h2 with ⟨h4, h5⟩ | ⟨j, x, e', h4, h5, h6, h7, h8⟩
  · rw [← h3, h4]
    have hf := MapKept.run_findKey (P := P) (w := w) hk h5
    simp [Instr.lookup, run_underlying ht, hg, hc, hf, hz, Result.andThen]
  · rw [← h3, h4]
    have hf := MapKept.run_findKey (P := P) (w := w) hk h8
    simp [Instr.lookup, run_underlying ht, hg, hc, hf, Result.andThen]

theorem firstOf_snoc_other (K : List Ent) (x : Ent) (s : List UInt8) (h : x.s ≠ s) : firstOf (K ++ [x]) s = firstOf K s := by
  unfold firstOf
  rw [List.find?_append]
  have : List.find? (fun y : Ent => y.s == s) [x] = none := by simp [h]
  rw [this, Option.or_none]

theorem firstOf_snoc_some {K : List Ent} {x y : Ent} {s : List UInt8} (h : firstOf K s = some y) : firstOf (K ++ [x]) s = some y := by
  unfold firstOf at h ⊢
  rw [List.find?_append, h]; rfl

theorem firstOf_snoc_none {K : List Ent} {x : Ent} (h : firstOf K x.s = none) : firstOf (K ++ [x]) x.s = some x := by
  unfold firstOf at h ⊢
  rw [List.find?_append, h]; simp

/-- 'm[s] = v', where what was there of that text is the same. -/
theorem MapOk.store {P : Program} {f : Ent → Value} {w : World} {m : Nat} {L : List Ent} (h : MapOk f w m L) (t k e : TypeId) (ht : P.underlying t = some (.map k e)) (hk : P.underlying k = some .string) (x : Ent) (hx : ∀ y, firstOf L x.s = some y → f y = f x) :
    ∃ w', (Instr.mapUpdate t (.map (some m)) (.string (str x.s)) (f x)).run P w = .ok () w' ∧ MapOk f w' m (L ++ [x]) ∧ w.grownBy w' (some m) := by
  have hlt := h.lt
  obtain ⟨A, c, K, h1, h2, h3⟩ := h
  have hc : (Instr.checkKey false 10000 k (.string (str x.s))).run P w = .ok () w := MapKept.run_checkKey (k := .string (str x.s)) hk (by simp [MapKept.IsKey]) _ 9999
  have hg := MapKept.run_getObj_map (P := P) h1
  have hgr : ∀ o : Obj, w.grownBy { w with heap := w.heap.setIfInBounds m o } (some m) := fun o => ⟨rfl, rfl, rfl, by simp, fun i _ hi => by
    have : m ≠ i := fun e => hi (by rw [e])
    simp [this]⟩
  have hsame : ∀ o : Obj, ({ w with heap := w.heap.setIfInBounds m o } : World).heap[m]? = some o := fun o => by simp [hlt]
  rcases find_at f x.s A.toList K 0 h2 with ⟨h4, h5⟩ | ⟨j, y, e', h4, h5, h6, h7, h8⟩
  · have hf := MapKept.run_findKey (P := P) (w := w) hk h5
    refine ⟨{ w with heap := w.heap.setIfInBounds m (.map (A.push { key := .string (str x.s), val := f x, born := c }) (c + 1)) }, ?_, ⟨_, _, K ++ [x], hsame _, ?_, ?_⟩, hgr _⟩
    · simp [Instr.mapUpdate, run_underlying ht, hg, hc, hf, Result.andThen, MapKept.run_setObj_map _ h1]
    · simp [h2]
    · intro s
      by_cases hs : x.s = s
      · subst hs
        rw [firstOf_snoc_none h4, firstOf_snoc_none (by rw [← h3]; exact h4)]
      · rw [firstOf_snoc_other _ _ _ hs, firstOf_snoc_other _ _ _ hs, h3]
  · have hf := MapKept.run_findKey (P := P) (w := w) hk h8
    rw [Nat.zero_add] at hf
    have hy : f y = f x := hx y (by rw [← h3]; exact h4)
    have hst : (Instr.keyThatStays (.string (str x.s)) (.string (str x.s))).run P w = .ok (.string (str x.s)) w := MapKept.run_keyThatStays (d := .string) (by simp [MapKept.IsKey])
    have hj : A[j]? = some e' := by simpa using h5
    have hmod : (A.modify j fun e => { e with key := .string (str x.s), val := f x }) = A := by
      apply Array.ext_getElem?
      intro i
      rw [Array.getElem?_modify]
      split
      · rename_i hi
        subst hi
        rw [hj]
        simp only [Option.map_some]
        rw [← h6, ← hy, ← h7]
      · rfl
    refine ⟨{ w with heap := w.heap.setIfInBounds m (.map A c) }, ?_, ⟨_, _, K, hsame _, h2, ?_⟩, hgr _⟩
    · simp [Instr.mapUpdate, run_underlying ht, hg, hc, hf, Result.andThen, MapKept.run_setObj_map _ h1, hj, h6, hst, hmod]
    · intro s
      by_cases hs : x.s = s
      · subst hs
        rw [firstOf_snoc_some (by rw [← h3]; exact h4), h4]
      · rw [firstOf_snoc_other _ _ _ hs, h3]

theorem firstOf_known (L : List Ent) (s : List UInt8) : (firstOf L s).isSome = (L.map (·.s)).contains s := by
  induction L with
  | nil => rfl
  | cons x L ih =>
    unfold firstOf at ih ⊢
    rw [List.find?_cons, List.map_cons, List.contains_cons]
    by_cases h : x.s = s
    · subst h; simp
    · rw [beq_eq_false_iff_ne.2 h, beq_eq_false_iff_ne.2 (fun e => h e.symm), Bool.false_or, ← ih]

end Go.Proofs.YtjckdgapefaokaaDoor
