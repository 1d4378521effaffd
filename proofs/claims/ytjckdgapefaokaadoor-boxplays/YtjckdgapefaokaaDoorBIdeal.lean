/- A map by sealed texts, in words of our own: what a look-up tells, and what a store leaves. No condition but those that each lemma names. -/
import Derived.Test.YtjckdgapefaokaaDoorBOne
import Derived.Test.YtjckdgapefaokaaDoorMStr
import Derived.Test.YtjckdgapefaokaaDoorKEqual
import Derived.MapKept
import Derived.Carry
import Derived.Test.YtjckdgapefaokaaDoorDKeep
import Derived.Test.YtjckdgapefaokaaDoorCKn
namespace Go.Proofs.YtjckdgapefaokaaDoor
open Go.RowKit

theorem str_inj {a b : List UInt8} : str a = str b ↔ a = b := by
  constructor
  · intro h
    have := congrArg ByteArray.toList h
    rwa [str_list, str_list] at this
  · intro h; rw [h]

theorem str_same (a b : List UInt8) : Instr.sameNow .string (.string (str a)) (.string (str b)) = some (a == b) := by
  obtain ⟨r, h1, h2⟩ := MapKept.sameNow_of_keys (d := .string) (a := .string (str a)) (b := .string (str b)) (by simp [MapKept.IsKey]) (by simp [MapKept.IsKey])
  rw [h1]
  by_cases h : a = b
  · subst h; rw [h2.2 rfl]; simp
  · have : r = false := by
      cases r with
      | false => rfl
      | true => have := h2.1 rfl; injection this with this; exact absurd (str_inj.1 this) h
    rw [this, beq_eq_false_iff_ne.2 h]

/-- The first one that was sealed so. -/
def firstOf (L : List Ent) (s : List UInt8) : Option Ent := L.find? fun x => x.s == s

/-- The block m is a map: by each sealed text that of the first entry of L that was sealed so. -/
def MapOk (f : Ent → Value) (w : World) (m : Nat) (L : List Ent) : Prop :=
  ∃ A clock K, w.heap[m]? = some (.map A clock) ∧ A.toList.map (fun e => (e.key, e.val)) = K.map (fun x => (Value.string (str x.s), f x)) ∧ ∀ s, firstOf K s = firstOf L s

theorem MapOk.lt {f : Ent → Value} {w : World} {m : Nat} {L : List Ent} (h : MapOk f w m L) : m < w.heap.size := by
  obtain ⟨_, _, _, h, _⟩ := h
  exact (Array.getElem?_eq_some_iff.1 h).1

theorem MapOk.same {f : Ent → Value} {w a : World} {m : Nat} {L : List Ent} (h : MapOk f w m L) (g : a.heap[m]? = w.heap[m]?) : MapOk f a m L := by
  obtain ⟨A, c, K, h1, h2⟩ := h
  exact ⟨A, c, K, by rw [g]; exact h1, h2⟩

theorem MapOk.kept {f : Ent → Value} {w a : World} {m : Nat} {L : List Ent} {r : Option Nat} (h : MapOk f w m L) (g : w.grownBy a r) (hr : some m ≠ r) : MapOk f a m L := h.same (g.block m h.lt hr)

theorem MapOk.new (f : Ent → Value) (w : World) : MapOk f (w.alloc (.map #[] 0)) w.heap.size [] := ⟨#[], 0, [], heap_alloc_new w _, rfl, fun _ => rfl⟩

theorem MapOk.blk {f : Ent → Value} {w : World} {m b : Nat} {L : List Ent} {t : TypeId} {cs : List Value} (h : MapOk f w m L) (hb : Blk w b t cs) : m ≠ b := by
  rintro rfl
  obtain ⟨_, _, _, h, _⟩ := h
  unfold Blk at hb
  rw [hb] at h
  cases h

theorem MapOk.typ {f : Ent → Value} {w : World} {m : Nat} {L : List Ent} (h : MapOk f w m L) : ¬ Typ w m := by
  rintro ⟨_, _, h2⟩
  obtain ⟨_, _, _, h, _⟩ := h
  rw [h2] at h
  cases h

theorem find_at (f : Ent → Value) (s : List UInt8) : ∀ (l : List MapEntry) (K : List Ent) (i : Nat), l.map (fun e => (e.key, e.val)) = K.map (fun x => (Value.string (str x.s), f x)) →
    (firstOf K s = none ∧ Instr.findNow .string (.string (str s)) l i = some none) ∨ ∃ j x e, firstOf K s = some x ∧ l[j]? = some e ∧ e.key = .string (str s) ∧ e.val = f x ∧ Instr.findNow .string (.string (str s)) l i = some (some (i + j, f x))
  | [], [], _, _ => Or.inl ⟨rfl, rfl⟩
  | [], _ :: _, _, h => by simp at h
  | _ :: _, [], _, h => by simp at h
  | e :: l, x :: K, i, h => by
    simp only [List.map_cons, List.cons.injEq, Prod.mk.injEq] at h
    obtain ⟨⟨h1, h2⟩, h3⟩ := h
    have hs : Instr.sameNow .string (.string (str s)) e.key = some (s == x.s) := by rw [h1]; exact str_same s x.s
    by_cases hx : x.s = s
    · refine Or.inr ⟨0, x, e, ?_, rfl, by rw [h1, hx], h2, ?_⟩
      · unfold firstOf; rw [List.find?_cons, hx, beq_self_eq_true]
      · unfold Instr.findNow; rw [hs, hx, beq_self_eq_true, h2]; rfl
    · have hb : (x.s == s) = false := beq_eq_false_iff_ne.2 hx
      have hb2 : (s == x.s) = false := beq_eq_false_iff_ne.2 (fun e => hx e.symm)
      have hK : firstOf (x :: K) s = firstOf K s := by unfold firstOf; rw [List.find?_cons, hb]
      have hF : Instr.findNow .string (.string (str s)) (e :: l) i = Instr.findNow .string (.string (str s)) l (i + 1) := by
        conv => lhs; unfold Instr.findNow
        rw [hs, hb2]
      rw [hK, hF]
      rcases find_at f s l K (i + 1) h3 with ⟨h4, h5⟩ | ⟨j, y, e', h4, h5, h6, h7, h8⟩
      · exact Or.inl ⟨h4, h5⟩
      · exact Or.inr ⟨j + 1, y, e', h4, by simpa using h5, h6, h7, by rw [h8, Nat.add_assoc, Nat.add_comm 1 j]⟩

/-- 'v, there := m[s]'. -/
theorem MapOk.look {P : Program} {f : Ent → Value} {w : World} {m : Nat} {L : List Ent} (h : MapOk f w m L) (t k e : TypeId) (ht : P.underlying t = some (.map k e)) (hk : P.underlying k = some .string) (z : Value) (hz : (zeroValue e).run P w = .ok z w) (s : List UInt8) :
    (Instr.lookup t (.map (some m)) (.string (str s)) true).run P w = .ok (.tuple #[((firstOf L s).map f).getD z, .bool (firstOf L s).isSome]) w := by
  obtain ⟨A, c, K, h1, h2, h3⟩ := h
  have hc : (Instr.checkKey A.isEmpty 10000 k (.string (str s))).run P w = .ok () w := MapKept.run_checkKey (k := .string (str s)) hk (by simp [MapKept.IsKey]) _ 9999
  have hg := MapKept.run_getObj_map (P := P) h1
  rcases find_at f s A.toList K 0 h2 with ⟨h4, h5⟩ | ⟨j, x, e', h4, h5, h6, h7, h8⟩
  · rw [← h3, h4]
    have hf := MapKept.run_findKey (P := P) (w := w) hk h5
    simp [Instr.lookup, run_underlying ht, hg, hc, hf, hz, Result.andThen]
  · rw [← h3, h4]
    have hf := MapKept.run_findKey (P := P) (w := w) hk h8
    simp [Instr.lookup, run_underlying ht, hg, hc, hf, Result.andThen]

theorem firstOf_snoc_other (K : List Ent) (x : Ent) (s : List UInt8) (h : x.s ≠ s) : firstOf (K ++ [x]) s = firstOf K s := by
  unfold firstOf
  rw [List.find?_append]
  have : List.find? (fun y : Ent => y.s == s) [x] = none := by simp [h]
  rw [this, Option.or_none]

theorem firstOf_snoc_some {K : List Ent} {x y : Ent} {s : List UInt8} (h : firstOf K s = some y) : firstOf (K ++ [x]) s = some y := by
  unfold firstOf at h ⊢
  rw [List.find?_append, h]; rfl

theorem firstOf_snoc_none {K : List Ent} {x : Ent} (h : firstOf K x.s = none) : firstOf (K ++ [x]) x.s = some x := by
  unfold firstOf at h ⊢
  rw [List.find?_append, h]; simp

/-- 'm[s] = v', where what was there of that text is the same. -/
theorem MapOk.store {P : Program} {f : Ent → Value} {w : World} {m : Nat} {L : List Ent} (h : MapOk f w m L) (t k e : TypeId) (ht : P.underlying t = some (.map k e)) (hk : P.underlying k = some .string) (x : Ent) (hx : ∀ y, firstOf L x.s = some y → f y = f x) :
    ∃ w', (Instr.mapUpdate t (.map (some m)) (.string (str x.s)) (f x)).run P w = .ok () w' ∧ MapOk f w' m (L ++ [x]) ∧ w.grownBy w' (some m) := by
  have hlt := h.lt
  obtain ⟨A, c, K, h1, h2, h3⟩ := h
  have hc : (Instr.checkKey false 10000 k (.string (str x.s))).run P w = .ok () w := MapKept.run_checkKey (k := .string (str x.s)) hk (by simp [MapKept.IsKey]) _ 9999
  have hg := MapKept.run_getObj_map (P := P) h1
  have hgr : ∀ o : Obj, w.grownBy { w with heap := w.heap.setIfInBounds m o } (some m) := fun o => ⟨rfl, rfl, rfl, by simp, fun i _ hi => by
    have : m ≠ i := fun e => hi (by rw [e])
    simp [this]⟩
  have hsame : ∀ o : Obj, ({ w with heap := w.heap.setIfInBounds m o } : World).heap[m]? = some o := fun o => by simp [hlt]
  rcases find_at f x.s A.toList K 0 h2 with ⟨h4, h5⟩ | ⟨j, y, e', h4, h5, h6, h7, h8⟩
  · have hf := MapKept.run_findKey (P := P) (w := w) hk h5
    refine ⟨{ w with heap := w.heap.setIfInBounds m (.map (A.push { key := .string (str x.s), val := f x, born := c }) (c + 1)) }, ?_, ⟨_, _, K ++ [x], hsame _, ?_, ?_⟩, hgr _⟩
    · simp [Instr.mapUpdate, run_underlying ht, hg, hc, hf, Result.andThen, MapKept.run_setObj_map _ h1]
    · simp [h2]
    · intro s
      by_cases hs : x.s = s
      · subst hs
        rw [firstOf_snoc_none h4, firstOf_snoc_none (by rw [← h3]; exact h4)]
      · rw [firstOf_snoc_other _ _ _ hs, firstOf_snoc_other _ _ _ hs, h3]
  · have hf := MapKept.run_findKey (P := P) (w := w) hk h8
    rw [Nat.zero_add] at hf
    have hy : f y = f x := hx y (by rw [← h3]; exact h4)
    have hst : (Instr.keyThatStays (.string (str x.s)) (.string (str x.s))).run P w = .ok (.string (str x.s)) w := MapKept.run_keyThatStays (d := .string) (by simp [MapKept.IsKey])
    have hj : A[j]? = some e' := by simpa using h5
    have hmod : (A.modify j fun e => { e with key := .string (str x.s), val := f x }) = A := by
      apply Array.ext_getElem?
      intro i
      rw [Array.getElem?_modify]
      split
      · rename_i hi
        subst hi
        rw [hj]
        simp only [Option.map_some]
        rw [← h6, ← hy, ← h7]
      · rfl
    refine ⟨{ w with heap := w.heap.setIfInBounds m (.map A c) }, ?_, ⟨_, _, K, hsame _, h2, ?_⟩, hgr _⟩
    · simp [Instr.mapUpdate, run_underlying ht, hg, hc, hf, Result.andThen, MapKept.run_setObj_map _ h1, hj, h6, hst, hmod]
    · intro s
      by_cases hs : x.s = s
      · subst hs
        rw [firstOf_snoc_some (by rw [← h3]; exact h4), h4]
      · rw [firstOf_snoc_other _ _ _ hs, h3]

theorem firstOf_known (L : List Ent) (s : List UInt8) : (firstOf L s).isSome = (L.map (·.s)).contains s := by
  induction L with
  | nil => rfl
  | cons x L ih =>
    unfold firstOf at ih ⊢
    rw [List.find?_cons, List.map_cons, List.contains_cons]
    by_cases h : x.s = s
    · subst h; simp
    · rw [beq_eq_false_iff_ne.2 h, beq_eq_false_iff_ne.2 (fun e => h e.symm), Bool.false_or, ← ih]

end Go.Proofs.YtjckdgapefaokaaDoor

/- A box in memory, in words of our own; what a call may have changed of three blocks; and what outlasts that. No condition but those that each lemma names. -/
namespace Go.Proofs.YtjckdgapefaokaaDoor
open Go.RowKit

/-- Only new memory, and the blocks b, s and m. -/
structure By3 (w a : World) (b s m : Nat) : Prop where
  os : a.os = w.os
  tape : a.tape = w.tape
  output : a.output = w.output
  size : w.heap.size ≤ a.heap.size
  block : ∀ k, k < w.heap.size → k ≠ b → k ≠ s → k ≠ m → a.heap[k]? = w.heap[k]?

theorem By3.refl (w : World) (b s m : Nat) : By3 w w b s m := ⟨rfl, rfl, rfl, Nat.le_refl _, fun _ _ _ _ _ => rfl⟩

theorem By3.by {w a c : World} {b s m : Nat} {r : Option Nat} (h : By3 w a b s m) (g : a.grownBy c r) (hr : ∀ x, r = some x → w.heap.size ≤ x ∨ x = b ∨ x = s ∨ x = m) : By3 w c b s m :=
  ⟨g.os.trans h.os, g.tape.trans h.tape, g.output.trans h.output, Nat.le_trans h.size g.size, fun k hk h1 h2 h3 => by
    rw [g.block k (Nat.lt_of_lt_of_le hk h.size) (fun e => by rcases hr k e.symm with h4 | h4 | h4 | h4 <;> omega), h.block k hk h1 h2 h3]⟩

theorem By3.none {w a c : World} {b s m : Nat} (h : By3 w a b s m) (g : a.grownBy c Option.none) : By3 w c b s m := h.by g (fun _ e => by cases e)

theorem By3.trans {w a c : World} {b s m : Nat} (h : By3 w a b s m) (g : By3 a c b s m) : By3 w c b s m :=
  ⟨g.os.trans h.os, g.tape.trans h.tape, g.output.trans h.output, Nat.le_trans h.size g.size, fun k hk h1 h2 h3 => by
    rw [g.block k (Nat.lt_of_lt_of_le hk h.size) h1 h2 h3, h.block k hk h1 h2 h3]⟩

theorem by3_gb {u w a : World} {b s m : Nat} (g : u.grownBy w none) (h : By3 w a b s m) (hb : u.heap.size ≤ b) (hs : u.heap.size ≤ s) (hm : u.heap.size ≤ m) : u.grownBy a none :=
  ⟨h.os.trans g.os, h.tape.trans g.tape, h.output.trans g.output, Nat.le_trans g.size h.size, fun k hk _ => by
    rw [h.block k (Nat.lt_of_lt_of_le hk g.size) (by omega) (by omega) (by omega), g.block k hk (by simp)]⟩

/-- A key of 32 bytes; of none: zeros. -/
def padK (k : List UInt8) : List UInt8 := k ++ List.replicate (32 - k.length) 0
theorem padK_length {k : List UInt8} (h : k.length ≤ 32) : (padK k).length = 32 := by simp [padK]; omega
theorem padK_full {k : List UInt8} (h : k.length = 32) : padK k = k := by simp [padK, h]
theorem padK_nil : padK [] = List.replicate 32 0 := rfl

/-- The cells of what a sealed text is opened to: its key, what was beside it, the text. -/
def contC (x : Ent) : List Value := (padK x.k).map bv ++ [.string (str x.be), .string (str x.tx)]
def contV (x : Ent) : Value := .agg (contC x).toArray

theorem contC_length (x : Ent) (h : x.k.length ≤ 32) : (contC x).length = 34 := by simp [contC, padK_length h]
theorem contC_one (x : Ent) : ∀ v ∈ contC x, v.oneCell' = true := by
  intro v hv
  rcases List.mem_append.1 hv with h | h
  · exact bv_one _ v h
  · simp at h
    rcases h with rfl | rfl <;> rfl

/-- The cells of a box. -/
def boxC (B : BoxS) (bs bm : Nat) : List Value := [.int .i64 (B.mode : Int), .pointer (some ⟨bs, 0, none⟩), .map (some bm), .int .i64 (B.L.length : Int)]

/-- The block bb is a box, with its source and its map; all of them new since u. -/
structure BoxAt (u w : World) (bb bs bm : Nat) (B : BoxS) : Prop where
  nb : u.heap.size ≤ bb
  ns : u.heap.size ≤ bs
  nm : u.heap.size ≤ bm
  blk : Blk w bb 58 (boxC B bs bm)
  src : SrcAt w bs B.T B.u
  map : MapOk contV w bm B.L

/-- What a box keeps to. -/
structure BoxS.Ok (B : BoxS) : Prop where
  mode : B.mode = 0 ∨ B.mode = 1
  real : B.mode = 0 → ∀ x ∈ B.L, x.k = [] ∧ x.be = [] ∧ x.tx = []
  apart : B.mode = 1 → B.ss.Nodup
  keys : B.mode = 1 → ∀ x ∈ B.L, x.k.length = 32

theorem BoxAt.cell {u w : World} {bb bs bm : Nat} {B : BoxS} (h : BoxAt u w bb bs bm B) : w.cell? ⟨bb, 0, none⟩ = some (.int .i64 (B.mode : Int)) ∧ w.cell? ⟨bb, 1, none⟩ = some (.pointer (some ⟨bs, 0, none⟩)) ∧ w.cell? ⟨bb, 2, none⟩ = some (.map (some bm)) ∧ w.cell? ⟨bb, 3, none⟩ = some (.int .i64 (B.L.length : Int)) :=
  ⟨by rw [h.blk.cell]; rfl, by rw [h.blk.cell]; rfl, by rw [h.blk.cell]; rfl, by rw [h.blk.cell]; rfl⟩

theorem blk_ne {w : World} {b c : Nat} {t t' : TypeId} {x y : List Value} (h : Blk w b t x) (k : Blk w c t' y) (ht : t ≠ t') : b ≠ c := by
  rintro rfl
  unfold Blk at h k
  rw [h] at k
  injection k with k
  injection k with _ k
  exact ht k

theorem BoxAt.bs_ne {u w : World} {bb bs bm : Nat} {B : BoxS} (h : BoxAt u w bb bs bm B) : bb ≠ bs := blk_ne h.blk h.src.blk (by decide)

theorem Blk.by3 {w a : World} {p b s m : Nat} {t : TypeId} {cs : List Value} (h : Blk w p t cs) (g : By3 w a b s m) (h1 : p ≠ b) (h2 : p ≠ s) (h3 : p ≠ m) : Blk a p t cs := by
  unfold Blk; rw [g.block p h.lt h1 h2 h3]; exact h

/-- Another box stays as it is. -/
theorem BoxAt.other {u v w a : World} {cb cs cm bb bs bm : Nat} {C B : BoxS} (h : BoxAt u w cb cs cm C) (hB : BoxAt v w bb bs bm B) (g : By3 w a bb bs bm) (h1 : cb ≠ bb) (h2 : cs ≠ bs) (h3 : cm ≠ bm) : BoxAt u a cb cs cm C :=
  ⟨h.nb, h.ns, h.nm, h.blk.by3 g h1 (blk_ne h.blk hB.src.blk (by decide)) (fun e => hB.map.blk h.blk e.symm), ⟨h.src.blk.by3 g (blk_ne h.src.blk hB.blk (by decide)) h2 (fun e => hB.map.blk h.src.blk e.symm), h.src.glb⟩,
    h.map.same (g.block cm h.map.lt (h.map.blk hB.blk) (h.map.blk hB.src.blk) h3)⟩

theorem BoxAt.none {u w a : World} {bb bs bm : Nat} {B : BoxS} (h : BoxAt u w bb bs bm B) (g : w.grownBy a Option.none) : BoxAt u a bb bs bm B :=
  ⟨h.nb, h.ns, h.nm, h.blk.kept g (by simp), h.src.kept g (by simp), h.map.kept g (by simp)⟩

/-- .. and so where a row of bytes of the law's own was written. -/
theorem BoxAt.own {u w a : World} {bb bs bm base n : Nat} {B : BoxS} {v : Value} {xs : List Value} (h : BoxAt u w bb bs bm B) (hown : w.ownsRow base 5 1 v n xs) (g : w.grownBy a v.ownBlock) : BoxAt u a bb bs bm B :=
  ⟨h.nb, h.ns, h.nm, h.blk.kept g (own_apart hown h.blk (by decide)), h.src.own hown g, h.map.kept g (by
    rcases hown.2 with ⟨rfl, _⟩ | ⟨p, cap, cur, rfl, _, hh, _⟩
    · intro e; cases e
    · intro e
      have e2 : bm = p := by simpa [Value.ownBlock] using e
      subst e2
      exact h.map.typ ⟨cur, _, hh⟩)⟩

/-- Bytes outlast what a box does. -/
theorem BtT.box {u w a : World} {ao : Option Addr} {c bb bs bm : Nat} {l : List UInt8} {B : BoxS} (h : BtT w ao c l) (hB : BoxAt u w bb bs bm B) (g : By3 w a bb bs bm) : BtT a ao c l := by
  have hne : ∀ ad, ao = some ad → ad.block < w.heap.size ∧ ad.block ≠ bb ∧ ad.block ≠ bs ∧ ad.block ≠ bm := fun ad e =>
    ⟨(h.typ ad e).lt, fun e2 => hB.blk.typ (by decide) (by rw [← e2]; exact h.typ ad e), fun e2 => hB.src.blk.typ (by decide) (by rw [← e2]; exact h.typ ad e), fun e2 => hB.map.typ (by rw [← e2]; exact h.typ ad e)⟩
  have hblk : ∀ ad, ao = some ad → a.heap[ad.block]? = w.heap[ad.block]? := fun ad e => by
    obtain ⟨h1, h2, h3, h4⟩ := hne ad e
    exact g.block _ h1 h2 h3 h4
  refine ⟨⟨h.bts.zip, h.bts.fits, h.bts.most, h.bts.shape, fun ad e i hi => ?_⟩, fun ad e => ?_⟩
  · have := h.bts.cell ad e i hi
    rw [World.cell?_of_block (w := w) (w' := a) (a := ⟨ad.block, ad.off + i, Option.none⟩) (hblk ad e)]
    exact this
  · obtain ⟨cur, m, hh⟩ := h.typ ad e
    exact ⟨cur, m, by rw [hblk ad e]; exact hh⟩

/-- Bytes that were there before the box was made. -/
theorem Bts.old {u w : World} {ao : Option Addr} {c : Nat} {l : List UInt8} (h : Bts u ao c l) (g : u.grownBy w Option.none) : Bts w ao c l := h.kept g (fun _ e => by cases e)

theorem own_by3 {u w a : World} {bb bs bm base n : Nat} {B : BoxS} {v : Value} {xs : List Value} (hown : w.ownsRow base 5 1 v n xs) (hB : BoxAt u w bb bs bm B) (g : By3 w a bb bs bm) : a.ownsRow base 5 1 v n xs := by
  refine ⟨hown.1, ?_⟩
  rcases hown.2 with ⟨h1, h2⟩ | ⟨p, cap, cur, hv, hg, hh, hr⟩
  · exact Or.inl ⟨h1, h2⟩
  · have ht : Typ w p := ⟨cur, _, hh⟩
    exact Or.inr ⟨p, cap, cur, hv, hg, by
      rw [g.block p ht.lt (fun e => hB.blk.typ (by decide) (by rw [← e]; exact ht)) (fun e => hB.src.blk.typ (by decide) (by rw [← e]; exact ht)) (fun e => hB.map.typ (by rw [← e]; exact ht))]; exact hh, hr⟩

theorem known_first (B : BoxS) (s : List UInt8) : B.known s = (firstOf B.L s).isSome := by rw [firstOf_known]; rfl

theorem BoxS.Ok.seal {B : BoxS} (h : B.Ok) (k be tx : List UInt8) (hk : k.length = 32) : (B.seal k be tx).1.Ok := by
  rcases h.mode with hm | hm
  · unfold BoxS.seal
    rw [if_pos hm]
    refine ⟨Or.inl hm, fun _ x hx => ?_, fun e => absurd (hm.symm.trans e) (by omega), fun e => absurd (hm.symm.trans e) (by omega)⟩
    rcases List.mem_append.1 hx with hx | hx
    · exact h.real hm x hx
    · rw [List.mem_singleton.1 hx]; exact ⟨rfl, rfl, rfl⟩
  · unfold BoxS.seal
    rw [if_neg (by omega)]
    have hkeys : ∀ (n : Nat) (b : BoxS), (∀ x ∈ b.L, x.k.length = 32) → ∀ x ∈ (b.tries k be tx n).1.L, x.k.length = 32 := by
      intro n
      induction n with
      | zero => exact fun b hb => hb
      | succ n ih =>
        intro b hb
        unfold BoxS.tries
        split
        · exact ih _ hb
        · intro x hx
          rcases List.mem_append.1 hx with hx | hx
          · exact hb x hx
          · rw [List.mem_singleton.1 hx]; exact hk
    have h1 := BoxS.tries_kept k be tx 8 B
    exact ⟨Or.inr (h1.1.trans hm), fun e => absurd (h1.1.symm.trans e) (by omega), fun _ => BoxS.tries_nodup k be tx 8 B (h.apart hm), fun _ => hkeys 8 B (h.keys hm)⟩

end Go.Proofs.YtjckdgapefaokaaDoor

/- What New, Count and Mode of box answer; and what a box that nobody made answers. No condition but those that each lemma names. -/
namespace Go.Proofs.YtjckdgapefaokaaDoor
open Go.RowKit

/-- The cells of a plain box, that nobody made. -/
def box0 : List Value := [.int .i64 0, .pointer none, .map none, .int .i64 0]

set_option maxRecDepth 100000 in
theorem made_at (w : World) (bb : Nat) (p : Addr) (h1 : w.cell? ⟨bb, 1, none⟩ = some (.pointer (some p))) :
    Calls Tryd.prog 27 #[.pointer (some ⟨bb, 0, none⟩)] w fun e w' => e = .returned (.bool true) ∧ w' = w := by
  go_enter Tryd.func27, Tryd.ntmps27
  go_wp2
  go_ret
  exact ⟨rfl, rfl⟩

set_option maxRecDepth 100000 in
theorem made_nil (w : World) :
    Calls Tryd.prog 27 #[.pointer none] w fun e w' => e = .returned (.bool false) ∧ w' = w := by
  go_enter Tryd.func27, Tryd.ntmps27
  go_wp2
  go_ret
  exact ⟨rfl, rfl⟩

set_option maxRecDepth 100000 in
theorem made_plain (w : World) (bb : Nat) (h1 : w.cell? ⟨bb, 1, none⟩ = some (.pointer none)) :
    Calls Tryd.prog 27 #[.pointer (some ⟨bb, 0, none⟩)] w fun e w' => e = .returned (.bool false) ∧ w' = w := by
  go_enter Tryd.func27, Tryd.ntmps27
  go_wp2
  go_ret
  exact ⟨rfl, rfl⟩

/-- Where nothing was made: nil, or a plain one. -/
def NoBox (w : World) (po : Option Addr) : Prop := ∀ V, w.grownBy V none → Calls Tryd.prog 27 #[.pointer po] V fun e w' => e = .returned (.bool false) ∧ w' = V

theorem noBox_nil (w : World) : NoBox w none := fun V _ => made_nil V
theorem noBox_plain {w : World} {bb : Nat} (h : Blk w bb 58 box0) : NoBox w (some ⟨bb, 0, none⟩) := fun V g => made_plain V bb (by rw [(h.kept g (by simp)).cell]; rfl)
theorem NoBox.none {w a : World} {po : Option Addr} (h : NoBox w po) (g : w.grownBy a Option.none) : NoBox a po := fun V gV => h V (tn g gV)

set_option maxRecDepth 100000 in
theorem seal_no (w : World) (po : Option Addr) (h : NoBox w po) (K : Array Value) (x y : Value) :
    Calls Tryd.prog 12 #[.pointer po, .agg K, x, y] w fun e w' => e = .returned (.tuple #[.slice none 0 0, .int .i64 1]) ∧ w.grownBy w' none := by
  have c1 := h (w.alloc (.cells K 37)) (gb_alloc (gb_refl _ _) _)
  have hg : w.grownBy (w.alloc (.cells K 37)) none := gb_alloc (gb_refl _ _) _
  clear h
  go_enter Tryd.func12, Tryd.ntmps12
  go_wp2_with (go_at_call 27; refine c1.mono ?_; rintro e w2 ⟨rfl, rfl⟩)
  go_ret2
  exact ⟨rfl, hg⟩

set_option maxRecDepth 100000 in
theorem open_no (w : World) (po : Option Addr) (h : NoBox w po) (K : Array Value) (x y : Value) :
    Calls Tryd.prog 14 #[.pointer po, .agg K, x, y] w fun e w' => e = .returned (.tuple #[.slice none 0 0, .bool false]) ∧ w.grownBy w' none := by
  have c1 := h (w.alloc (.cells K 37)) (gb_alloc (gb_refl _ _) _)
  have hg : w.grownBy (w.alloc (.cells K 37)) none := gb_alloc (gb_refl _ _) _
  clear h
  go_enter Tryd.func14, Tryd.ntmps14
  go_wp2_with (go_at_call 27; refine c1.mono ?_; rintro e w2 ⟨rfl, rfl⟩)
  go_ret2
  exact ⟨rfl, hg⟩

set_option maxRecDepth 100000 in
theorem draw_no (w : World) (po : Option Addr) (h : NoBox w po) (n : Int) :
    Calls Tryd.prog 20 #[.pointer po, .int .i64 n] w fun e w' => e = .returned (.slice none 0 0) ∧ w' = w := by
  have c1 := h w (gb_refl _ _)
  clear h
  go_enter Tryd.func20, Tryd.ntmps20
  go_wp2_with (go_at_call 27; refine c1.mono ?_; rintro e w2 ⟨rfl, rfl⟩)
  go_ret
  exact ⟨rfl, rfl⟩

set_option maxRecDepth 100000 in
theorem bknown_no (w : World) (po : Option Addr) (h : NoBox w po) (x : Value) :
    Calls Tryd.prog 16 #[.pointer po, x] w fun e w' => e = .returned (.bool false) ∧ w' = w := by
  have c1 := h w (gb_refl _ _)
  clear h
  go_enter Tryd.func16, Tryd.ntmps16
  go_wp2_with (go_at_call 27; refine c1.mono ?_; rintro e w2 ⟨rfl, rfl⟩)
  go_ret
  exact ⟨rfl, rfl⟩

set_option maxRecDepth 100000 in
theorem count_no (w : World) (po : Option Addr) (h : NoBox w po) :
    Calls Tryd.prog 18 #[.pointer po] w fun e w' => e = .returned (.int .i64 0) ∧ w' = w := by
  have c1 := h w (gb_refl _ _)
  clear h
  go_enter Tryd.func18, Tryd.ntmps18
  go_wp2_with (go_at_call 27; refine c1.mono ?_; rintro e w2 ⟨rfl, rfl⟩)
  go_ret
  exact ⟨rfl, rfl⟩

set_option maxRecDepth 100000 in
theorem mode_no (w : World) (po : Option Addr) (h : NoBox w po) :
    Calls Tryd.prog 19 #[.pointer po] w fun e w' => e = .returned (.int .i64 0) ∧ w' = w := by
  have c1 := h w (gb_refl _ _)
  clear h
  go_enter Tryd.func19, Tryd.ntmps19
  go_wp2_with (go_at_call 27; refine c1.mono ?_; rintro e w2 ⟨rfl, rfl⟩)
  go_ret
  exact ⟨rfl, rfl⟩

set_option maxRecDepth 100000 in
theorem bkey_no (w : World) (po : Option Addr) (h : NoBox w po) :
    Calls Tryd.prog 21 #[.pointer po] w fun e w' => e = .returned (.agg ((List.replicate 32 (0 : UInt8)).map bv).toArray) ∧ w.grownBy w' none := by
  have hzv := zero_key
  have hbk := built_key0
  obtain ⟨z, hz⟩ : ∃ z : List UInt8, z = List.replicate 32 0 := ⟨_, rfl⟩
  rw [← hz] at hzv hbk ⊢
  have hsz : ((z.map bv).toArray).size = 32 := by rw [hz]; rfl
  have c1 := h (w.alloc (.cells (z.map bv).toArray 37)) (gb_alloc (gb_refl _ _) _)
  have hB : Blk (w.alloc (.cells (z.map bv).toArray 37)) w.heap.size 37 (z.map bv) := Blk.new _ _ _
  have hg : w.grownBy (w.alloc (.cells (z.map bv).toArray 37)) none := gb_alloc (gb_refl _ _) _
  have HSZ := hide hsz
  have HBK := hide hbk
  clear hsz hz hbk h
  go_enter Tryd.func21, Tryd.ntmps21
  go_wp2_with (first
    | (go_at_call 27; refine c1.mono ?_; rintro e w2 ⟨rfl, rfl⟩; clear c1)
    | (refine wpList_built rfl 37 _ rfl (z.map bv).toArray ?hbk ?_)
    | (refine wpList_store_row rfl 37 _ _ rfl w.heap.size _ rfl rfl _ _ hB ?_ ?_ ?_ ?_; (rw [unhide HSZ]; exact info_key); rfl; (exact all_oneCell_toArray (bv_one _))))
  case hbk => exact unhide HBK
  have hS := hB.row (z.map bv)
  refine bodyPost_ret (v := .agg (z.map bv).toArray) (results_cell_row (g := w.heap.size) rfl _ _ _ _ _ _ ?_ hS Tryd.underlying37 rfl ?_) rfl ⟨rfl, gb_row hg _ (Or.inl (Nat.le_refl _))⟩
  · rfl
  · rw [unhide HSZ]; exact info_key

set_option maxRecDepth 100000 in
theorem new_arg (w : World) (m : Int) (p : Option Addr) (h0 : m ≠ 0) (h1 : m ≠ 1) :
    Calls Tryd.prog 8 #[.int .i64 m, .pointer p] w fun e w' => e = .returned (.tuple #[.pointer none, .int .i64 2]) ∧ w' = w := by
  have e0 : (m != 0) = true := by simpa using h0
  have e1 : (m != 1) = true := by simpa using h1
  go_enter Tryd.func8, Tryd.ntmps8
  go_wp2
  go_ret2
  exact ⟨rfl, rfl⟩

set_option maxRecDepth 100000 in
theorem new_nil (w : World) :
    Calls Tryd.prog 8 #[.int .i64 0, .pointer none] w fun e w' => e = .returned (.tuple #[.pointer none, .int .i64 1]) ∧ w' = w := by
  go_enter Tryd.func8, Tryd.ntmps8
  go_wp2
  go_ret2
  exact ⟨rfl, rfl⟩

theorem built_box (m : Nat) (bs bm : Nat) : Tryd.prog.built 58 [(0, .int .i64 (m : Int)), (1, .pointer (some ⟨bs, 0, none⟩)), (2, .map (some bm))] = some #[.int .i64 (m : Int), .pointer (some ⟨bs, 0, none⟩), .map (some bm), .int .i64 0] := by kernel_rfl

set_option maxRecDepth 100000 in
theorem new_any (u w : World) (m : Nat) (bs : Nat) (T : List UInt8) (us : Nat) (hm : m = 0 ∨ m = 1) (hu : u.grownBy w none) (hns : u.heap.size ≤ bs) (hS : SrcAt w bs T us) :
    Calls Tryd.prog 8 #[.int .i64 (m : Int), .pointer (some ⟨bs, 0, none⟩)] w fun e w' => ∃ bb bm, e = .returned (.tuple #[.pointer (some ⟨bb, 0, none⟩), .int .i64 0]) ∧ w.heap.size ≤ bb ∧ w.heap.size ≤ bm ∧ BoxAt u w' bb bs bm ⟨m, T, us, []⟩ ∧ w.grownBy w' none := by
  obtain ⟨W1, hW1⟩ : ∃ W1, W1 = w.alloc (.map #[] 0) := ⟨_, rfl⟩
  have g1 : w.grownBy W1 none := by rw [hW1]; exact gb_alloc (gb_refl _ _) _
  have hs1 : W1.heap.size = w.heap.size + 1 := by rw [hW1, World.size_alloc]
  have hM1 : MapOk contV W1 w.heap.size [] := by rw [hW1]; exact MapOk.new _ _
  have hbb := built_box m bs w.heap.size
  obtain ⟨C, hC⟩ : ∃ C : Array Value, C = #[.int .i64 (m : Int), .pointer (some ⟨bs, 0, none⟩), .map (some w.heap.size), .int .i64 0] := ⟨_, rfl⟩
  rw [← hC] at hbb
  have hmk : ∀ W : World, (Instr.makeMap 56 none).run Tryd.prog W = .ok (.map (some W.heap.size)) (W.alloc (.map #[] 0)) := fun W => run_makeMap _ W
  have hfin : BoxAt u (W1.alloc (.cells C 58)) W1.heap.size bs w.heap.size ⟨m, T, us, []⟩ := by
    refine ⟨Nat.le_trans hu.size (by omega), hns, hu.size, ?_, (hS.kept g1 (by simp)).kept (World.grownBy_alloc _ _ none) (by simp), hM1.kept (World.grownBy_alloc _ _ none) (by simp)⟩
    have := Blk.new W1 58 (boxC ⟨m, T, us, []⟩ bs w.heap.size)
    rw [show (boxC ⟨m, T, us, []⟩ bs w.heap.size).toArray = C by rw [hC]; rfl] at this
    exact this
  rw [hs1] at hfin
  have hg2 := gb_alloc g1 (.cells C 58)
  have HB := hide hbb
  have HF := hide hfin
  have HW1 := hide hW1
  have hle : w.heap.size ≤ w.heap.size + 1 := by omega
  have hm' : ((m : Int) = 0) ∨ ((m : Int) = 1) := by omega
  clear hbb hfin hC hW1 hs1 hS hM1 g1 hm
  rcases hm' with hm' | hm'
  · rw [hm'] at HB ⊢
    go_enter Tryd.func8, Tryd.ntmps8
    go_wp2_with (refine wpList_built rfl 58 _ rfl C ?hb ?_)
    case hb => exact unhide HB
    rw [← unhide HW1]
    go_ret2
    exact ⟨_, _, rfl, hle, Nat.le_refl _, unhide HF, hg2⟩
  · rw [hm'] at HB ⊢
    go_enter Tryd.func8, Tryd.ntmps8
    go_wp2_with (refine wpList_built rfl 58 _ rfl C ?hb ?_)
    case hb => exact unhide HB
    rw [← unhide HW1]
    go_ret2
    exact ⟨_, _, rfl, hle, Nat.le_refl _, unhide HF, hg2⟩

set_option maxRecDepth 100000 in
theorem count_any (w : World) (u : World) (bb bs bm : Nat) (B : BoxS) (h : BoxAt u w bb bs bm B) :
    Calls Tryd.prog 18 #[.pointer (some ⟨bb, 0, none⟩)] w fun e w' => e = .returned (.int .i64 (B.L.length : Int)) ∧ w' = w := by
  obtain ⟨_, h1, _, h3⟩ := h.cell
  have c1 := made_at w bb ⟨bs, 0, none⟩ h1
  clear h
  go_enter Tryd.func18, Tryd.ntmps18
  go_wp2_with (go_at_call 27; refine c1.mono ?_; rintro e w2 ⟨rfl, rfl⟩)
  go_ret
  exact ⟨rfl, rfl⟩

set_option maxRecDepth 100000 in
theorem mode_any (w : World) (u : World) (bb bs bm : Nat) (B : BoxS) (h : BoxAt u w bb bs bm B) :
    Calls Tryd.prog 19 #[.pointer (some ⟨bb, 0, none⟩)] w fun e w' => e = .returned (.int .i64 (B.mode : Int)) ∧ w' = w := by
  obtain ⟨h0, h1, _, _⟩ := h.cell
  have c1 := made_at w bb ⟨bs, 0, none⟩ h1
  clear h
  go_enter Tryd.func19, Tryd.ntmps19
  go_wp2_with (go_at_call 27; refine c1.mono ?_; rintro e w2 ⟨rfl, rfl⟩)
  go_ret
  exact ⟨rfl, rfl⟩

end Go.Proofs.YtjckdgapefaokaaDoor

/- What box's own keep leaves, and what Known answers. No condition but those that each lemma names. -/
namespace Go.Proofs.YtjckdgapefaokaaDoor
open Go.RowKit

theorem info_cont : (Tryd.prog.info? 83).map (·.size) = some 34 := by kernel_rfl
theorem zero_cont (w : World) : (zeroValue 83).run Tryd.prog w = .ok (contV ⟨[], [], [], []⟩) w := by kernel_rfl

theorem BoxAt.with {u w : World} {bb bs bm : Nat} {B : BoxS} (h : BoxAt u w bb bs bm B) (C : BoxS) (h1 : C.mode = B.mode) (h2 : C.T = B.T) (h3 : C.u = B.u) (h4 : C.L = B.L) : BoxAt u w bb bs bm C := by
  obtain ⟨m, T, us, L⟩ := B
  obtain ⟨m', T', us', L'⟩ := C
  simp only at h1 h2 h3 h4
  subst h1 h2 h3 h4
  exact h

set_option maxRecDepth 100000 in
set_option maxHeartbeats 1000000 in
theorem keep_any (u w : World) (bb bs bm : Nat) (B : BoxS) (x : Ent) (ao : Option Addr) (c : Nat) (h : BoxAt u w bb bs bm B) (hs : BtT w ao c x.s) (hx : ∀ y, firstOf B.L x.s = some y → contV y = contV x) (hk : x.k.length ≤ 32) (hL : B.L.length ≤ 4611686018427387904) :
    Calls Tryd.prog 42 #[.pointer (some ⟨bb, 0, none⟩), .slice ao x.s.length c, contV x] w fun e w' => e = .returned (.tuple #[]) ∧ BoxAt u w' bb bs bm { B with L := B.L ++ [x] } ∧ By3 w w' bb bs bm := by
  have hbm := h.map.lt
  have hbb := h.blk.lt
  obtain ⟨CL, hCL⟩ : ∃ CL, CL = contC x := ⟨_, rfl⟩
  have hsC : CL.length = 34 := by rw [hCL]; exact contC_length x hk
  obtain ⟨W1, hW1⟩ : ∃ W1, W1 = w.alloc (.cells CL.toArray 83) := ⟨_, rfl⟩
  have g1 : w.grownBy W1 none := by rw [hW1]; exact gb_alloc (gb_refl _ _) _
  have h1 := h.none g1
  have hs1 := hs.none g1
  have hC1 : Blk W1 w.heap.size 83 CL := by rw [hW1]; exact Blk.new w _ _
  have hrC : W1.rangeAt w.heap.size 0 CL := by
    have := Blk.range (A := []) (vs := CL) (C := []) (by simpa using hC1)
    simpa using this
  have hi34 : (Tryd.prog.info? 83).map (·.size) = some CL.length := by rw [hsC]; exact info_cont
  obtain ⟨w2, hrun0, hM2, g2⟩ := (h1.map.kept (gb_drew (gb_refl W1 none)) (by simp)).store (P := Tryd.prog) 56 9 83 Tryd.underlying56 Tryd.underlying9 x hx
  obtain ⟨sx, hsx⟩ : ∃ sx, sx = str x.s := ⟨_, rfl⟩
  have hrun : (Instr.mapUpdate 56 (.map (some bm)) (.string sx) (.agg CL.toArray)).run Tryd.prog W1.drew = .ok () w2 := by rw [hsx, hCL]; exact hrun0
  have g2' : W1.grownBy w2 (some bm) := gb_trans (gb_drew (gb_refl _ _)) g2 (fun _ e => Or.inr e)
  have hnb : some bb ≠ some bm := fun e => h1.map.blk h1.blk (by cases e; rfl)
  have hnc : some w.heap.size ≠ some bm := fun e => by cases e; omega
  have hc2 := h1.cell.2.2.1
  have hcv : ∀ V, W1.grownBy V (some bm) → (convert 22 9 (.slice ao x.s.length c)).run Tryd.prog V = .ok (.string sx) V := fun V hV => by
    rw [hsx]
    refine conv_str (hs1.bts.kept hV (fun y e ad e2 e3 => ?_))
    cases e
    exact h1.map.typ (by rw [← e3]; exact hs1.typ ad e2)
  have hB2 := h1.blk.kept g2' hnb
  obtain ⟨N, hN⟩ : ∃ N : Int, N = (B.L.length : Int) := ⟨_, rfl⟩
  have hc3 : w2.cell? ⟨bb, 3, none⟩ = some (.int .i64 N) := by rw [hB2.cell, hN]; rfl
  have hf3 := hB2.fz 3
  have hwN : IntKind.i64.wrap (N + 1) = N + 1 := by rw [IntKind.wrap_i64]; omega
  have hfin : BoxAt u (w2.setCell ⟨bb, 3, none⟩ (.int .i64 (N + 1))) bb bs bm { B with L := B.L ++ [x] } ∧ By3 w (w2.setCell ⟨bb, 3, none⟩ (.int .i64 (N + 1))) bb bs bm := by
    have g3 := gb_set w2 bb 3 (.int .i64 (N + 1))
    refine ⟨⟨h.nb, h.ns, h.nm, ?_, (h1.src.kept g2' (fun e => h1.map.blk h1.src.blk (by cases e; rfl))).kept g3 (fun e => h1.bs_ne (by cases e; rfl)), hM2.kept g3 (fun e => hnb (by rw [e]))⟩, ?_⟩
    · have := hB2.set 3 (.int .i64 (N + 1))
      have e : (boxC B bs bm).set 3 (.int .i64 (N + 1)) = boxC { B with L := B.L ++ [x] } bs bm := by
        simp [boxC, hN]
      rw [e] at this
      exact this
    · exact (((By3.refl w bb bs bm).none g1).by g2' (fun y e => by cases e; exact Or.inr (Or.inr (Or.inr rfl)))).by g3 (fun y e => by cases e; exact Or.inr (Or.inl rfl))
  obtain ⟨n, hn⟩ : ∃ n, n = x.s.length := ⟨_, rfl⟩
  rw [← hn] at hcv ⊢
  rw [show contV x = .agg CL.toArray by rw [hCL]; rfl]
  have h0 : W1.grownBy W1.drew (some bm) := gb_drew (gb_refl _ _)
  have HW1 := hide hW1
  have HNB := hide hnb
  have HNC := hide hnc
  have HFIN := hide hfin
  clear hCL hsC hW1 g1 h1 hs1 hC1 hM2 g2 hsx hrun0 hnb hnc hN hfin hn hx hk hL h hs hbm hbb hB2
  have g2 := g2'
  clear g2'
  go_enter Tryd.func42, Tryd.ntmps42
  go_upto_region 1 with fail
  rw [← unhide HW1]
  refine wp_region_noPanic ?_
  refine wp_region_held_drew (S := fun V => W1.grownBy V (some bm)) (by kernel_rfl) h0 (fun _ => ?_)
  refine wpAnyH_take (i := 0) (oi := { dst := some 6, op := Op.move (Operand.tmp 0), type := _, pos := _, after := _, guard := _ }) (v := .pointer (some ⟨bb, 0, none⟩)) rfl (by kernel_rfl) (by kernel_rfl) (by kernel_rfl) (fun _ _ _ h => h) (Or.inl ⟨by rfl, fun V (hV : W1.grownBy V (some bm)) => by go_simp⟩) h0 ?_
  (try simp only [Act.put, List.setIfInBounds_toArray, List.set_cons_zero, List.set_cons_succ])
  refine wpAnyH_take (i := 1) (oi := { dst := some 7, op := Op.nilCheck (Operand.tmp 6), type := _, pos := _, after := _, guard := _ }) (v := .pointer (some ⟨bb, 0, none⟩)) rfl (by kernel_rfl) (by kernel_rfl) (by kernel_rfl) (fun _ _ _ h => h) (Or.inl ⟨by rfl, fun V (hV : W1.grownBy V (some bm)) => by go_simp⟩) h0 ?_
  (try simp only [Act.put, List.setIfInBounds_toArray, List.set_cons_zero, List.set_cons_succ])
  refine wpAnyH_take (i := 2) (oi := { dst := some 8, op := Op.fieldAddr 58 (Operand.tmp 7) 2, type := _, pos := _, after := _, guard := _ }) (v := .pointer (some ⟨bb, 2, none⟩)) rfl (by kernel_rfl) (by kernel_rfl) (by kernel_rfl) (fun _ _ _ h => h) (Or.inl ⟨by rfl, fun V (hV : W1.grownBy V (some bm)) => by go_simp⟩) h0 ?_
  (try simp only [Act.put, List.setIfInBounds_toArray, List.set_cons_zero, List.set_cons_succ])
  refine wpAnyH_take (i := 3) (oi := { dst := some 9, op := Op.load 56 (Operand.tmp 8), type := _, pos := _, after := _, guard := _ }) (v := .map (some bm)) rfl (by kernel_rfl) (by kernel_rfl) (by kernel_rfl) (fun _ _ _ h => h) (Or.inl ⟨by rfl, fun V (hV : W1.grownBy V (some bm)) => by (have hv1 := hV.cell hc2 (unhide HNB); go_simp)⟩) h0 ?_
  (try simp only [Act.put, List.setIfInBounds_toArray, List.set_cons_zero, List.set_cons_succ])
  refine wpAnyH_take (i := 4) (oi := { dst := some 10, op := Op.move (Operand.tmp 1), type := _, pos := _, after := _, guard := _ }) (v := .slice ao n c) rfl (by kernel_rfl) (by kernel_rfl) (by kernel_rfl) (fun _ _ _ h => h) (Or.inl ⟨by rfl, fun V (hV : W1.grownBy V (some bm)) => by go_simp⟩) h0 ?_
  (try simp only [Act.put, List.setIfInBounds_toArray, List.set_cons_zero, List.set_cons_succ])
  refine wpAnyH_take (i := 5) (oi := { dst := some 11, op := Op.convert 22 9 (Operand.tmp 10), type := _, pos := _, after := _, guard := _ }) (v := .string sx) rfl (by kernel_rfl) (by kernel_rfl) (by kernel_rfl) (fun _ _ _ h => h) (Or.inl ⟨by rfl, fun V (hV : W1.grownBy V (some bm)) => by (have hv9 := hcv V hV; go_simp)⟩) h0 ?_
  (try simp only [Act.put, List.setIfInBounds_toArray, List.set_cons_zero, List.set_cons_succ])
  refine wpAnyH_take (i := 6) (oi := { dst := some 12, op := Op.load 83 (Operand.tmp 5), type := _, pos := _, after := _, guard := _ }) (v := .agg CL.toArray) rfl (by kernel_rfl) (by kernel_rfl) (by kernel_rfl) (fun _ _ _ h => h) (yieldsIf_load_mid (by rfl) _ _ rfl _ _ rfl CL _ (fun V hV => range_kept hrC hV (unhide HNC)) Tryd.underlying83 rfl hi34) h0 ?_
  (try simp only [Act.put, List.setIfInBounds_toArray, List.set_cons_zero, List.set_cons_succ])
  refine wpAnyH_ready (rs := [7]) (by kernel_rfl) (by simp) ?_
  refine AllReadyH.cons (o := { dst := none, op := Op.mapUpdate 56 (Operand.tmp 9) (Operand.tmp 11) (Operand.tmp 12), type := _, pos := _, after := _, guard := _ }) rfl (fun K9 hK9 => ?_) AllReadyH.nil
  go_simp
  refine hK9.out _ _ g2 (fun _ => ?_)
  clear hK9 K9
  (try simp only [Act.put, List.setIfInBounds_toArray, List.set_cons_zero, List.set_cons_succ])
  refine wpAnyH_done (by kernel_rfl) ?_ _
  refine NoPanic.normal ?_
  clear hrun
  go_wp2
  go_end0
  exact ⟨rfl, unhide HFIN⟩

set_option maxRecDepth 100000 in
set_option maxHeartbeats 1000000 in
theorem known_any (u W1 : World) (bb bs bm : Nat) (B : BoxS) (s : List UInt8) (ao : Option Addr) (c : Nat) (h : BoxAt u W1 bb bs bm B) (hs : Bts W1 ao c s) (hk : ∀ x ∈ B.L, x.k.length ≤ 32) :
    Calls Tryd.prog 16 #[.pointer (some ⟨bb, 0, none⟩), .slice ao s.length c] W1 fun e w' => e = .returned (.bool (B.known s)) ∧ W1.grownBy w' none := by
  rw [known_first]
  obtain ⟨_, hc1, hc2, _⟩ := h.cell
  have c1 := made_at W1 bb ⟨bs, 0, none⟩ hc1
  obtain ⟨sx, hsx⟩ : ∃ sx, sx = str s := ⟨_, rfl⟩
  obtain ⟨r9, hr9⟩ : ∃ r9, r9 = (firstOf B.L s).isSome := ⟨_, rfl⟩
  obtain ⟨y, hy⟩ : ∃ y : Ent, y = (firstOf B.L s).getD ⟨[], [], [], []⟩ := ⟨_, rfl⟩
  obtain ⟨CL, hCL⟩ : ∃ CL, CL = contC y := ⟨_, rfl⟩
  obtain ⟨ZL, hZL⟩ : ∃ ZL, ZL = contC ⟨[], [], [], []⟩ := ⟨_, rfl⟩
  have hyk : y.k.length ≤ 32 := by
    rw [hy]
    cases hf : firstOf B.L s with
    | none => decide
    | some z => exact hk z (List.mem_of_find?_eq_some hf)
  have hsC : CL.toArray.size = 34 := by rw [hCL]; simpa using contC_length y hyk
  have hsZ : ZL.toArray.size = 34 := by rw [hZL]; rfl
  have hoC : CL.toArray.all (·.oneCell') = true := by rw [hCL]; exact all_oneCell_toArray (contC_one y)
  have hzv : ∀ w, (zeroValue 83).run Tryd.prog w = .ok (.agg ZL.toArray) w := fun w => by rw [hZL]; exact zero_cont w
  have hlk : ∀ V, W1.grownBy V none → (Instr.lookup 56 (.map (some bm)) (.string sx) true).run Tryd.prog V = .ok (.tuple #[.agg CL.toArray, .bool r9]) V := fun V hV => by
    have := (h.map.kept hV (by simp)).look (P := Tryd.prog) 56 9 83 Tryd.underlying56 Tryd.underlying9 _ (zero_cont V) s
    rw [hsx, this, hr9, hCL, hy]
    cases firstOf B.L s <;> rfl
  have hcv : ∀ V, W1.grownBy V none → (convert 22 9 (.slice ao s.length c)).run Tryd.prog V = .ok (.string sx) V := fun V hV => by
    rw [hsx]
    exact conv_str (hs.kept hV (fun _ e => by cases e))
  obtain ⟨n, hn⟩ : ∃ n, n = s.length := ⟨_, rfl⟩
  rw [← hn] at hcv ⊢
  rw [← hr9]
  have h0 : W1.grownBy W1.drew none := gb_drew (gb_refl _ _)
  have HSC := hide hsC
  have HSZ := hide hsZ
  have HOC := hide hoC
  clear hsx hr9 hy hCL hZL hyk hsC hsZ hoC hn h hs hk
  go_enter Tryd.func16, Tryd.ntmps16
  go_upto_region 3 with (go_at_call 27; refine c1.mono ?_; rintro e w2 ⟨rfl, e2⟩; subst w2)
  refine wp_region_noPanic ?_
  refine wp_region_held_drew (S := fun V => W1.grownBy V none) (by kernel_rfl) h0 (fun _ => ?_)
  refine wpAnyH_take (i := 0) (oi := { dst := some 11, op := Op.move (Operand.tmp 0), type := _, pos := _, after := _, guard := _ }) (v := .pointer (some ⟨bb, 0, none⟩)) rfl (by kernel_rfl) (by kernel_rfl) (by kernel_rfl) (fun _ _ _ h => h) (Or.inl ⟨by rfl, fun V (hV : W1.grownBy V none) => by go_simp⟩) h0 ?_
  (try simp only [Act.put, List.setIfInBounds_toArray, List.set_cons_zero, List.set_cons_succ])
  refine wpAnyH_take (i := 1) (oi := { dst := some 12, op := Op.nilCheck (Operand.tmp 11), type := _, pos := _, after := _, guard := _ }) (v := .pointer (some ⟨bb, 0, none⟩)) rfl (by kernel_rfl) (by kernel_rfl) (by kernel_rfl) (fun _ _ _ h => h) (Or.inl ⟨by rfl, fun V (hV : W1.grownBy V none) => by go_simp⟩) h0 ?_
  (try simp only [Act.put, List.setIfInBounds_toArray, List.set_cons_zero, List.set_cons_succ])
  refine wpAnyH_take (i := 2) (oi := { dst := some 13, op := Op.fieldAddr 58 (Operand.tmp 12) 2, type := _, pos := _, after := _, guard := _ }) (v := .pointer (some ⟨bb, 2, none⟩)) rfl (by kernel_rfl) (by kernel_rfl) (by kernel_rfl) (fun _ _ _ h => h) (Or.inl ⟨by rfl, fun V (hV : W1.grownBy V none) => by go_simp⟩) h0 ?_
  (try simp only [Act.put, List.setIfInBounds_toArray, List.set_cons_zero, List.set_cons_succ])
  refine wpAnyH_take (i := 3) (oi := { dst := some 14, op := Op.load 56 (Operand.tmp 13), type := _, pos := _, after := _, guard := _ }) (v := .map (some bm)) rfl (by kernel_rfl) (by kernel_rfl) (by kernel_rfl) (fun _ _ _ h => h) (Or.inl ⟨by rfl, fun V (hV : W1.grownBy V none) => by (have hv1 := hV.cell hc2 (by simp); go_simp)⟩) h0 ?_
  (try simp only [Act.put, List.setIfInBounds_toArray, List.set_cons_zero, List.set_cons_succ])
  refine wpAnyH_take (i := 4) (oi := { dst := some 15, op := Op.move (Operand.tmp 1), type := _, pos := _, after := _, guard := _ }) (v := .slice ao n c) rfl (by kernel_rfl) (by kernel_rfl) (by kernel_rfl) (fun _ _ _ h => h) (Or.inl ⟨by rfl, fun V (hV : W1.grownBy V none) => by go_simp⟩) h0 ?_
  (try simp only [Act.put, List.setIfInBounds_toArray, List.set_cons_zero, List.set_cons_succ])
  refine wpAnyH_take (i := 5) (oi := { dst := some 16, op := Op.convert 22 9 (Operand.tmp 15), type := _, pos := _, after := _, guard := _ }) (v := .string sx) rfl (by kernel_rfl) (by kernel_rfl) (by kernel_rfl) (fun _ _ _ h => h) (Or.inl ⟨by rfl, fun V (hV : W1.grownBy V none) => by (have hv9 := hcv V hV; go_simp)⟩) h0 ?_
  (try simp only [Act.put, List.setIfInBounds_toArray, List.set_cons_zero, List.set_cons_succ])
  refine wpAnyH_take (i := 6) (oi := { dst := some 17, op := Op.lookup 56 (Operand.tmp 14) (Operand.tmp 16) true, type := _, pos := _, after := _, guard := _ }) (v := .tuple #[.agg CL.toArray, .bool r9]) rfl (by kernel_rfl) (by kernel_rfl) (by kernel_rfl) (fun _ _ _ h => h) (Or.inl ⟨by rfl, fun V (hV : W1.grownBy V none) => by (have hv9 := hlk V hV; go_simp)⟩) h0 ?_
  (try simp only [Act.put, List.setIfInBounds_toArray, List.set_cons_zero, List.set_cons_succ])
  refine wpAnyH_take (i := 7) (oi := { dst := some 10, op := Op.move (Operand.tmp 17), type := _, pos := _, after := _, guard := _ }) (v := .tuple #[.agg CL.toArray, .bool r9]) rfl (by kernel_rfl) (by kernel_rfl) (by kernel_rfl) (fun _ _ _ h => h) (Or.inl ⟨by rfl, fun V (hV : W1.grownBy V none) => by go_simp⟩) h0 ?_
  (try simp only [Act.put, List.setIfInBounds_toArray, List.set_cons_zero, List.set_cons_succ])
  refine wpAnyH_take (i := 8) (oi := { dst := some 18, op := Op.extract (Operand.tmp 10) 0, type := _, pos := _, after := _, guard := _ }) (v := .agg CL.toArray) rfl (by kernel_rfl) (by kernel_rfl) (by kernel_rfl) (fun _ _ _ h => h) (Or.inl ⟨by rfl, fun V (hV : W1.grownBy V none) => by go_simp⟩) h0 ?_
  (try simp only [Act.put, List.setIfInBounds_toArray, List.set_cons_zero, List.set_cons_succ])
  refine wpAnyH_take (i := 9) (oi := { dst := some 19, op := Op.extract (Operand.tmp 10) 1, type := _, pos := _, after := _, guard := _ }) (v := .bool r9) rfl (by kernel_rfl) (by kernel_rfl) (by kernel_rfl) (fun _ _ _ h => h) (Or.inl ⟨by rfl, fun V (hV : W1.grownBy V none) => by go_simp⟩) h0 ?_
  (try simp only [Act.put, List.setIfInBounds_toArray, List.set_cons_zero, List.set_cons_succ])
  refine wpAnyH_ready (rs := [10]) (by kernel_rfl) (by simp) ?_
  refine AllReadyH.cons (o := { dst := some 5, op := Op.alloc 83, type := _, pos := _, after := _, guard := _ }) rfl (fun K9 hK9 => ?_) AllReadyH.nil
  go_simp
  refine hK9.out _ _ (gb_alloc h0 _) (fun _ => ?_)
  clear hK9 K9
  (try simp only [Act.put, List.setIfInBounds_toArray, List.set_cons_zero, List.set_cons_succ])
  have hN2 : Blk (W1.drew.alloc (.cells ZL.toArray 83)) W1.heap.size 83 ZL := Blk.new W1.drew _ ZL
  have gN2 := gb_alloc h0 (.cells ZL.toArray 83)
  obtain ⟨W2, hW2⟩ : ∃ W2, W2 = W1.drew.alloc (.cells ZL.toArray 83) := ⟨_, rfl⟩
  rw [show (W1.alloc (.cells ZL.toArray 83)).drew = W2 by rw [hW2]; rfl]
  rw [← hW2] at hN2 gN2
  clear hW2
  refine wpAnyH_ready (rs := [11]) (by kernel_rfl) (by simp) ?_
  refine AllReadyH.cons (o := { dst := none, op := Op.store 83 (Operand.tmp 5) (Operand.tmp 18), type := _, pos := _, after := _, guard := _ }) rfl (fun K9 hK9 => ?_) AllReadyH.nil
  rw [if_pos (by rfl)]
  refine wp_store_row _ _ _ rfl W1.heap.size _ rfl rfl _ _ hN2 (by rw [unhide HSC]; exact info_cont) (by rw [unhide HSC, unhide HSZ]) (unhide HOC) ?_
  refine hK9.out _ _ (gb_row gN2 _ (Or.inl (Nat.le_refl _))) (fun _ => ?_)
  clear hK9 K9
  (try simp only [Act.put])
  refine wpAnyH_take (i := 12) (oi := { dst := some 6, op := Op.assign (Operand.tmp 19), type := _, pos := _, after := _, guard := _ }) (v := .bool r9) rfl (by kernel_rfl) (by kernel_rfl) (by kernel_rfl) (fun _ _ _ h => h) (Or.inl ⟨by rfl, fun V (hV : W1.grownBy V none) => by go_simp⟩) (gb_row gN2 _ (Or.inl (Nat.le_refl _))) ?_
  (try simp only [Act.put, List.setIfInBounds_toArray, List.set_cons_zero, List.set_cons_succ])
  refine wpAnyH_done (by kernel_rfl) ?_ _
  refine NoPanic.normal ?_
  go_wp2
  go_ret
  exact ⟨rfl, gb_row gN2 _ (Or.inl (Nat.le_refl _))⟩

end Go.Proofs.YtjckdgapefaokaaDoor

/- What box's own drawFor answers: as many bytes as are asked for, and 28, of the source. Where fewer than 2 to the 45 were told. -/
namespace Go.Proofs.YtjckdgapefaokaaDoor
open Go.RowKit

/-- Take, its answer in memory of its own. -/
theorem take_own (w : World) (b : Nat) (T : List UInt8) (us n : Nat) (h : SrcAt w b T us) (hT : Tabs w) (hn : n ≤ 65536) (hus : us ≤ 70368744177664) :
    Calls Tryd.prog 22 #[.pointer (some ⟨b, 0, none⟩), .int .i64 (n : Int)] w fun e w' => ∃ v, e = .returned v ∧ w'.ownsRow w.heap.size 5 1 v n ((told T us n).map bv) ∧ SrcAt w' b T (us + n) ∧ w.grownBy w' (some b) := by
  by_cases h0 : n = 0
  · subst h0
    refine (take_few w b ((0 : Nat) : Int) (by omega)).mono ?_
    rintro e w' ⟨rfl, rfl⟩
    exact ⟨_, rfl, World.ownsRow_nil _ _ _ _, h, gb_refl _ _⟩
  · refine (take_some w b T us n h.fit hT (by omega) hn hus).mono ?_
    rintro e w' ⟨g, rfl, hg, hB, hS, gg⟩
    have := own_of_blk hB hg (by rw [told_length]; unfold maxLen; omega)
    rw [told_length] at this
    exact ⟨_, rfl, this, hS, gg⟩

theorem BoxAt.drawn {u w a : World} {bb bs bm n : Nat} {B : BoxS} (h : BoxAt u w bb bs bm B) (g : w.grownBy a (some bs)) (hS : SrcAt a bs B.T n) : BoxAt u a bb bs bm { B with u := n } :=
  ⟨h.nb, h.ns, h.nm, h.blk.kept g (fun e => h.bs_ne (by cases e; rfl)), hS, h.map.kept g (fun e => h.map.blk h.src.blk (by cases e; rfl))⟩

theorem By3.src {w a : World} {bb bs bm : Nat} (g : w.grownBy a (some bs)) : By3 w a bb bs bm := (By3.refl w bb bs bm).by g (fun x e => by cases e; exact Or.inr (Or.inr (Or.inl rfl)))

set_option maxRecDepth 100000 in
set_option maxHeartbeats 1000000 in
theorem drawFor_any (u w : World) (bb bs bm : Nat) (B : BoxS) (n : Nat) (h : BoxAt u w bb bs bm B) (gu : u.grownBy w none) (hT : Tabs u) (hn : n ≤ 2000) (hus : B.u ≤ 35184372088832) :
    Calls Tryd.prog 43 #[.pointer (some ⟨bb, 0, none⟩), .int .i64 (n : Int)] w fun e w' => ∃ ao c, e = .returned (.slice ao (n + 28) c) ∧ BtT w' ao c (told B.T B.u (n + 28)) ∧ BoxAt u w' bb bs bm { B with u := B.u + (n + 28) } ∧ By3 w w' bb bs bm := by
  have hc1 := h.cell.2.1
  have ct1 := take_own w bs B.T B.u n h.src (hT.kept0 gu) (by omega) (by omega)
  have ct2 : ∀ V v, BoxAt u V bb bs bm { B with u := B.u + n } → By3 w V bb bs bm → V.ownsRow w.heap.size 5 1 v n ((told B.T B.u n).map bv) → Calls Tryd.prog 22 #[.pointer (some ⟨bs, 0, none⟩), .int .i64 28] V fun e w' => ∃ ao c, e = .returned (.slice ao 28 c) ∧ Bts w' ao c (told B.T (B.u + n) 28) ∧ w'.ownsRow w.heap.size 5 1 v n ((told B.T B.u n).map bv) ∧ BoxAt u w' bb bs bm { B with u := B.u + (n + 28) } ∧ By3 w w' bb bs bm := fun V v hV gV hv =>
    (take_law V bs B.T (B.u + n) 28 hV.src (hT.kept0 (by3_gb gu gV h.nb h.ns h.nm)) (by omega) (by omega)).mono fun e w' ⟨ao, c, he, hB, hS, gg⟩ =>
      ⟨ao, c, he, hB.bts, own_src hv hV.src gg, (hV.drawn gg hS).with _ rfl rfl (by simp only; omega) rfl, gV.trans (By3.src gg)⟩
  have hfin : ∀ V ao c v V', Bts V ao c (told B.T (B.u + n) 28) → BoxAt u V bb bs bm { B with u := B.u + (n + 28) } → By3 w V bb bs bm → V.ownsRow w.heap.size 5 1 v n ((told B.T B.u n).map bv) → ∀ v', V'.ownsRow w.heap.size 5 1 v' (n + 28) ((told B.T B.u n).map bv ++ (told B.T (B.u + n) 28).map bv) → V.grownBy V' v.ownBlock →
      ∃ ao c, v' = .slice ao (n + 28) c ∧ BtT V' ao c (told B.T B.u (n + 28)) ∧ BoxAt u V' bb bs bm { B with u := B.u + (n + 28) } ∧ By3 w V' bb bs bm := fun V ao c v V' _ hV gV hv v' hv' gg => by
    rw [← List.map_append, ← told_add] at hv'
    obtain ⟨ao', c', he, hB⟩ := own_btT hv'
    rw [told_length] at he
    exact ⟨ao', c', he, hB, hV.own hv gg, gV.by gg (fun x e => Or.inl (hv.lt x e).1)⟩
  have hb0 : w.heap.size ≤ w.heap.size := Nat.le_refl _
  have hst : ∀ V v, V.ownsRow w.heap.size 5 1 v n ((told B.T B.u n).map bv) → w.grownBy V (some bs) → SrcAt V bs B.T (B.u + n) → BoxAt u V bb bs bm { B with u := B.u + n } ∧ By3 w V bb bs bm ∧ V.cell? ⟨bb, 1, none⟩ = some (.pointer (some ⟨bs, 0, none⟩)) := fun V v _ gg hS => by
    have h1 := h.drawn gg hS
    exact ⟨h1, By3.src gg, h1.cell.2.1⟩
  have htl : (told B.T (B.u + n) 28).length = 28 := told_length _ _ _
  obtain ⟨XA, hXA⟩ : ∃ X, X = (told B.T B.u n).map bv := ⟨_, rfl⟩
  obtain ⟨Y, hY⟩ : ∃ X, X = told B.T (B.u + n) 28 := ⟨_, rfl⟩
  rw [← hXA] at ct1
  simp only [← hXA, ← hY] at ct2 hfin hst
  rw [← hY] at htl
  have HTL := hide htl
  have HFIN := hide hfin
  have HST := hide hst
  have HC2 := hide ct2
  clear h hT hXA hY htl hfin hst ct2 gu
  go_enter Tryd.func43, Tryd.ntmps43
  go_upto_region 2 with (go_at_call 22; refine ct1.mono ?_; rintro e w1 ⟨v1, rfl, hv1, hS1, g1⟩)
  obtain ⟨hB1, b1, hc11⟩ := unhide HST w1 v1 hv1 g1 hS1
  have ct2 := unhide HC2 w1 v1 hB1 b1 hv1
  clear ct1 HC2 HST hS1 g1 hB1 hv1
  have hsz := b1.size
  clear b1
  go_wp2_with (first
    | (go_at_call 22; refine ct2.mono ?_; rintro e w2 ⟨a2, c2, rfl, hY2, hv2, hB2, b2⟩; clear ct2)
    | (refine wpList_append_btm rfl _ _ rfl w.heap.size _ n _ rfl hv2 a2 c2 Y hY2 28 (unhide HTL).symm rfl (by omega) b2.size ?_; intro v3 w3 hv3 g3; have hf3 := unhide HFIN w2 a2 c2 v1 w3 hY2 hB2 b2 hv2 v3 hv3 g3; clear hv3 g3))
  go_ret
  obtain ⟨ao, c, he, hr⟩ := hf3
  exact ⟨ao, c, by rw [he]; rfl, hr⟩

end Go.Proofs.YtjckdgapefaokaaDoor

/- What box's own sealIdeal answers: it draws until what is drawn is new, eight times at most. Of texts of at most 2000 bytes. -/
namespace Go.Proofs.YtjckdgapefaokaaDoor
open Go.RowKit

/-- The sealed text, or none; and the error's number. -/
def txtO (o : Option (List UInt8)) : List UInt8 := o.getD []
def errO (o : Option (List UInt8)) : Int := if o.isSome then 0 else 15

/-- What a Seal leaves. -/
def Sealed (u w : World) (bb bs bm : Nat) (R : BoxS × Option (List UInt8)) (e : Ending) (w' : World) : Prop :=
  ∃ ao c, e = .returned (.tuple #[.slice ao (txtO R.2).length c, .int .i64 (errO R.2)]) ∧ BtT w' ao c (txtO R.2) ∧ BoxAt u w' bb bs bm R.1 ∧ By3 w w' bb bs bm

theorem tries_known {b : BoxS} {k be tx : List UInt8} {n : Nat} (h : b.known (told b.T b.u (tx.length + 28)) = true) : b.tries k be tx (n + 1) = BoxS.tries k be tx n { b with u := b.u + (tx.length + 28) } := by
  conv => lhs; unfold BoxS.tries
  rw [if_pos h]
theorem tries_new {b : BoxS} {k be tx : List UInt8} {n : Nat} (h : b.known (told b.T b.u (tx.length + 28)) = false) : b.tries k be tx (n + 1) = ({ b with u := b.u + (tx.length + 28), L := b.L ++ [⟨told b.T b.u (tx.length + 28), k, be, tx⟩] }, some (told b.T b.u (tx.length + 28))) := by
  unfold BoxS.tries
  rw [if_neg (by rw [h]; simp)]

set_option maxRecDepth 100000 in
set_option maxHeartbeats 2000000 in
theorem sealIdeal_any (u w : World) (bb bs bm : Nat) (B : BoxS) (k be tx : List UInt8) (h : BoxAt u w bb bs bm B) (gu : u.grownBy w none) (hT : Tabs u) (hk : k.length = 32) (hks : ∀ x ∈ B.L, x.k.length = 32) (ht : tx.length ≤ 2000) (hus : B.u ≤ 17592186044416) (hL : B.L.length ≤ 17592186044416) :
    Calls Tryd.prog 29 #[.pointer (some ⟨bb, 0, none⟩), contV ⟨[], k, be, tx⟩] w (Sealed u w bb bs bm (B.tries k be tx 8)) := by
  obtain ⟨R, hR⟩ : ∃ R, R = B.tries k be tx 8 := ⟨_, rfl⟩
  rw [← hR]
  obtain ⟨CL, hCL⟩ : ∃ CL, CL = contC ⟨[], k, be, tx⟩ := ⟨_, rfl⟩
  have hsC : CL.length = 34 := by rw [hCL]; exact contC_length _ (by simp [hk])
  obtain ⟨n, hn⟩ : ∃ n, n = tx.length := ⟨_, rfl⟩
  obtain ⟨st, hst⟩ : ∃ st, st = str tx := ⟨_, rfl⟩
  have hsz : st.size = n := by rw [hst, str_size, hn]
  have h33 : CL[33]? = some (.string st) := by
    rw [hCL, hst]
    simp [contC, padK_full hk, hk]
  obtain ⟨W1, hW1⟩ : ∃ W1, W1 = w.alloc (.cells CL.toArray 83) := ⟨_, rfl⟩
  have g1 : w.grownBy W1 none := by rw [hW1]; exact gb_alloc (gb_refl _ _) _
  have h1 := h.none g1
  have hC1 : Blk W1 w.heap.size 83 CL := by rw [hW1]; exact Blk.new w _ _
  have hne : w.heap.size ≠ bb ∧ w.heap.size ≠ bs ∧ w.heap.size ≠ bm := by
    have := h.blk.lt; have := h.src.blk.lt; have := h.map.lt
    exact ⟨by omega, by omega, by omega⟩
  have hCk : ∀ V, By3 W1 V bb bs bm → Blk V w.heap.size 83 CL := fun V gV => hC1.by3 gV hne.1 hne.2.1 hne.2.2
  have hiC : (Tryd.prog.info? 83).map (·.size) = some CL.toArray.size := by rw [List.size_toArray, hsC]; exact info_cont
  have gu1 := tn gu g1
  have b1 : By3 w W1 bb bs bm := (By3.refl w bb bs bm).none g1
  rw [show contV ⟨[], k, be, tx⟩ = .agg CL.toArray by rw [hCL]; rfl]
  have cDF : ∀ V (C : BoxS), BoxAt u V bb bs bm C → By3 W1 V bb bs bm → C.u ≤ 35184372088832 → Calls Tryd.prog 43 #[.pointer (some ⟨bb, 0, none⟩), .int .i64 (n : Int)] V fun e w' => ∃ ao c, e = .returned (.slice ao (n + 28) c) ∧ BtT w' ao c (told C.T C.u (n + 28)) ∧ BoxAt u w' bb bs bm { C with u := C.u + (n + 28) } ∧ By3 W1 w' bb bs bm := fun V C hV gV hC =>
    (drawFor_any u V bb bs bm C n hV (by3_gb gu1 gV h.nb h.ns h.nm) hT (by omega) hC).mono fun e w' ⟨ao, c, he, hB, hX, g⟩ => ⟨ao, c, he, hB, hX, gV.trans g⟩
  have cKn : ∀ V (C : BoxS) ao c s m r, BoxAt u V bb bs bm C → BtT V ao c s → s.length = m → By3 W1 V bb bs bm → C.L = B.L → C.known s = r → Calls Tryd.prog 16 #[.pointer (some ⟨bb, 0, none⟩), .slice ao m c] V fun e w' => e = .returned (.bool r) ∧ BoxAt u w' bb bs bm C ∧ BtT w' ao c s ∧ By3 W1 w' bb bs bm := fun V C ao c s m r hV hs hm gV hCL hr => by
    have := known_any u V bb bs bm C s ao c hV hs.bts (fun x hx => by rw [hCL] at hx; rw [hks x hx]; exact Nat.le_refl _)
    rw [hm, hr] at this
    exact this.mono fun e w' ⟨he, g⟩ => ⟨he, hV.none g, hs.none g, gV.none g⟩
  have cKp : ∀ V (C : BoxS) ao c s m, BoxAt u V bb bs bm C → BtT V ao c s → s.length = m → By3 W1 V bb bs bm → C.L = B.L → C.known s = false → Calls Tryd.prog 42 #[.pointer (some ⟨bb, 0, none⟩), .slice ao m c, .agg CL.toArray] V fun e w' => e = .returned (.tuple #[]) ∧ BoxAt u w' bb bs bm { C with L := C.L ++ [⟨s, k, be, tx⟩] } ∧ BtT w' ao c s ∧ By3 W1 w' bb bs bm := fun V C ao c s m hV hs hm gV hCL2 hr => by
    have := keep_any u V bb bs bm C ⟨s, k, be, tx⟩ ao c hV hs (fun y hy => by
      have h4 := hr
      rw [known_first, hy] at h4
      cases h4) (by simp [hk]) (by rw [hCL2]; omega)
    rw [show contV ⟨s, k, be, tx⟩ = .agg CL.toArray by rw [hCL]; rfl] at this
    simp only [hm] at this
    exact this.mono fun e w' ⟨he, h5, g⟩ => ⟨he, h5, hs.box hV g, gV.trans g⟩
  have HCK := hide hCk
  have HW1 := hide hW1
  have HR := hide hR
  have HDF := hide cDF
  have HKN := hide cKn
  have HKP := hide cKp
  have H33 := hide h33
  have HIC := hide hiC
  have B1 := hide b1
  have HN := hide hn
  have HNT := hide ht
  have HUS := hide hus
  have HB1 := hide h1
  clear hsC hst h33 hW1 g1 h1 hC1 hne hCk hiC gu1 b1 cDF cKn cKp h gu hT hks ht hus hL hR hk hCL hn
  go_enter Tryd.func29, Tryd.ntmps29
  go_wp2
  rw [← unhide HW1]
  go_loopw [7] (fun i wr => ∃ (j : Nat) (C : BoxS), j ≤ 8 ∧ i = .int .i64 j ∧ C.L = B.L ∧ C.u ≤ 17592186044416 + j * 3000 ∧ R = C.tries k be tx (8 - j) ∧ BoxAt u wr bb bs bm C ∧ By3 W1 wr bb bs bm) (fun i _ => 8 - (intOf i).toNat)
  case atStart => exact ⟨0, B, by omega, rfl, rfl, by have := unhide HUS; omega, unhide HR, unhide HB1, By3.refl _ _ _ _⟩
  case round =>
    obtain ⟨j, C, hj, rfl, hCL, hCu, hRC, hB, g⟩ := hrel
    by_cases hlt : j < 8
    · obtain ⟨q, hq⟩ : ∃ q, 8 - j = q + 1 := ⟨7 - j, by omega⟩
      have hn2 := unhide HNT
      rw [hq] at hRC
      have cdf := unhide HDF wr C hB g (by omega)
      have hCb := unhide HCK wr g
      have hc33 : wr.cell? ⟨w.heap.size, 33, none⟩ = some (.string st) := by rw [hCb.cell]; exact unhide H33
      obtain ⟨s, hs⟩ : ∃ s, s = told C.T C.u (n + 28) := ⟨_, rfl⟩
      have hsl : s.length = n + 28 := by rw [hs]; exact told_length _ _ _
      rw [← hs] at cdf
      have hlen : (st.size : Int) = (n : Int) := by rw [hsz]
      have hj8 : (j : Int) < 8 := by omega
      have hjw : IntKind.i64.wrap ((j : Int) + 1) = (j : Int) + 1 := by rw [IntKind.wrap_i64]; omega
      by_cases hkn : C.known s = true
      · have ckn : ∀ V ao c, BoxAt u V bb bs bm { C with u := C.u + (n + 28) } → BtT V ao c s → By3 W1 V bb bs bm → Calls Tryd.prog 16 #[.pointer (some ⟨bb, 0, none⟩), .slice ao (n + 28) c] V fun e w' => e = .returned (.bool true) ∧ BoxAt u w' bb bs bm { C with u := C.u + (n + 28) } ∧ BtT w' ao c s ∧ By3 W1 w' bb bs bm := fun V ao c hV hss gV =>
          unhide HKN V _ ao c s (n + 28) true hV hss hsl gV hCL hkn
        have hR2 : R = BoxS.tries k be tx q { C with u := C.u + (n + 28) } := by
          rw [hRC, tries_known (by rw [← unhide HN, ← hs]; exact hkn), ← unhide HN]
        have HR2 := hide hR2
        have HJ := hide hq
        have HCL := hide hCL
        have HCU := hide hCu
        clear hRC hB g hCb hs hsl hkn hR2 hq hCL hCu hsz hj
        go_wp2_with (first
          | (go_at_call 43; refine cdf.mono ?_; rintro e w2 ⟨a2, c2, rfl, hs2, hB2, b2⟩; clear cdf)
          | (go_at_call 16; refine (ckn w2 a2 c2 hB2 hs2 b2).mono ?_; rintro e w3 ⟨rfl, hB3, hs3, b3⟩; clear ckn))
        go_roundw
        case rel =>
          have := unhide HJ
          refine ⟨j + 1, { C with u := C.u + (n + 28) }, by omega, by go_num, unhide HCL, ?_, ?_, hB3, b3⟩
          · have := unhide HCU
            have := unhide HN
            have := unhide HNT
            simp only
            rw [Nat.add_mul]; omega
          · rw [unhide HR2, show 8 - (j + 1) = q by omega]
        case measure => simp [intOf]; omega
      · have hkf : C.known s = false := by simpa using hkn
        have ckn : ∀ V ao c, BoxAt u V bb bs bm { C with u := C.u + (n + 28) } → BtT V ao c s → By3 W1 V bb bs bm → Calls Tryd.prog 16 #[.pointer (some ⟨bb, 0, none⟩), .slice ao (n + 28) c] V fun e w' => e = .returned (.bool false) ∧ BoxAt u w' bb bs bm { C with u := C.u + (n + 28) } ∧ BtT w' ao c s ∧ By3 W1 w' bb bs bm := fun V ao c hV hss gV =>
          unhide HKN V _ ao c s (n + 28) false hV hss hsl gV hCL hkf
        have ckp : ∀ V ao c, BoxAt u V bb bs bm { C with u := C.u + (n + 28) } → BtT V ao c s → By3 W1 V bb bs bm → Calls Tryd.prog 42 #[.pointer (some ⟨bb, 0, none⟩), .slice ao (n + 28) c, .agg CL.toArray] V fun e w' => e = .returned (.tuple #[]) ∧ BoxAt u w' bb bs bm { C with u := C.u + (n + 28), L := C.L ++ [⟨s, k, be, tx⟩] } ∧ BtT w' ao c s ∧ By3 W1 w' bb bs bm := fun V ao c hV hss gV =>
          unhide HKP V _ ao c s (n + 28) hV hss hsl gV hCL hkf
        have hR2 : R = ({ C with u := C.u + (n + 28), L := C.L ++ [⟨s, k, be, tx⟩] }, some s) := by
          rw [hRC, tries_new (by rw [← unhide HN, ← hs]; exact hkf), ← unhide HN, ← hs]
        have HR2 := hide hR2
        have HSL := hide hsl
        clear hRC hB g hCb hs hsl hkn hkf hR2 hq hCL hCu hsz hj
        go_wp2_with (first
          | (go_at_call 43; refine cdf.mono ?_; rintro e w2 ⟨a2, c2, rfl, hs2, hB2, b2⟩; clear cdf)
          | (go_at_call 16; refine (ckn w2 a2 c2 hB2 hs2 b2).mono ?_; rintro e w3 ⟨rfl, hB3, hs3, b3⟩; clear ckn; have hC3 := unhide HCK w3 b3)
          | (refine wpList_load_row rfl 83 _ rfl w.heap.size rfl _ _ _ _ hC3 Tryd.underlying83 rfl (unhide HIC) ?_)
          | (go_at_call 42; refine (ckp w3 a2 c2 hB3 hs3 b3).mono ?_; rintro e w4 ⟨rfl, hB4, hs4, b4⟩; clear ckp))
        go_ret2
        refine ⟨a2, c2, ?_, ?_, ?_, (unhide B1).trans b4⟩
        · rw [unhide HR2]
          show _ = Ending.returned (.tuple #[.slice a2 s.length c2, .int .i64 0])
          rw [unhide HSL]; rfl
        · rw [unhide HR2]; exact hs4
        · rw [unhide HR2]; exact hB4
    · obtain rfl : j = 8 := by omega
      have hR2 : R = (C, none) := hRC
      have HR2 := hide hR2
      clear hRC hR2 hCL hCu hsz
      go_wp2
      go_ret2
      refine ⟨none, 0, ?_, ?_, ?_, (unhide B1).trans g⟩
      · rw [unhide HR2]; rfl
      · rw [unhide HR2]; exact ⟨Bts.nil _, fun _ e => by cases e⟩
      · rw [unhide HR2]; exact hB

end Go.Proofs.YtjckdgapefaokaaDoor
