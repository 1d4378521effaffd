/- A map by sealed texts, in words of our own: what a look-up tells, and what a store leaves. No condition but those that each lemma names. -/
import Derived.Test.YtjckdgapefaokaaDoorBOne
import Derived.Test.YtjckdgapefaokaaDoorDPut
import Derived.Test.YtjckdgapefaokaaDoorKEqual
import Derived.MapKept
import Derived.Carry
import Derived.Test.YtjckdgapefaokaaDoorDKeep
import Derived.Test.YtjckdgapefaokaaDoorCLaid
namespace Go.Proofs.YtjckdgapefaokaaDoor
open Go.RowKit

theorem str_inj {a b : List UInt8} : str a = str b ↔ a = b := by
  constructor
  · intro h
    have := congrArg ByteArray.toList h
    rwa [str_list, str_list] at this
  · intro h; rw [h]

theorem str_same (a b : List UInt8) : Instr.sameNow .string (.string (str a)) (.string (str b)) = some (a == b) := by
  obtain ⟨r, h1, h2⟩ := MapKept.sameNow_of_keys (d := .string) (a := .string (str a)) (b := .string (str b)) (by simp [MapKept.IsKey]) (by simp [MapKept.IsKey])
  rw [h1]
  by_cases h : a = b
  · subst h; rw [h2.2 rfl]; simp
  · have : r = false := by
      cases r with
      | false => rfl
      | true => have := h2.1 rfl; injection this with this; exact absurd (str_inj.1 this) h
    rw [this, beq_eq_false_iff_ne.2 h]

/-- The first one that was sealed so. -/
def firstOf (L : List Ent) (s : List UInt8) : Option Ent := L.find? fun x => x.s == s

/-- The block m is a map: by each sealed text that of the first entry of L that was sealed so. -/
def MapOk (f : Ent → Value) (w : World) (m : Nat) (L : List Ent) : Prop :=
  ∃ A clock K, w.heap[m]? = some (.map A clock) ∧ A.toList.map (fun e => (e.key, e.val)) = K.map (fun x => (Value.string (str x.s), f x)) ∧ ∀ s, firstOf K s = firstOf L s

theorem MapOk.lt {f : Ent → Value} {w : World} {m : Nat} {L : List Ent} (h : MapOk f w m L) : m < w.heap.size := by
  obtain ⟨_, _, _, h, _⟩ := h
  exact (Array.getElem?_eq_some_iff.1 h).1

theorem MapOk.same {f : Ent → Value} {w a : World} {m : Nat} {L : List Ent} (h : MapOk f w m L) (g : a.heap[m]? = w.heap[m]?) : MapOk f a m L := by
  obtain ⟨A, c, K, h1, h2⟩ := h
  exact ⟨A, c, K, by rw [g]; exact h1, h2⟩

theorem MapOk.kept {f : Ent → Value} {w a : World} {m : Nat} {L : List Ent} {r : Option Nat} (h : MapOk f w m L) (g : w.grownBy a r) (hr : some m ≠ r) : MapOk f a m L := h.same (g.block m h.lt hr)

theorem MapOk.new (f : Ent → Value) (w : World) : MapOk f (w.alloc (.map #[] 0)) w.heap.size [] := ⟨#[], 0, [], heap_alloc_new w _, rfl, fun _ => rfl⟩

theorem MapOk.blk {f : Ent → Value} {w : World} {m b : Nat} {L : List Ent} {t : TypeId} {cs : List Value} (h : MapOk f w m L) (hb : Blk w b t cs) : m ≠ b := by
  rintro rfl
  obtain ⟨_, _, _, h, _⟩ := h
  unfold Blk at hb
  rw [hb] at h
  cases h

theorem MapOk.typ {f : Ent → Value} {w : World} {m : Nat} {L : List Ent} (h : MapOk f w m L) : ¬ Typ w m := by
  rintro ⟨_, _, h2⟩
  obtain ⟨_, _, _, h, _⟩ := h
  rw [h2] at h
  cases h

theorem find_at (f : Ent → Value) (s : List UInt8) : ∀ (l : List MapEntry) (K : List Ent) (i : Nat), l.map (fun e => (e.key, e.val)) = K.map (fun x => (Value.string (str x.s), f x)) →
    (firstOf K s = none ∧ Instr.findNow .string (.string (str s)) l i = some none) ∨ ∃ j x e, firstOf K s = some x ∧ l[j]? = some e ∧ e.key = .string (str s) ∧ e.val = f x ∧ Instr.findNow .string (.string (str s)) l i = some (some (i + j, f x))
  | [], [], _, _ => Or.inl ⟨rfl, rfl⟩
  | [], _ :: _, _, h => by simp at h
  | _ :: _, [], _, h => by simp at h
  | e :: l, x :: K, i, h => by
    simp only [List.map_cons, List.cons.injEq, Prod.mk.injEq] at h
    obtain ⟨⟨h1, h2⟩, h3⟩ := h
    have hs : Instr.sameNow .string (.string (str s)) e.key = some (s == x.s) := by rw [h1]; exact str_same s x.s
    by_cases hx : x.s = s
    · refine Or.inr ⟨0, x, e, ?_, rfl, by rw [h1, hx], h2, ?_⟩
      · unfold firstOf; rw [List.find?_cons, hx, beq_self_eq_true]
      · unfold Instr.findNow; rw [hs, hx, beq_self_eq_true, h2]; rfl
    · have hb : (x.s == s) = false := beq_eq_false_iff_ne.2 hx
      have hb2 : (s == x.s) = false := beq_eq_false_iff_ne.2 (fun e => hx e.symm)
      have hK : firstOf (x :: K) s = firstOf K s := by unfold firstOf; rw [List.find?_cons, hb]
      have hF : Instr.findNow .string (.string (str s)) (e :: l) i = Instr.findNow .string (.string (str s)) l (i + 1) := by
        conv => lhs; unfold Instr.findNow
        rw [hs, hb2]
      rw [hK, hF]
      rcases find_at f s l K (i + 1) h3 with ⟨h4, h5⟩ | ⟨j, y, e', h4, h5, h6, h7, h8⟩
      · exact Or.inl ⟨h4, h5⟩
      · exact Or.inr ⟨j + 1, y, e', h4, by simpa using h5, h6, h7, by rw [h8, Nat.add_assoc, Nat.add_comm 1 j]⟩

/-- 'v, there := m[s]'. -/
theorem MapOk.look {P : Program} {f : Ent → Value} {w : World} {m : Nat} {L : List Ent} (h : MapOk f w m L) (t k e : TypeId) (ht : P.underlying t = some (.map k e)) (hk : P.underlying k = some .string) (z : Value) (hz : (zeroValue e).run P w = .ok z w) (s : List UInt8) :
    (Instr.lookup t (.map (some m)) (.string (str s)) true).run P w = .ok (.tuple #[((firstOf L s).map f).getD z, .bool (firstOf L s).isSome]) w := by
  obtain ⟨A, c, K, h1, h2, h3⟩ := h
  have hc : (Instr.checkKey A.isEmpty 10000 k (.string (str s))).run P w = .ok () w := MapKept.run_checkKey (k := .string (str s)) hk (by simp [MapKept.IsKey]) _ 9999
  have hg := MapKept.run_getObj_map (P := P) h1
  rcases find_at f s A.toList K 0 h2 with ⟨h4, h5⟩ | ⟨j, x, e', h4, h5, h6, h7, h8⟩
  · rw [← h3, h4]
    have hf := MapKept.run_findKey (P := P) (w := w) hk h5
    simp [Instr.lookup, run_underlying ht, hg, hc, hf, hz, Result.andThen]
  · rw [← h3, h4]
    have hf := MapKept.run_findKey (P := P) (w := w) hk h8
    simp [Instr.lookup, run_underlying ht, hg, hc, hf, Result.andThen]

theorem firstOf_snoc_other (K : List Ent) (x : Ent) (s : List UInt8) (h : x.s ≠ s) : firstOf (K ++ [x]) s = firstOf K s := by
  unfold firstOf
  rw [List.find?_append]
  have : List.find? (fun y : Ent => y.s == s) [x] = none := by simp [h]
  rw [this, Option.or_none]

theorem firstOf_snoc_some {K : List Ent} {x y : Ent} {s : List UInt8} (h : firstOf K s = some y) : firstOf (K ++ [x]) s = some y := by
  unfold firstOf at h ⊢
  rw [List.find?_append, h]; rfl

theorem firstOf_snoc_none {K : List Ent} {x : Ent} (h : firstOf K x.s = none) : firstOf (K ++ [x]) x.s = some x := by
  unfold firstOf at h ⊢
  rw [List.find?_append, h]; simp

/-- 'm[s] = v', where what was there of that text is the same. -/
theorem MapOk.store {P : Program} {f : Ent → Value} {w : World} {m : Nat} {L : List Ent} (h : MapOk f w m L) (t k e : TypeId) (ht : P.underlying t = some (.map k e)) (hk : P.underlying k = some .string) (x : Ent) (hx : ∀ y, firstOf L x.s = some y → f y = f x) :
    ∃ w', (Instr.mapUpdate t (.map (some m)) (.string (str x.s)) (f x)).run P w = .ok () w' ∧ MapOk f w' m (L ++ [x]) ∧ w.grownBy w' (some m) := by
  have hlt := h.lt
  obtain ⟨A, c, K, h1, h2, h3⟩ := h
  have hc : (Instr.checkKey false 10000 k (.string (str x.s))).run P w = .ok () w := MapKept.run_checkKey (k := .string (str x.s)) hk (by simp [MapKept.IsKey]) _ 9999
  have hg := MapKept.run_getObj_map (P := P) h1
  have hgr : ∀ o : Obj, w.grownBy { w with heap := w.heap.setIfInBounds m o } (some m) := fun o => ⟨rfl, rfl, rfl, by simp, fun i _ hi => by
    have : m ≠ i := fun e => hi (by rw [e])
    simp [this]⟩
  have hsame : ∀ o : Obj, ({ w with heap := w.heap.setIfInBounds m o } : World).heap[m]? = some o := fun o => by simp [hlt]
  rcases find_at f x.s A.toList K 0 h2 with ⟨h4, h5⟩ | ⟨j, y, e', h4, h5, h6, h7, h8⟩
  · have hf := MapKept.run_findKey (P := P) (w := w) hk h5
    refine ⟨{ w with heap := w.heap.setIfInBounds m (.map (A.push { key := .string (str x.s), val := f x, born := c }) (c + 1)) }, ?_, ⟨_, _, K ++ [x], hsame _, ?_, ?_⟩, hgr _⟩
    · simp [Instr.mapUpdate, run_underlying ht, hg, hc, hf, Result.andThen, MapKept.run_setObj_map _ h1]
    · simp [h2]
    · intro s
      by_cases hs : x.s = s
      · subst hs
        rw [firstOf_snoc_none h4, firstOf_snoc_none (by rw [← h3]; exact h4)]
      · rw [firstOf_snoc_other _ _ _ hs, firstOf_snoc_other _ _ _ hs, h3]
  · have hf := MapKept.run_findKey (P := P) (w := w) hk h8
    rw [Nat.zero_add] at hf
    have hy : f y = f x := hx y (by rw [← h3]; exact h4)
    have hst : (Instr.keyThatStays (.string (str x.s)) (.string (str x.s))).run P w = .ok (.string (str x.s)) w := MapKept.run_keyThatStays (d := .string) (by simp [MapKept.IsKey])
    have hj : A[j]? = some e' := by simpa using h5
    have hmod : (A.modify j fun e => { e with key := .string (str x.s), val := f x }) = A := by
      apply Array.ext_getElem?
      intro i
      rw [Array.getElem?_modify]
      split
      · rename_i hi
        subst hi
        rw [hj]
        simp only [Option.map_some]
        rw [← h6, ← hy, ← h7]
      · rfl
    refine ⟨{ w with heap := w.heap.setIfInBounds m (.map A c) }, ?_, ⟨_, _, K, hsame _, h2, ?_⟩, hgr _⟩
    · simp [Instr.mapUpdate, run_underlying ht, hg, hc, hf, Result.andThen, MapKept.run_setObj_map _ h1, hj, h6, hst, hmod]
    · intro s
      by_cases hs : x.s = s
      · subst hs
        rw [firstOf_snoc_some (by rw [← h3]; exact h4), h4]
      · rw [firstOf_snoc_other _ _ _ hs, h3]

theorem firstOf_known (L : List Ent) (s : List UInt8) : (firstOf L s).isSome = (L.map (·.s)).contains s := by
  induction L with
  | nil => rfl
  | cons x L ih =>
    unfold firstOf at ih ⊢
    rw [List.find?_cons, List.map_cons, List.contains_cons]
    by_cases h : x.s = s
    · subst h; simp
    · rw [beq_eq_false_iff_ne.2 h, beq_eq_false_iff_ne.2 (fun e => h e.symm), Bool.false_or, ← ih]

end Go.Proofs.YtjckdgapefaokaaDoor

/- A box in memory, in words of our own; what a call may have changed of three blocks; and what outlasts that. No condition but those that each lemma names. -/
namespace Go.Proofs.YtjckdgapefaokaaDoor
open Go.RowKit

/-- Only new memory, and the blocks b, s and m. -/
structure By3 (w a : World) (b s m : Nat) : Prop where
  os : a.os = w.os
  tape : a.tape = w.tape
  output : a.output = w.output
  size : w.heap.size ≤ a.heap.size
  block : ∀ k, k < w.heap.size → k ≠ b → k ≠ s → k ≠ m → a.heap[k]? = w.heap[k]?

theorem By3.refl (w : World) (b s m : Nat) : By3 w w b s m := ⟨rfl, rfl, rfl, Nat.le_refl _, fun _ _ _ _ _ => rfl⟩

theorem By3.by {w a c : World} {b s m : Nat} {r : Option Nat} (h : By3 w a b s m) (g : a.grownBy c r) (hr : ∀ x, r = some x → w.heap.size ≤ x ∨ x = b ∨ x = s ∨ x = m) : By3 w c b s m :=
  ⟨g.os.trans h.os, g.tape.trans h.tape, g.output.trans h.output, Nat.le_trans h.size g.size, fun k hk h1 h2 h3 => by
    rw [g.block k (Nat.lt_of_lt_of_le hk h.size) (fun e => by rcases hr k e.symm with h4 | h4 | h4 | h4 <;> omega), h.block k hk h1 h2 h3]⟩

theorem By3.none {w a c : World} {b s m : Nat} (h : By3 w a b s m) (g : a.grownBy c Option.none) : By3 w c b s m := h.by g (fun _ e => by cases e)

theorem By3.trans {w a c : World} {b s m : Nat} (h : By3 w a b s m) (g : By3 a c b s m) : By3 w c b s m :=
  ⟨g.os.trans h.os, g.tape.trans h.tape, g.output.trans h.output, Nat.le_trans h.size g.size, fun k hk h1 h2 h3 => by
    rw [g.block k (Nat.lt_of_lt_of_le hk h.size) h1 h2 h3, h.block k hk h1 h2 h3]⟩

theorem by3_gb {u w a : World} {b s m : Nat} (g : u.grownBy w none) (h : By3 w a b s m) (hb : u.heap.size ≤ b) (hs : u.heap.size ≤ s) (hm : u.heap.size ≤ m) : u.grownBy a none :=
  ⟨h.os.trans g.os, h.tape.trans g.tape, h.output.trans g.output, Nat.le_trans g.size h.size, fun k hk _ => by
    rw [h.block k (Nat.lt_of_lt_of_le hk g.size) (by omega) (by omega) (by omega), g.block k hk (by simp)]⟩

/-- A key of 32 bytes; of none: zeros. -/
def padK (k : List UInt8) : List UInt8 := k ++ List.replicate (32 - k.length) 0
theorem padK_length {k : List UInt8} (h : k.length ≤ 32) : (padK k).length = 32 := by simp [padK]; omega
theorem padK_full {k : List UInt8} (h : k.length = 32) : padK k = k := by simp [padK, h]
theorem padK_nil : padK [] = List.replicate 32 0 := rfl

/-- The cells of what a sealed text is opened to: its key, what was beside it, the text. -/
def contC (x : Ent) : List Value := (padK x.k).map bv ++ [.string (str x.be), .string (str x.tx)]
def contV (x : Ent) : Value := .agg (contC x).toArray

theorem contC_length (x : Ent) (h : x.k.length ≤ 32) : (contC x).length = 34 := by simp [contC, padK_length h]
theorem contC_one (x : Ent) : ∀ v ∈ contC x, v.oneCell' = true := by
  intro v hv
  rcases List.mem_append.1 hv with h | h
  · exact bv_one _ v h
  · simp at h
    rcases h with rfl | rfl <;> rfl

/-- The cells of a box. -/
def boxC (B : BoxS) (bs bm : Nat) : List Value := [.int .i64 (B.mode : Int), .pointer (some ⟨bs, 0, none⟩), .map (some bm), .int .i64 (B.L.length : Int)]

/-- The block bb is a box, with its source and its map; all of them new since u. -/
structure BoxAt (u w : World) (bb bs bm : Nat) (B : BoxS) : Prop where
  nb : u.heap.size ≤ bb
  ns : u.heap.size ≤ bs
  nm : u.heap.size ≤ bm
  blk : Blk w bb 58 (boxC B bs bm)
  src : SrcAt w bs B.T B.u
  map : MapOk contV w bm B.L

/-- What a box keeps to. -/
structure BoxS.Ok (B : BoxS) : Prop where
  mode : B.mode = 0 ∨ B.mode = 1
  real : B.mode = 0 → ∀ x ∈ B.L, x.k = [] ∧ x.be = [] ∧ x.tx = []
  apart : B.mode = 1 → B.ss.Nodup
  keys : B.mode = 1 → ∀ x ∈ B.L, x.k.length = 32

theorem BoxAt.cell {u w : World} {bb bs bm : Nat} {B : BoxS} (h : BoxAt u w bb bs bm B) : w.cell? ⟨bb, 0, none⟩ = some (.int .i64 (B.mode : Int)) ∧ w.cell? ⟨bb, 1, none⟩ = some (.pointer (some ⟨bs, 0, none⟩)) ∧ w.cell? ⟨bb, 2, none⟩ = some (.map (some bm)) ∧ w.cell? ⟨bb, 3, none⟩ = some (.int .i64 (B.L.length : Int)) :=
  ⟨by rw [h.blk.cell]; rfl, by rw [h.blk.cell]; rfl, by rw [h.blk.cell]; rfl, by rw [h.blk.cell]; rfl⟩

theorem blk_ne {w : World} {b c : Nat} {t t' : TypeId} {x y : List Value} (h : Blk w b t x) (k : Blk w c t' y) (ht : t ≠ t') : b ≠ c := by
  rintro rfl
  unfold Blk at h k
  rw [h] at k
  injection k with k
  injection k with _ k
  exact ht k

theorem BoxAt.bs_ne {u w : World} {bb bs bm : Nat} {B : BoxS} (h : BoxAt u w bb bs bm B) : bb ≠ bs := blk_ne h.blk h.src.blk (by decide)

theorem Blk.by3 {w a : World} {p b s m : Nat} {t : TypeId} {cs : List Value} (h : Blk w p t cs) (g : By3 w a b s m) (h1 : p ≠ b) (h2 : p ≠ s) (h3 : p ≠ m) : Blk a p t cs := by
  unfold Blk; rw [g.block p h.lt h1 h2 h3]; exact h

/-- Another box stays as it is. -/
theorem BoxAt.other {u v w a : World} {cb cs cm bb bs bm : Nat} {C B : BoxS} (h : BoxAt u w cb cs cm C) (hB : BoxAt v w bb bs bm B) (g : By3 w a bb bs bm) (h1 : cb ≠ bb) (h2 : cs ≠ bs) (h3 : cm ≠ bm) : BoxAt u a cb cs cm C :=
  ⟨h.nb, h.ns, h.nm, h.blk.by3 g h1 (blk_ne h.blk hB.src.blk (by decide)) (fun e => hB.map.blk h.blk e.symm), ⟨h.src.blk.by3 g (blk_ne h.src.blk hB.blk (by decide)) h2 (fun e => hB.map.blk h.src.blk e.symm), h.src.glb⟩,
    h.map.same (g.block cm h.map.lt (h.map.blk hB.blk) (h.map.blk hB.src.blk) h3)⟩

theorem BoxAt.none {u w a : World} {bb bs bm : Nat} {B : BoxS} (h : BoxAt u w bb bs bm B) (g : w.grownBy a Option.none) : BoxAt u a bb bs bm B :=
  ⟨h.nb, h.ns, h.nm, h.blk.kept g (by simp), h.src.kept g (by simp), h.map.kept g (by simp)⟩

/-- .. and so where a row of bytes of the law's own was written. -/
theorem BoxAt.own {u w a : World} {bb bs bm base n : Nat} {B : BoxS} {v : Value} {xs : List Value} (h : BoxAt u w bb bs bm B) (hown : w.ownsRow base 5 1 v n xs) (g : w.grownBy a v.ownBlock) : BoxAt u a bb bs bm B :=
  ⟨h.nb, h.ns, h.nm, h.blk.kept g (own_apart hown h.blk (by decide)), h.src.own hown g, h.map.kept g (by
    rcases hown.2 with ⟨rfl, _⟩ | ⟨p, cap, cur, rfl, _, hh, _⟩
    · intro e; cases e
    · intro e
      have e2 : bm = p := by simpa [Value.ownBlock] using e
      subst e2
      exact h.map.typ ⟨cur, _, hh⟩)⟩

/-- Bytes outlast what a box does. -/
theorem BtT.box {u w a : World} {ao : Option Addr} {c bb bs bm : Nat} {l : List UInt8} {B : BoxS} (h : BtT w ao c l) (hB : BoxAt u w bb bs bm B) (g : By3 w a bb bs bm) : BtT a ao c l := by
  have hne : ∀ ad, ao = some ad → ad.block < w.heap.size ∧ ad.block ≠ bb ∧ ad.block ≠ bs ∧ ad.block ≠ bm := fun ad e =>
    ⟨(h.typ ad e).lt, fun e2 => hB.blk.typ (by decide) (by rw [← e2]; exact h.typ ad e), fun e2 => hB.src.blk.typ (by decide) (by rw [← e2]; exact h.typ ad e), fun e2 => hB.map.typ (by rw [← e2]; exact h.typ ad e)⟩
  have hblk : ∀ ad, ao = some ad → a.heap[ad.block]? = w.heap[ad.block]? := fun ad e => by
    obtain ⟨h1, h2, h3, h4⟩ := hne ad e
    exact g.block _ h1 h2 h3 h4
  refine ⟨⟨h.bts.zip, h.bts.fits, h.bts.most, h.bts.shape, fun ad e i hi => ?_⟩, fun ad e => ?_⟩
  · have := h.bts.cell ad e i hi
    rw [World.cell?_of_block (w := w) (w' := a) (a := ⟨ad.block, ad.off + i, Option.none⟩) (hblk ad e)]
    exact this
  · obtain ⟨cur, m, hh⟩ := h.typ ad e
    exact ⟨cur, m, by rw [hblk ad e]; exact hh⟩

/-- Bytes that were there before the box was made. -/
theorem Bts.old {u w : World} {ao : Option Addr} {c : Nat} {l : List UInt8} (h : Bts u ao c l) (g : u.grownBy w Option.none) : Bts w ao c l := h.kept g (fun _ e => by cases e)

theorem own_by3 {u w a : World} {bb bs bm base n : Nat} {B : BoxS} {v : Value} {xs : List Value} (hown : w.ownsRow base 5 1 v n xs) (hB : BoxAt u w bb bs bm B) (g : By3 w a bb bs bm) : a.ownsRow base 5 1 v n xs := by
  refine ⟨hown.1, ?_⟩
  rcases hown.2 with ⟨h1, h2⟩ | ⟨p, cap, cur, hv, hg, hh, hr⟩
  · exact Or.inl ⟨h1, h2⟩
  · have ht : Typ w p := ⟨cur, _, hh⟩
    exact Or.inr ⟨p, cap, cur, hv, hg, by
      rw [g.block p ht.lt (fun e => hB.blk.typ (by decide) (by rw [← e]; exact ht)) (fun e => hB.src.blk.typ (by decide) (by rw [← e]; exact ht)) (fun e => hB.map.typ (by rw [← e]; exact ht))]; exact hh, hr⟩

theorem known_first (B : BoxS) (s : List UInt8) : B.known s = (firstOf B.L s).isSome := by rw [firstOf_known]; rfl

theorem BoxS.Ok.seal {B : BoxS} (h : B.Ok) (k be tx : List UInt8) (hk : k.length = 32) : (B.seal k be tx).1.Ok := by
  rcases h.mode with hm | hm
  · unfold BoxS.seal
    rw [if_pos hm]
    refine ⟨Or.inl hm, fun _ x hx => ?_, fun e => absurd (hm.symm.trans e) (by omega), fun e => absurd (hm.symm.trans e) (by omega)⟩
    rcases List.mem_append.1 hx with hx | hx
    · exact h.real hm x hx
    · rw [List.mem_singleton.1 hx]; exact ⟨rfl, rfl, rfl⟩
  · unfold BoxS.seal
    rw [if_neg (by omega)]
    have hkeys : ∀ (n : Nat) (b : BoxS), (∀ x ∈ b.L, x.k.length = 32) → ∀ x ∈ (b.tries k be tx n).1.L, x.k.length = 32 := by
      intro n
      induction n with
      | zero => exact fun b hb => hb
      | succ n ih =>
        intro b hb
        unfold BoxS.tries
        split
        · exact ih _ hb
        · intro x hx
          rcases List.mem_append.1 hx with hx | hx
          · exact hb x hx
          · rw [List.mem_singleton.1 hx]; exact hk
    have h1 := BoxS.tries_kept k be tx 8 B
    exact ⟨Or.inr (h1.1.trans hm), fun e => absurd (h1.1.symm.trans e) (by omega), fun _ => BoxS.tries_nodup k be tx 8 B (h.apart hm), fun _ => hkeys 8 B (h.keys hm)⟩

end Go.Proofs.YtjckdgapefaokaaDoor
