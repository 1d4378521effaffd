/- A map by sealed texts, in words of our own: what a look-up tells, and what a store leaves. No condition but those that each lemma names. -/
import Derived.Test.YtjckdgapefaokaaDoorBMath
import Derived.Test.YtjckdgapefaokaaDoorDPut
import Derived.Test.YtjckdgapefaokaaDoorKEqual
import Derived.MapKept
import Derived.Carry
import Derived.Test.YtjckdgapefaokaaDoorCofA
import Derived.Test.YtjckdgapefaokaaDoorMApp
namespace Go.Proofs.YtjckdgapefaokaaDoor
open Go.RowKit

theorem str_inj {a b : List UInt8} : str a = str b ↔ a = b := by
  constructor
  · intro h
    have := congrArg ByteArray.toList h
    rwa [str_list, str_list] at this
  · intro h; rw [h]

theorem str_same (a b : List UInt8) : Instr.sameNow .string (.string (str a)) (.string (str b)) = some (a == b) := by
  obtain ⟨r, h1, h2⟩ := MapKept.sameNow_of_keys (d := .string) (a := .string (str a)) (b := .string (str b)) (by simp [MapKept.IsKey]) (by simp [MapKept.IsKey])
  rw [h1]
  by_cases h : a = b
  · subst h; rw [h2.2 rfl]; simp
  · have : r = false := by
      cases r with
      | false => rfl
      | true => have := h2.1 rfl; injection this with this; exact absurd (str_inj.1 this) h
    rw [this, beq_eq_false_iff_ne.2 h]

/-- The first one that was sealed so. -/
def firstOf (L : List Ent) (s : List UInt8) : Option Ent := L.find? fun x => x.s == s

/-- The block m is a map: by each sealed text that of the first entry of L that was sealed so. -/
def MapOk (f : Ent → Value) (w : World) (m : Nat) (L : List Ent) : Prop :=
  ∃ A clock K, w.heap[m]? = some (.map A clock) ∧ A.toList.map (fun e => (e.key, e.val)) = K.map (fun x => (Value.string (str x.s), f x)) ∧ ∀ s, firstOf K s = firstOf L s

theorem MapOk.lt {f : Ent → Value} {w : World} {m : Nat} {L : List Ent} (h : MapOk f w m L) : m < w.heap.size := by
  obtain ⟨_, _, _, h, _⟩ := h
  exact (Array.getElem?_eq_some_iff.1 h).1

theorem MapOk.same {f : Ent → Value} {w a : World} {m : Nat} {L : List Ent} (h : MapOk f w m L) (g : a.heap[m]? = w.heap[m]?) : MapOk f a m L := by
  obtain ⟨A, c, K, h1, h2⟩ := h
  exact ⟨A, c, K, by rw [g]; exact h1, h2⟩

theorem MapOk.kept {f : Ent → Value} {w a : World} {m : Nat} {L : List Ent} {r : Option Nat} (h : MapOk f w m L) (g : w.grownBy a r) (hr : some m ≠ r) : MapOk f a m L := h.same (g.block m h.lt hr)

theorem MapOk.new (f : Ent → Value) (w : World) : MapOk f (w.alloc (.map #[] 0)) w.heap.size [] := ⟨#[], 0, [], heap_alloc_new w _, rfl, fun _ => rfl⟩

theorem MapOk.blk {f : Ent → Value} {w : World} {m b : Nat} {L : List Ent} {t : TypeId} {cs : List Value} (h : MapOk f w m L) (hb : Blk w b t cs) : m ≠ b := by
  rintro rfl
  obtain ⟨_, _, _, h, _⟩ := h
  unfold Blk at hb
  rw [hb] at h
  cases h

theorem MapOk.typ {f : Ent → Value} {w : World} {m : Nat} {L : List Ent} (h : MapOk f w m L) : ¬ Typ w m := by
  rintro ⟨_, _, h2⟩
  obtain ⟨_, _, _, h, _⟩ := h
  rw [h2] at h
  cases h

theorem find_at (f : Ent → Value) (s : List UInt8) : ∀ (l : List MapEntry) (K : List Ent) (i : Nat), l.map (fun e => (e.key, e.val)) = K.map (fun x => (Value.string (str x.s), f x)) →
    (firstOf K s = none ∧ Instr.findNow .string (.string (str s)) l i = some none) ∨ ∃ j x e, firstOf K s = some x ∧ l[j]? = some e ∧ e.key = .string (str s) ∧ e.val = f x ∧ Instr.findNow .string (.string (str s)) l i = some (some (i + j, f x))
  | [], [], _, _ => Or.inl ⟨rfl, rfl⟩
  | [], _ :: _, _, h => by simp at h
  | _ :: _, [], _, h => by simp at h
  | e :: l, x :: K, i, h => by
    simp only [List.map_cons, List.cons.injEq, Prod.mk.injEq] at h
    obtain ⟨⟨h1, h2⟩, h3⟩ := h
    have hs : Instr.sameNow .string (.string (str s)) e.key = some (s == x.s) := by rw [h1]; exact str_same s x.s
    by_cases hx : x.s = s
    · refine Or.inr ⟨0, x, e, ?_, rfl, by rw [h1, hx], h2, ?_⟩
      · unfold firstOf; rw [List.find?_cons, hx, beq_self_eq_true]
      · unfold Instr.findNow; rw [hs, hx, beq_self_eq_true, h2]; rfl
    · have hb : (x.s == s) = false := beq_eq_false_iff_ne.2 hx
      have hb2 : (s == x.s) = false := beq_eq_false_iff_ne.2 (fun e => hx e.symm)
      have hK : firstOf (x :: K) s = firstOf K s := by unfold firstOf; rw [List.find?_cons, hb]
      have hF : Instr.findNow .string (.string (str s)) (e :: l) i = Instr.findNow .string (.string (str s)) l (i + 1) := by
        conv => lhs; unfold Instr.findNow
        rw [hs, hb2]
      rw [hK, hF]
      rcases find_at f s l K (i + 1) h3 with ⟨h4, h5⟩ | ⟨j, y, e', h4, h5, h6, h7, h8⟩
      · exact Or.inl ⟨h4, h5⟩
      · exact Or.inr ⟨j + 1, y, e', h4, by simpa using h5, h6, h7, by rw [h8, Nat.add_assoc, Nat.add_comm 1 j]⟩

/-- 'v, there := m[s]'. -/
theorem MapOk.look {P : Program} {f : Ent → Value} {w : World} {m : Nat} {L : List Ent} (h : MapOk f w m L) (t k e : TypeId) (ht : P.underlying t = some (.map k e)) (hk : P.underlying k = some .string) (z : Value) (hz : (zeroValue e).run P w = .ok z w) (s : List UInt8) :
    (Instr.lookup t (.map (some m)) (.string (str s)) true).run P w = .ok (.tuple #[((firstOf L s).map f).getD z, .bool (firstOf L s).isSome]) w := by
  obtain ⟨A, c, K, h1, h2, h3⟩ := h
  have hc : (Instr.checkKey A.isEmpty 10000 k (.string (str s))).run P w = .ok () w := MapKept.run_checkKey (k := .string (str s)) hk (by simp [MapKept.IsKey]) _ 9999
  have hg := MapKept.run_getObj_map (P := P) h1
  rcases find_at f s A.toList K 0 h2 with ⟨h4, h5⟩ | ⟨j, x, e', h4, h5, h6, h7, h8⟩
  · rw [← h3, h4]
    have hf := MapKept.run_findKey (P := P) (w := w) hk h5
    simp [Instr.lookup, run_underlying ht, hg, hc, hf, hz, Result.andThen]
  · rw [← h3, h4]
    have hf := MapKept.run_findKey (P := P) (w := w) hk h8
    simp [Instr.lookup, run_underlying ht, hg, hc, hf, Result.andThen]

theorem firstOf_snoc_other (K : List Ent) (x : Ent) (s : List UInt8) (h : x.s ≠ s) : firstOf (K ++ [x]) s = firstOf K s := by
  unfold firstOf
  rw [List.find?_append]
  have : List.find? (fun y : Ent => y.s == s) [x] = none := by simp [h]
  rw [this, Option.or_none]

theorem firstOf_snoc_some {K : List Ent} {x y : Ent} {s : List UInt8} (h : firstOf K s = some y) : firstOf (K ++ [x]) s = some y := by
  unfold firstOf at h ⊢
  rw [List.find?_append, h]; rfl

theorem firstOf_snoc_none {K : List Ent} {x : Ent} (h : firstOf K x.s = none) : firstOf (K ++ [x]) x.s = some x := by
  unfold firstOf at h ⊢
  rw [List.find?_append, h]; simp

/-- 'm[s] = v', where what was there of that text is the same. -/
theorem MapOk.store {P : Program} {f : Ent → Value} {w : World} {m : Nat} {L : List Ent} (h : MapOk f w m L) (t k e : TypeId) (ht : P.underlying t = some (.map k e)) (hk : P.underlying k = some .string) (x : Ent) (hx : ∀ y, firstOf L x.s = some y → f y = f x) :
    ∃ w', (Instr.mapUpdate t (.map (some m)) (.string (str x.s)) (f x)).run P w = .ok () w' ∧ MapOk f w' m (L ++ [x]) ∧ w.grownBy w' (some m) := by
  have hlt := h.lt
  obtain ⟨A, c, K, h1, h2, h3⟩ := h
  have hc : (Instr.checkKey false 10000 k (.string (str x.s))).run P w = .ok () w := MapKept.run_checkKey (k := .string (str x.s)) hk (by simp [MapKept.IsKey]) _ 9999
  have hg := MapKept.run_getObj_map (P := P) h1
  have hgr : ∀ o : Obj, w.grownBy { w with heap := w.heap.setIfInBounds m o } (some m) := fun o => ⟨rfl, rfl, rfl, by simp, fun i _ hi => by
    have : m ≠ i := fun e => hi (by rw [e])
    simp [this]⟩
  have hsame : ∀ o : Obj, ({ w with heap := w.heap.setIfInBounds m o } : World).heap[m]? = some o := fun o => by simp [hlt]
  rcases find_at f x.s A.toList K 0 h2 with ⟨h4, h5⟩ | ⟨j, y, e', h4, h5, h6, h7, h8⟩
  · have hf := MapKept.run_findKey (P := P) (w := w) hk h5
    refine ⟨{ w with heap := w.heap.setIfInBounds m (.map (A.push { key := .string (str x.s), val := f x, born := c }) (c + 1)) }, ?_, ⟨_, _, K ++ [x], hsame _, ?_, ?_⟩, hgr _⟩
    · simp [Instr.mapUpdate, run_underlying ht, hg, hc, hf, Result.andThen, MapKept.run_setObj_map _ h1]
    · simp [h2]
    · intro s
      by_cases hs : x.s = s
      · subst hs
        rw [firstOf_snoc_none h4, firstOf_snoc_none (by rw [← h3]; exact h4)]
      · rw [firstOf_snoc_other _ _ _ hs, firstOf_snoc_other _ _ _ hs, h3]
  · have hf := MapKept.run_findKey (P := P) (w := w) hk h8
    rw [Nat.zero_add] at hf
    have hy : f y = f x := hx y (by rw [← h3]; exact h4)
    have hst : (Instr.keyThatStays (.string (str x.s)) (.string (str x.s))).run P w = .ok (.string (str x.s)) w := MapKept.run_keyThatStays (d := .string) (by simp [MapKept.IsKey])
    have hj : A[j]? = some e' := by simpa using h5
    have hmod : (A.modify j fun e => { e with key := .string (str x.s), val := f x }) = A := by
      apply Array.ext_getElem?
      intro i
      rw [Array.getElem?_modify]
      split
      · rename_i hi
        subst hi
        rw [hj]
        simp only [Option.map_some]
        rw [← h6, ← hy, ← h7]
      · rfl
    refine ⟨{ w with heap := w.heap.setIfInBounds m (.map A c) }, ?_, ⟨_, _, K, hsame _, h2, ?_⟩, hgr _⟩
    · simp [Instr.mapUpdate, run_underlying ht, hg, hc, hf, Result.andThen, MapKept.run_setObj_map _ h1, hj, h6, hst, hmod]
    · intro s
      by_cases hs : x.s = s
      · subst hs
        rw [firstOf_snoc_some (by rw [← h3]; exact h4), h4]
      · rw [firstOf_snoc_other _ _ _ hs, h3]

theorem firstOf_known (L : List Ent) (s : List UInt8) : (firstOf L s).isSome = (L.map (·.s)).contains s := by
  induction L with
  | nil => rfl
  | cons x L ih =>
    unfold firstOf at ih ⊢
    rw [List.find?_cons, List.map_cons, List.contains_cons]
    by_cases h : x.s = s
    · subst h; simp
    · rw [beq_eq_false_iff_ne.2 h, beq_eq_false_iff_ne.2 (fun e => h e.symm), Bool.false_or, ← ih]

end Go.Proofs.YtjckdgapefaokaaDoor

/- What outlasts a step of a law over draws: sources, bytes, and rows of the law's own. No condition but those that each lemma names. -/
namespace Go.Proofs.YtjckdgapefaokaaDoor
open Go.RowKit

/-- Bytes in a block of bytes. -/
structure BtT (w : World) (ao : Option Addr) (c : Nat) (l : List UInt8) : Prop where
  bts : Bts w ao c l
  typ : ∀ ad, ao = some ad → Typ w ad.block

theorem src_typ {w : World} {b : Nat} {T : List UInt8} {u : Nat} (h : SrcAt w b T u) : ¬ Typ w b := h.blk.typ (by decide)

theorem BtT.none {w a : World} {ao : Option Addr} {c : Nat} {l : List UInt8} (h : BtT w ao c l) (g : w.grownBy a none) : BtT a ao c l :=
  ⟨h.bts.kept g (fun _ e => by cases e), fun ad e => (h.typ ad e).kept g (by simp)⟩

theorem BtT.src {w a : World} {ao : Option Addr} {c b u : Nat} {l T : List UInt8} (h : BtT w ao c l) (hS : SrcAt w b T u) (g : w.grownBy a (some b)) : BtT a ao c l :=
  ⟨h.bts.kept g (fun x e ad e2 e3 => by cases e; exact src_typ hS (by rw [← e3]; exact h.typ ad e2)), fun ad e => (h.typ ad e).kept g (fun e2 => by cases e2; exact src_typ hS (h.typ ad e))⟩

theorem BtT.own {w a : World} {ao : Option Addr} {c base n : Nat} {l : List UInt8} {v : Value} {xs : List Value} (h : BtT w ao c l) (hlt : ∀ ad, ao = some ad → ad.block < base) (hown : w.ownsRow base 5 1 v n xs) (g : w.grownBy a v.ownBlock) : BtT a ao c l :=
  ⟨h.bts.kept g (fun x e ad e2 e3 => by have := (hown.lt x e).1; have := hlt ad e2; omega), fun ad e => (h.typ ad e).kept g (fun e2 => by have := (hown.lt _ e2.symm).1; have := hlt ad e; omega)⟩

theorem BtT.lt {w : World} {ao : Option Addr} {c : Nat} {l : List UInt8} (h : BtT w ao c l) : ∀ ad, ao = some ad → ad.block < w.heap.size := fun ad e => (h.typ ad e).lt

theorem SrcAt.own {w a : World} {b base n u : Nat} {T : List UInt8} {v : Value} {xs : List Value} (h : SrcAt w b T u) (hown : w.ownsRow base 5 1 v n xs) (g : w.grownBy a v.ownBlock) : SrcAt a b T u :=
  h.kept g (own_apart hown h.blk (by decide))

theorem own_src {w a : World} {b base n u : Nat} {T : List UInt8} {v : Value} {xs : List Value} (hown : w.ownsRow base 5 1 v n xs) (h : SrcAt w b T u) (g : w.grownBy a (some b)) : a.ownsRow base 5 1 v n xs :=
  hown.kept g (Or.inr (fun e => own_apart hown h.blk (by decide) e.symm))

theorem ts {x y z : World} {b : Nat} (hb : x.heap.size ≤ b) (h : x.grownBy y Option.none) (k : y.grownBy z (some b)) : x.grownBy z Option.none := gb_trans h k (fun _ e => by cases e; exact Or.inl hb)

theorem tn {x y z : World} {r : Option Nat} (h : x.grownBy y r) (k : y.grownBy z Option.none) : x.grownBy z r := gb_trans h k (fun _ e => by cases e)

theorem own_btT {w : World} {base n : Nat} {v : Value} {l : List UInt8} (h : w.ownsRow base 5 1 v n (l.map bv)) : ∃ ao c, v = .slice ao l.length c ∧ BtT w ao c l := by
  have hn : n = l.length := by simpa using h.1.symm
  subst hn
  rcases h.2 with ⟨rfl, h0⟩ | ⟨g, cap, cur, rfl, _⟩
  · have : l = [] := List.eq_nil_of_length_eq_zero h0
    subst this
    exact ⟨Option.none, 0, rfl, Bts.nil _, fun _ e => by cases e⟩
  · exact ⟨_, _, rfl, (Bts.own h).2.2, fun ad e => by cases e; exact Typ.own h⟩

theorem lst_single {w : World} {N : Nat} {xo : Option Addr} {c : Nat} {x : List UInt8} (hB : Blk w N 22 [.slice xo x.length c]) (hx : Bts w xo c x) : Lst w (some ⟨N, 0, Option.none⟩) 1 [x] := by
  refine ⟨(fun e => by cases e), by simp, by decide, (fun ad e _ => by cases e; rfl), (fun ad e i hi => ?_)⟩
  cases e
  show ∃ ao c, w.cell? ⟨N, 0 + i, Option.none⟩ = _ ∧ _
  match i, hi with
  | 0, _ => exact ⟨xo, c, by rw [hB.cell]; rfl, hx⟩

theorem alloc_one (w2 : World) (x : Value) : ∃ W3, W3 = w2.alloc (.cells #[x] 22) ∧ Blk W3 w2.heap.size 22 [x] ∧ w2.grownBy W3 Option.none :=
  ⟨_, rfl, Blk.new w2 22 _, gb_alloc (gb_refl _ _) _⟩

/-- Take, as a law meets it. -/
theorem take_law (w : World) (b : Nat) (T : List UInt8) (us n : Nat) (h : SrcAt w b T us) (hT : Tabs w) (hn : n ≤ 65536) (hus : us ≤ 70368744177664) :
    Calls Tryd.prog 22 #[.pointer (some ⟨b, 0, Option.none⟩), .int .i64 (n : Int)] w fun e w' => ∃ ao c, e = .returned (.slice ao n c) ∧ BtT w' ao c (told T us n) ∧ SrcAt w' b T (us + n) ∧ w.grownBy w' (some b) := by
  by_cases h0 : n = 0
  · subst h0
    refine (take_few w b ((0 : Nat) : Int) (by omega)).mono ?_
    rintro e w' ⟨rfl, rfl⟩
    exact ⟨Option.none, 0, rfl, ⟨Bts.nil _, fun _ e => by cases e⟩, h, gb_refl _ _⟩
  · refine (take_some w b T us n h.fit hT (by omega) hn hus).mono ?_
    rintro e w' ⟨g, rfl, hg, hB, hS, gg⟩
    exact ⟨_, _, rfl, ⟨blk_bytes hB n (by rw [told_length]; exact Nat.le_refl _) (by unfold maxLen; omega), (fun ad e => by cases e; exact ⟨_, _, hB⟩)⟩, hS, gg⟩

/-- Two arrays held against each other, at a step of a region that draws its order. -/
theorem yieldsIf_same {P : Program} {ops : Array Oper} {S : World → Prop} {op : Oper} {a : Act} (hw : Region.wanted op (yielded ops a.tmps) = true) (t t' : TypeId) (x y : Operand) (ho : op.op = .binOp .eql t x y t') (X Z : Array Value) (r : Bool)
    (hx : a.eval x = .agg X) (hy : a.eval y = .agg Z) (hm : P.eqGuardType P.depth t = false) (hq : ∀ w : World, (binOp .eql t (.agg X) (.agg Z)).run P w = .ok (.bool r) w) : YieldsIf P ops S op (.bool r) a :=
  .inl ⟨hw, fun w _ => by
    unfold execOp
    simp only [ho, hx, hy, Sem.run_bind, run_eqGuard_agg w .eql t x y X Z hm, hq, Result.andThen_ok]
    rfl⟩
/-- An array that is built of what is known, at such a step. -/
theorem yieldsIf_built {P : Program} {ops : Array Oper} {S : World → Prop} {op : Oper} {a : Act} (hw : Region.wanted op (yielded ops a.tmps) = true) (t : TypeId) (parts : Array (Nat × Operand)) (ho : op.op = .build t parts) (cells : Array Value)
    (hf : P.built t (parts.map fun (i, x) => (i, a.eval x)).toList = some cells) : YieldsIf P ops S op (.agg cells) a :=
  .inl ⟨hw, fun w _ => by
    unfold execOp
    simp only [ho, Sem.run_bind, run_build w t _ cells hf, Result.andThen_ok]
    rfl⟩

theorem eql_keys (w : World) (xs : List UInt8) (hx : xs.length = 32) : (binOp .eql 37 (.agg (xs.map bv).toArray) (.agg (xs.map bv).toArray)).run Tryd.prog w = .ok (.bool true) w := by
  have := run_eql_bytes w 37 5 32 Tryd.underlying37 Tryd.underlying5 size_byte xs xs hx hx
  rw [beq_self_eq_true] at this
  exact this
theorem guard_key : Tryd.prog.eqGuardType Tryd.prog.depth 37 = false := by kernel_rfl
theorem built_key0 : Tryd.prog.built 37 [] = some ((List.replicate 32 (0 : UInt8)).map bv).toArray := by kernel_rfl

theorem and_mask (M : Nat) (hM : M < 65536) (a : Int) : ∃ j : Nat, j ≤ M ∧ bits .and .i64 a (M : Int) = (j : Int) := by
  have hm : (BitVec.ofInt 64 (M : Int)).toNat = M := by rw [BitVec.toNat_ofInt]; omega
  have h : (BitVec.ofInt 64 a &&& BitVec.ofInt 64 (M : Int)).toNat ≤ M := by
    rw [BitVec.toNat_and, hm]
    exact Nat.and_le_right
  refine ⟨(BitVec.ofInt 64 a &&& BitVec.ofInt 64 (M : Int)).toNat, h, ?_⟩
  show IntKind.i64.wrap (((BitVec.ofInt 64 a &&& BitVec.ofInt 64 (M : Int)).toNat : Nat) : Int) = _
  rw [IntKind.wrap_i64]
  omega

end Go.Proofs.YtjckdgapefaokaaDoor
