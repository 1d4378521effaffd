/- Names that rise, sets of objects by their names, and what is reached, as functions of lists. No condition but those that each lemma names. -/
import Derived.Test.YtlifmipnoeioaaaGreatDoorOTell
import Derived.Test.YtlifmipnoeioaaaGreatDoorSMath
import Derived.Test.YtlifmipnoeioaaaGreatDoorMStr
import Derived.Test.YtlifmipnoeioaaaGreatDoorMBlk
import Derived.Test.YtlifmipnoeioaaaGreatDoorOData
import Derived.MapKept
import Derived.Carry
import Derived.Stop.BytesEq
import GoSem.Builtin.Delete
import GoSem.Extern.MapsClone
namespace Go.Proofs.YtlifmipnoeioaaaGreatDoor
open Go.RowKit

/-- Names that rise. -/
def Ris (l : List (List UInt8)) : Prop := l.Pairwise fun a b => lessL a b = true

theorem less_ne {a b : List UInt8} (h : lessL a b = true) : a ≠ b := by
  rintro rfl
  rw [lessL_irr] at h
  cases h
theorem Ris.nodup {l : List (List UInt8)} (h : Ris l) : l.Nodup := List.Pairwise.imp less_ne h
theorem Ris.filter {l : List (List UInt8)} (h : Ris l) (p : List UInt8 → Bool) : Ris (l.filter p) := List.Pairwise.filter p h
theorem Ris.cons {x : List UInt8} {l : List (List UInt8)} (h : Ris (x :: l)) : (∀ y ∈ l, lessL x y = true) ∧ Ris l := List.pairwise_cons.1 h
/-- Two lists of names that rise, with the same names, are one. -/
theorem Ris.ext : ∀ {a b : List (List UInt8)}, Ris a → Ris b → (∀ x, x ∈ a ↔ x ∈ b) → a = b
  | [], [], _, _, _ => rfl
  | [], y :: b, _, _, h => absurd ((h y).2 (by simp)) (by simp)
  | x :: a, [], _, _, h => absurd ((h x).1 (by simp)) (by simp)
  | x :: a, y :: b, ha, hb, h => by
    have hxy : x = y := by
      rcases List.mem_cons.1 ((h x).1 (by simp)) with h1 | h1
      · exact h1
      · rcases List.mem_cons.1 ((h y).2 (by simp)) with h2 | h2
        · exact h2.symm
        · have h3 := lessL_asymm _ _ (hb.cons.1 x h1)
          rw [ha.cons.1 y h2] at h3
          cases h3
    subst hxy
    rw [Ris.ext ha.cons.2 hb.cons.2 fun z => ?_]
    constructor
    · intro hz
      rcases List.mem_cons.1 ((h z).1 (by simp [hz])) with h1 | h1
      · exact absurd h1.symm (less_ne (ha.cons.1 z hz))
      · exact h1
    · intro hz
      rcases List.mem_cons.1 ((h z).2 (by simp [hz])) with h1 | h1
      · exact absurd h1.symm (less_ne (hb.cons.1 z hz))
      · exact h1

theorem nodup_le {α : Type} [DecidableEq α] : ∀ {K U : List α}, K.Nodup → (∀ x ∈ K, x ∈ U) → K.length ≤ U.length
  | [], _, _, _ => Nat.zero_le _
  | x :: K, U, hn, h => by
    have hc := List.nodup_cons.1 hn
    have hx := h x (by simp)
    have h1 : K.length ≤ (U.erase x).length := nodup_le hc.2 fun y hy => (List.mem_erase_of_ne (fun e => hc.1 (by rw [← e]; exact hy))).2 (h y (by simp [hy]))
    have h2 := List.length_erase_of_mem hx
    have h3 : 0 < U.length := List.length_pos_of_mem hx
    rw [List.length_cons]
    omega

/-- What is reached from some names. -/
inductive Rch (nx : List UInt8 → List (List UInt8)) (R : List (List UInt8)) : List UInt8 → Prop
  | root {x : List UInt8} : x ∈ R → Rch nx R x
  | next {x y : List UInt8} : Rch nx R x → y ∈ nx x → Rch nx R y

theorem Rch.mono {nx : List UInt8 → List (List UInt8)} {R Q : List (List UInt8)} (h : ∀ x ∈ R, Rch nx Q x) {x : List UInt8} (hx : Rch nx R x) : Rch nx Q x := by
  induction hx with
  | root hm => exact h _ hm
  | next _ hm ih => exact .next ih hm
theorem Rch.more {nx : List UInt8 → List (List UInt8)} {R Q : List (List UInt8)} (h : ∀ x ∈ R, x ∈ Q) {x : List UInt8} (hx : Rch nx R x) : Rch nx Q x := hx.mono fun x hm => .root (h x hm)
theorem Rch.none {nx : List UInt8 → List (List UInt8)} {x : List UInt8} (hx : Rch nx [] x) : False := by
  induction hx with
  | root h => simp at h
  | next _ _ ih => exact ih
theorem Rch.to {nx my : List UInt8 → List (List UInt8)} {R : List (List UInt8)} (h : ∀ x, Rch nx R x → nx x = my x) {x : List UInt8} (hx : Rch nx R x) : Rch my R x := by
  induction hx with
  | root hm => exact .root hm
  | next h1 hm ih => exact .next ih (by rw [← h _ h1]; exact hm)
/-- A list that has the roots, and with a name all that it leads to, has all that is reached. -/
theorem Rch.in {nx : List UInt8 → List (List UInt8)} {R : List (List UInt8)} {p : List UInt8 → Prop} (h0 : ∀ x ∈ R, p x) (h1 : ∀ x, p x → ∀ y ∈ nx x, p y) {x : List UInt8} (hx : Rch nx R x) : p x := by
  induction hx with
  | root hm => exact h0 _ hm
  | next _ hm ih => exact h1 _ ih _ hm

/-- An object of a set. -/
structure ObE where
  id : List UInt8
  k : Int
  d : List UInt8
deriving Inhabited, DecidableEq

def lkS (S : List ObE) (x : List UInt8) : Option ObE := S.find? fun e => e.id == x
def hasS (S : List ObE) (x : List UInt8) : Bool := (lkS S x).isSome
def idsS (S : List ObE) : List (List UInt8) := S.map (·.id)
def nxO (o : Option ObE) : List (List UInt8) := match o with | some e => linksL e.k e.d | .none => []
def prO (o : Option ObE) : List (List UInt8) := match o with | some e => (telC e.k e.d).2.pars | .none => []
def nxS (S : List ObE) (x : List UInt8) : List (List UInt8) := nxO (lkS S x)
def prS (S : List ObE) (x : List UInt8) : List (List UInt8) := prO (lkS S x)

theorem hasS_mem (S : List ObE) (x : List UInt8) : hasS S x = true ↔ x ∈ idsS S := by
  unfold hasS lkS idsS
  rw [List.find?_isSome]
  constructor
  · rintro ⟨e, he, h⟩
    exact List.mem_map.2 ⟨e, he, by simpa using h⟩
  · intro h
    obtain ⟨e, he, rfl⟩ := List.mem_map.1 h
    exact ⟨e, he, by simp⟩
theorem lkS_mem {S : List ObE} {x : List UInt8} {e : ObE} (h : lkS S x = some e) : e ∈ S ∧ e.id = x := by
  unfold lkS at h
  exact ⟨List.mem_of_find?_eq_some h, by simpa using List.find?_some h⟩
theorem lkS_some {S : List ObE} (hn : (idsS S).Nodup) {e : ObE} (he : e ∈ S) : lkS S e.id = some e := by
  induction S with
  | nil => simp at he
  | cons a S ih =>
    unfold lkS
    rw [List.find?_cons]
    have hn' := List.nodup_cons.1 hn
    rcases List.mem_cons.1 he with rfl | h
    · simp
    · have : (a.id == e.id) = false := beq_eq_false_iff_ne.2 fun h2 => hn'.1 (by
        show a.id ∈ List.map (·.id) S
        rw [h2]; exact List.mem_map.2 ⟨e, h, rfl⟩)
      rw [this]
      exact ih hn'.2 h
theorem lkS_none {S : List ObE} {x : List UInt8} (h : x ∉ idsS S) : lkS S x = none := by
  cases hl : lkS S x with
  | none => rfl
  | some e => exact absurd (by obtain ⟨h1, rfl⟩ := lkS_mem hl; exact List.mem_map.2 ⟨e, h1, rfl⟩) h
theorem lkS_isNone {S : List ObE} {x : List UInt8} (h : lkS S x = none) : x ∉ idsS S := fun hm => by
  have := (hasS_mem S x).2 hm
  unfold hasS at this
  rw [h] at this
  cases this
/-- Two sets of the same objects, by names that are there once, tell the same. -/
theorem lkS_same {S T : List ObE} (hS : (idsS S).Nodup) (hT : (idsS T).Nodup) (h : ∀ e, e ∈ S ↔ e ∈ T) (x : List UInt8) : lkS S x = lkS T x := by
  cases hl : lkS S x with
  | none =>
    refine (lkS_none fun hm => ?_).symm
    obtain ⟨e, he, rfl⟩ := List.mem_map.1 hm
    rw [lkS_some hS ((h e).2 he)] at hl
    cases hl
  | some e =>
    obtain ⟨h1, rfl⟩ := lkS_mem hl
    exact (lkS_some hT ((h e).1 h1)).symm

/-- One more object, or another one of its name. -/
def putS : List ObE → ObE → List ObE
  | [], e => [e]
  | x :: l, e => if lessL x.id e.id = true then x :: putS l e else if x.id = e.id then e :: l else e :: x :: l
/-- All but one. -/
def dropS (S : List ObE) (x : List UInt8) : List ObE := S.filter fun e => e.id != x

theorem putS_mem {S : List ObE} (h : Ris (idsS S)) (e y : ObE) : y ∈ putS S e ↔ y = e ∨ (y ∈ S ∧ y.id ≠ e.id) := by
  induction S with
  | nil => simp [putS]
  | cons x l ih =>
    have hc := Ris.cons h
    have ih := ih hc.2
    unfold putS
    split
    · rename_i hl
      have hne := less_ne hl
      simp only [List.mem_cons, ih]
      constructor
      · rintro (rfl | rfl | ⟨h1, h2⟩)
        · exact Or.inr ⟨Or.inl rfl, hne⟩
        · exact Or.inl rfl
        · exact Or.inr ⟨Or.inr h1, h2⟩
      · rintro (rfl | ⟨rfl | h1, h2⟩)
        · exact Or.inr (Or.inl rfl)
        · exact Or.inl rfl
        · exact Or.inr (Or.inr ⟨h1, h2⟩)
    · rename_i hl
      have hgt : ∀ y ∈ l, y.id ≠ x.id := fun y hy e2 => less_ne (hc.1 y.id (List.mem_map.2 ⟨y, hy, rfl⟩)) e2.symm
      split
      · rename_i he
        simp only [List.mem_cons]
        constructor
        · rintro (rfl | h1)
          · exact Or.inl rfl
          · exact Or.inr ⟨Or.inr h1, by rw [← he]; exact hgt y h1⟩
        · rintro (rfl | ⟨rfl | h1, h2⟩)
          · exact Or.inl rfl
          · exact absurd he h2
          · exact Or.inr h1
      · rename_i he
        have hlt : lessL e.id x.id = true := by
          cases h3 : lessL e.id x.id with
          | true => rfl
          | false => exact absurd (lessL_total _ _ (by simpa using hl) h3) he
        simp only [List.mem_cons]
        constructor
        · rintro (rfl | rfl | h1)
          · exact Or.inl rfl
          · exact Or.inr ⟨Or.inl rfl, he⟩
          · exact Or.inr ⟨Or.inr h1, fun e2 => less_ne (lessL_trans _ _ _ hlt (hc.1 y.id (List.mem_map.2 ⟨y, h1, rfl⟩))) e2.symm⟩
        · rintro (rfl | ⟨rfl | h1, _⟩)
          · exact Or.inl rfl
          · exact Or.inr (Or.inl rfl)
          · exact Or.inr (Or.inr h1)

theorem putS_ris {S : List ObE} (h : Ris (idsS S)) (e : ObE) : Ris (idsS (putS S e)) := by
  induction S with
  | nil => exact List.pairwise_singleton _ _
  | cons x l ih =>
    have hc := Ris.cons h
    have ih := ih hc.2
    unfold putS
    split
    · rename_i hl
      refine List.pairwise_cons.2 ⟨fun y hy => ?_, ih⟩
      obtain ⟨z, hz, rfl⟩ := List.mem_map.1 hy
      rcases (putS_mem hc.2 e z).1 hz with rfl | ⟨h1, _⟩
      · exact hl
      · exact hc.1 z.id (List.mem_map.2 ⟨z, h1, rfl⟩)
    · rename_i hl
      split
      · rename_i he
        refine List.pairwise_cons.2 ⟨fun y hy => ?_, hc.2⟩
        show lessL e.id y = true
        rw [← he]; exact hc.1 y hy
      · rename_i he
        have hlt : lessL e.id x.id = true := by
          cases h3 : lessL e.id x.id with
          | true => rfl
          | false => exact absurd (lessL_total _ _ (by simpa using hl) h3) he
        refine List.pairwise_cons.2 ⟨fun y hy => ?_, h⟩
        rcases List.mem_cons.1 hy with rfl | h1
        · exact hlt
        · exact lessL_trans _ _ _ hlt (hc.1 y h1)

theorem putS_len (S : List ObE) (e : ObE) : (putS S e).length ≤ S.length + 1 := by
  induction S with
  | nil => simp [putS]
  | cons x l ih =>
    unfold putS
    split
    · simpa using ih
    · split <;> simp

theorem dropS_ris {S : List ObE} (h : Ris (idsS S)) (x : List UInt8) : Ris (idsS (dropS S x)) := by
  unfold idsS dropS
  exact List.Pairwise.sublist (List.Sublist.map _ List.filter_sublist) h
theorem dropS_mem (S : List ObE) (x : List UInt8) (y : ObE) : y ∈ dropS S x ↔ y ∈ S ∧ y.id ≠ x := by simp [dropS]
theorem dropS_len (S : List ObE) (x : List UInt8) : (dropS S x).length ≤ S.length := List.length_filter_le _ _
theorem dropS_none {S : List ObE} {x : List UInt8} (h : x ∉ idsS S) : dropS S x = S := by
  unfold dropS
  rw [List.filter_eq_self]
  intro e he
  simp only [bne_iff_ne, ne_eq]
  rintro rfl
  exact h (List.mem_map.2 ⟨e, he, rfl⟩)

theorem lkS_put {S : List ObE} (h : Ris (idsS S)) (e : ObE) (x : List UInt8) : lkS (putS S e) x = if x = e.id then some e else lkS S x := by
  have hn := (putS_ris h e).nodup
  split
  · rename_i hx
    subst hx
    exact lkS_some hn ((putS_mem h e e).2 (Or.inl rfl))
  · rename_i hx
    cases hl : lkS S x with
    | none =>
      refine lkS_none fun hm => ?_
      obtain ⟨y, hy, rfl⟩ := List.mem_map.1 hm
      rcases (putS_mem h e y).1 hy with rfl | ⟨h1, _⟩
      · exact hx rfl
      · exact lkS_isNone hl (List.mem_map.2 ⟨y, h1, rfl⟩)
    | some y =>
      obtain ⟨h1, rfl⟩ := lkS_mem hl
      exact lkS_some hn ((putS_mem h e y).2 (Or.inr ⟨h1, hx⟩))
theorem lkS_drop {S : List ObE} (h : Ris (idsS S)) (z x : List UInt8) : lkS (dropS S z) x = if x = z then none else lkS S x := by
  have hn := (dropS_ris h z).nodup
  split
  · rename_i hx
    subst hx
    refine lkS_none fun hm => ?_
    obtain ⟨y, hy, e⟩ := List.mem_map.1 hm
    exact ((dropS_mem S x y).1 hy).2 e
  · rename_i hx
    cases hl : lkS S x with
    | none =>
      refine lkS_none fun hm => ?_
      obtain ⟨y, hy, rfl⟩ := List.mem_map.1 hm
      exact lkS_isNone hl (List.mem_map.2 ⟨y, ((dropS_mem S z y).1 hy).1, rfl⟩)
    | some y =>
      obtain ⟨h1, rfl⟩ := lkS_mem hl
      exact lkS_some hn ((dropS_mem S z y).2 ⟨h1, hx⟩)

/-- A set that is one: names that rise, each that of its object, and objects that may be. -/
structure SetS (S : List ObE) : Prop where
  ris : Ris (idsS S)
  len : ∀ e ∈ S, e.id.length = 32
  is : ∀ e ∈ S, e.id = shaL (putL e.k e.d)
  ok : ∀ e ∈ S, checkL e.k e.d = 0
  few : S.length ≤ 1000

end Go.Proofs.YtlifmipnoeioaaaGreatDoor

/- A map by names of 32 bytes, in words of our own: what a look-up tells, what a store and a delete leave, and how it is gone over. No condition but those that each lemma names. -/
namespace Go.Proofs.YtlifmipnoeioaaaGreatDoor
open Go.RowKit

/-- A name as a key. -/
def keyV (x : List UInt8) : Value := .agg (x.map bv).toArray
theorem bv_inj : ∀ {a b : UInt8}, bv a = bv b → a = b := by
  intro a b h
  unfold bv at h
  injection h with _ h
  exact UInt8.toNat_inj.1 (by omega)
theorem keyV_inj {a b : List UInt8} (h : keyV a = keyV b) : a = b := by
  unfold keyV at h
  injection h with h
  have h := congrArg Array.toList h
  simp only at h
  exact List.map_inj_right (fun _ _ => bv_inj) |>.1 h

theorem key_equal (w : World) (a b : List UInt8) (ha : a.length = 32) (hb : b.length = 32) : (Op.equal 33 (keyV a) (keyV b)).run Tryz.prog w = .ok (a == b) w :=
  run_equalIn_bytes w 9998 33 5 32 Tryz.underlying33 Tryz.underlying5 size_byte a b ha hb

theorem key_check (w : World) (b : Bool) (a : List UInt8) (ha : a.length = 32) : (Instr.checkKey b 10000 33 (keyV a)).run Tryz.prog w = .ok () w := by
  unfold Instr.checkKey keyV
  simp only [Sem.run_bind, run_underlying Tryz.underlying33, Result.andThen_ok, Std.Legacy.Range.forIn_eq_forIn_range', Std.Legacy.Range.size, Nat.sub_zero, Nat.add_sub_cancel, Nat.div_one]
  have hl : ∀ i ∈ List.range' 0 32 1, i < 32 := fun i hi => by simpa using (List.mem_range'_1.1 hi).2
  generalize List.range' 0 32 1 = l at hl ⊢
  induction l with
  | nil => simp
  | cons i l ih =>
    have hi : i < a.length := by rw [ha]; exact hl i (by simp)
    have ih := ih fun j hj => hl j (by simp [hj])
    have hp : (part 5 (a.map bv).toArray (i * 1)).run Tryz.prog w = .ok (bv a[i]) w := by
      simp [part, Result.andThen, hi]
    have hc : (Instr.checkKey b 9999 5 (bv a[i])).run Tryz.prog w = .ok () w := MapKept.run_checkKey (d := .int .u8) Tryz.underlying5 (by simp [MapKept.IsKey, bv]) b 9998
    simp only [List.forIn_cons, Sem.run_bind, size_byte, Result.andThen_ok, hp, hc, Sem.run_pure]
    exact ih

theorem key_bits (a : List UInt8) : Instr.sameBits 10000 (keyV a) (keyV a) = true := by
  unfold Instr.sameBits keyV
  simp only [beq_self_eq_true, Bool.true_and]
  rw [List.all_eq_true]
  rintro ⟨x, y⟩ h
  have : x = y ∧ ∃ u, x = bv u := by
    have h2 := List.mem_iff_getElem?.1 h
    obtain ⟨i, hi⟩ := h2
    rw [List.getElem?_zip_eq_some] at hi
    obtain ⟨h3, h4⟩ := hi
    simp only at h3 h4
    rw [h3] at h4
    injection h4 with h4
    refine ⟨h4, ?_⟩
    have h5 := List.mem_of_getElem? h3
    obtain ⟨u, _, rfl⟩ := List.mem_map.1 h5
    exact ⟨u, rfl⟩
  obtain ⟨rfl, u, rfl⟩ := this
  simp [Instr.sameBits, bv]

/-- The block m is a map with just these entries, in the order of its memory, each name once. -/
structure MapAt (w : World) (m : Nat) (K : List (List UInt8 × Value)) : Prop where
  is : ∃ A clock, w.heap[m]? = some (.map A clock) ∧ A.toList.map (fun e => (e.key, e.val)) = K.map (fun p => (keyV p.1, p.2)) ∧ (∀ e ∈ A.toList, e.born < clock) ∧ (A.toList.map (·.born)).Nodup
  once : (K.map (·.1)).Nodup
  wide : ∀ p ∈ K, p.1.length = 32

theorem MapAt.lt {w : World} {m : Nat} {K : List (List UInt8 × Value)} (h : MapAt w m K) : m < w.heap.size := by
  obtain ⟨_, _, h, _⟩ := h.is
  exact (Array.getElem?_eq_some_iff.1 h).1
theorem MapAt.same {w a : World} {m : Nat} {K : List (List UInt8 × Value)} (h : MapAt w m K) (g : a.heap[m]? = w.heap[m]?) : MapAt a m K := by
  obtain ⟨A, c, h1, h2⟩ := h.is
  exact ⟨⟨A, c, by rw [g]; exact h1, h2⟩, h.once, h.wide⟩
theorem MapAt.kept {w a : World} {m : Nat} {K : List (List UInt8 × Value)} {r : Option Nat} (h : MapAt w m K) (g : w.grownBy a r) (hr : some m ≠ r) : MapAt a m K := h.same (g.block m h.lt hr)
theorem MapAt.none {w a : World} {m : Nat} {K : List (List UInt8 × Value)} (h : MapAt w m K) (g : w.grownBy a Option.none) : MapAt a m K := h.kept g (by simp)
theorem MapAt.new (w : World) : MapAt (w.alloc (.map #[] 0)) w.heap.size [] := ⟨⟨#[], 0, heap_alloc_new w _, rfl, by simp, by simp⟩, by simp, by simp⟩
theorem MapAt.blk {w : World} {m b : Nat} {K : List (List UInt8 × Value)} {t : TypeId} {cs : List Value} (h : MapAt w m K) (hb : Blk w b t cs) : m ≠ b := by
  rintro rfl
  obtain ⟨_, _, h, _⟩ := h.is
  unfold Blk at hb
  rw [hb] at h
  cases h
theorem MapAt.typ {w : World} {m : Nat} {K : List (List UInt8 × Value)} (h : MapAt w m K) : ¬ Typ w m := by
  rintro ⟨_, _, h2⟩
  obtain ⟨_, _, h, _⟩ := h.is
  rw [h2] at h
  cases h
/-- A row of the call's own is no map. -/
theorem MapAt.own {w : World} {m base k n : Nat} {K : List (List UInt8 × Value)} {t : TypeId} {v : Value} {xs : List Value} (h : MapAt w m K) (ho : w.ownsRow base t k v n xs) : some m ≠ v.ownBlock := by
  obtain ⟨_, _, h, _⟩ := h.is
  rcases ho.2 with ⟨rfl, _⟩ | ⟨g, cap, cur, rfl, _, hh, _⟩
  · intro e; cases e
  · intro e
    have : m = g := by simpa [Value.ownBlock] using e
    subst this
    rw [hh] at h
    cases h
/-- Another map. -/
theorem own_map {w a : World} {m base k n : Nat} {K : List (List UInt8 × Value)} {t : TypeId} {v : Value} {xs : List Value} (ho : w.ownsRow base t k v n xs) (h : MapAt w m K) (g : w.grownBy a (some m)) : a.ownsRow base t k v n xs := by
  refine ⟨ho.1, ?_⟩
  have hne := h.own ho
  rcases ho.2 with h1 | ⟨p, cap, cur, hv, hg, hh, hr⟩
  · exact Or.inl h1
  · subst hv
    refine Or.inr ⟨p, cap, cur, rfl, hg, ?_, hr⟩
    rw [g.block p (Array.getElem?_eq_some_iff.1 hh).1 (fun e => hne (by rw [← e]; rfl))]
    exact hh

/-- What a map has by a name. -/
def getK (K : List (List UInt8 × Value)) (x : List UInt8) : Option Value := (K.find? fun p => p.1 == x).map (·.2)
/-- What a store leaves. -/
def putK (K : List (List UInt8 × Value)) (x : List UInt8) (v : Value) : List (List UInt8 × Value) := if x ∈ K.map (·.1) then K.map fun p => if p.1 = x then (x, v) else p else K ++ [(x, v)]
/-- What a delete leaves. -/
def delK (K : List (List UInt8 × Value)) (x : List UInt8) : List (List UInt8 × Value) := K.filter fun p => p.1 != x

theorem getK_isSome (K : List (List UInt8 × Value)) (x : List UInt8) : (getK K x).isSome = true ↔ x ∈ K.map (·.1) := by
  unfold getK
  rw [Option.isSome_map, List.find?_isSome]
  constructor
  · rintro ⟨p, hp, h⟩
    exact List.mem_map.2 ⟨p, hp, by simpa using h⟩
  · intro h
    obtain ⟨p, hp, rfl⟩ := List.mem_map.1 h
    exact ⟨p, hp, by simp⟩
theorem getK_none {K : List (List UInt8 × Value)} {x : List UInt8} (h : x ∉ K.map (·.1)) : getK K x = none := by
  cases hg : getK K x with
  | none => rfl
  | some v => exact absurd ((getK_isSome K x).1 (by rw [hg]; rfl)) h
theorem getK_mem {K : List (List UInt8 × Value)} {x : List UInt8} {v : Value} (h : getK K x = some v) : (x, v) ∈ K := by
  unfold getK at h
  obtain ⟨p, hp, rfl⟩ := Option.map_eq_some_iff.1 h
  have h1 := List.mem_of_find?_eq_some hp
  have h2 : p.1 = x := by simpa using List.find?_some hp
  obtain ⟨a, b⟩ := p
  simp only at h2
  subst h2
  exact h1
theorem nodup_map_inj {α β : Type} {f : α → β} : ∀ {K : List α}, (K.map f).Nodup → ∀ {a b : α}, a ∈ K → b ∈ K → f a = f b → a = b
  | [], _, _, _, h, _, _ => by simp at h
  | x :: K, hn, a, b, ha, hb, h => by
    have hc := List.nodup_cons.1 hn
    rcases List.mem_cons.1 ha with h1 | h1
    · rcases List.mem_cons.1 hb with h2 | h2
      · rw [h1, h2]
      · exact absurd (by rw [← h1, h]; exact List.mem_map.2 ⟨b, h2, rfl⟩) hc.1
    · rcases List.mem_cons.1 hb with h2 | h2
      · exact absurd (by rw [← h2, ← h]; exact List.mem_map.2 ⟨a, h1, rfl⟩) hc.1
      · exact nodup_map_inj hc.2 h1 h2 h
theorem getK_some {K : List (List UInt8 × Value)} (hn : (K.map (·.1)).Nodup) {x : List UInt8} {v : Value} (h : (x, v) ∈ K) : getK K x = some v := by
  cases hg : getK K x with
  | none => exact absurd (List.mem_map.2 ⟨_, h, rfl⟩) (fun hm => by have := (getK_isSome K x).2 hm; rw [hg] at this; cases this)
  | some u =>
    have h1 := getK_mem hg
    have h2 := nodup_map_inj hn h1 h rfl
    injection h2 with _ h2
    rw [h2]

theorem find_key (w : World) (x : List UInt8) (hx : x.length = 32) : ∀ (l : List MapEntry) (K : List (List UInt8 × Value)) (i : Nat), l.map (fun e => (e.key, e.val)) = K.map (fun p => (keyV p.1, p.2)) → (∀ p ∈ K, p.1.length = 32) →
    (x ∉ K.map (·.1) ∧ (Instr.findAsking 33 (keyV x) l i).run Tryz.prog w = .ok none w) ∨
      ∃ (j : Nat) (hj : j < K.length), K[j].1 = x ∧ (∀ q (hq : q < j), (K[q]'(by omega)).1 ≠ x) ∧ (Instr.findAsking 33 (keyV x) l i).run Tryz.prog w = .ok (some (i + j, K[j].2)) w
  | [], [], _, _, _ => Or.inl ⟨by simp, by simp [Instr.findAsking]⟩
  | [], _ :: _, _, h, _ => by simp at h
  | _ :: _, [], _, h, _ => by simp at h
  | e :: l, p :: K, i, h, hw => by
    simp only [List.map_cons, List.cons.injEq, Prod.mk.injEq] at h
    obtain ⟨⟨h1, h2⟩, h3⟩ := h
    have hs := key_equal w x p.1 hx (hw p (by simp))
    rw [← h1] at hs
    by_cases hp : p.1 = x
    · refine Or.inr ⟨0, by simp, hp, fun q hq => by omega, ?_⟩
      have : (x == p.1) = true := by rw [hp]; simp
      rw [this] at hs
      simp [Instr.findAsking, hs, Result.andThen, h2]
    · have : (x == p.1) = false := beq_eq_false_iff_ne.2 fun e => hp e.symm
      rw [this] at hs
      have hF : (Instr.findAsking 33 (keyV x) (e :: l) i).run Tryz.prog w = (Instr.findAsking 33 (keyV x) l (i + 1)).run Tryz.prog w := by
        conv => lhs; unfold Instr.findAsking
        simp [hs, Result.andThen]
      rw [hF]
      rcases find_key w x hx l K (i + 1) h3 (fun q hq => hw q (by simp [hq])) with ⟨h4, h5⟩ | ⟨j, hj, h4, h6, h5⟩
      · exact Or.inl ⟨by simp only [List.map_cons, List.mem_cons, not_or]; exact ⟨fun e => hp e.symm, h4⟩, h5⟩
      · refine Or.inr ⟨j + 1, by simp; omega, by simpa using h4, fun q hq => ?_, by rw [h5]; simp; omega⟩
        cases q with
        | zero => exact hp
        | succ q => simpa using h6 q (by omega)

theorem find_run (w : World) (x : List UInt8) (hx : x.length = 32) (A : Array MapEntry) (K : List (List UInt8 × Value)) (h : A.toList.map (fun e => (e.key, e.val)) = K.map (fun p => (keyV p.1, p.2))) (hw : ∀ p ∈ K, p.1.length = 32) :
    (x ∉ K.map (·.1) ∧ (Instr.findKey 33 (keyV x) A.toList).run Tryz.prog w = .ok none w) ∨
      ∃ (j : Nat) (hj : j < K.length), K[j].1 = x ∧ (∀ q (hq : q < j), (K[q]'(by omega)).1 ≠ x) ∧ (Instr.findKey 33 (keyV x) A.toList).run Tryz.prog w = .ok (some (j, K[j].2)) w := by
  have hfk : (Instr.findKey 33 (keyV x) A.toList).run Tryz.prog w = (Instr.findAsking 33 (keyV x) A.toList 0).run Tryz.prog w := by
    unfold Instr.findKey
    simp only [Sem.run_bind, run_underlying Tryz.underlying33, Result.andThen_ok]
    cases hl : A.toList with
    | nil => simp [Instr.findNow, Instr.findAsking]
    | cons e l =>
      have : Instr.findNow (.array 32 5) (keyV x) (e :: l) 0 = none := by
        simp [Instr.findNow, Instr.sameNow]
      rw [this]
  rw [hfk]
  rcases find_key w x hx A.toList K 0 h hw with h1 | ⟨j, hj, h1, h2, h3⟩
  · exact Or.inl h1
  · exact Or.inr ⟨j, hj, h1, h2, by rw [h3, Nat.zero_add]⟩

theorem getK_at {K : List (List UInt8 × Value)} {x : List UInt8} {j : Nat} (hj : j < K.length) (h1 : K[j].1 = x) (h2 : ∀ q (hq : q < j), (K[q]'(by omega)).1 ≠ x) : getK K x = some K[j].2 := by
  unfold getK
  rw [List.find?_eq_some_iff_getElem.2 ⟨by simpa using h1, j, hj, rfl, fun q hq => by simpa using h2 q hq⟩]
  rfl

/-- 'v, there := m[x]', and 'm[x]'. -/
theorem MapAt.look {w : World} {m : Nat} {K : List (List UInt8 × Value)} (h : MapAt w m K) (t e : TypeId) (ht : Tryz.prog.underlying t = some (.map 33 e)) (z : Value) (hz : (zeroValue e).run Tryz.prog w = .ok z w) (x : List UInt8) (hx : x.length = 32) (ok : Bool) :
    (Instr.lookup t (.map (some m)) (keyV x) ok).run Tryz.prog w = .ok (if ok then .tuple #[(getK K x).getD z, .bool (getK K x).isSome] else (getK K x).getD z) w := by
  obtain ⟨A, c, h1, h2, _⟩ := h.is
  have hc := key_check w A.isEmpty x hx
  have hg := MapKept.run_getObj_map (P := Tryz.prog) h1
  rcases find_run w x hx A K h2 h.wide with ⟨h4, h5⟩ | ⟨j, hj, h4, h6, h5⟩
  · rw [getK_none h4]
    simp [Instr.lookup, run_underlying ht, hg, hc, h5, hz, Result.andThen]
  · rw [getK_at hj h4 h6]
    simp [Instr.lookup, run_underlying ht, hg, hc, h5, Result.andThen]

theorem modify_list {A : Array MapEntry} (j : Nat) (f : MapEntry → MapEntry) : (A.modify j f).toList = A.toList.modify j f := by simp

/-- 'm[x] = v'. -/
theorem MapAt.store {w : World} {m : Nat} {K : List (List UInt8 × Value)} (h : MapAt w m K) (t e : TypeId) (ht : Tryz.prog.underlying t = some (.map 33 e)) (x : List UInt8) (hx : x.length = 32) (v : Value) :
    ∃ w', (Instr.mapUpdate t (.map (some m)) (keyV x) v).run Tryz.prog w = .ok () w' ∧ MapAt w' m (putK K x v) ∧ w.grownBy w' (some m) ∧ w'.heap.size = w.heap.size := by
  have hlt := h.lt
  obtain ⟨A, c, h1, h2, hb, hnd⟩ := h.is
  have hc := key_check w false x hx
  have hg := MapKept.run_getObj_map (P := Tryz.prog) h1
  have hgr : ∀ o : Obj, w.grownBy { w with heap := w.heap.setIfInBounds m o } (some m) := fun o => ⟨rfl, rfl, rfl, by simp, fun i _ hi => by
    have : m ≠ i := fun e => hi (by rw [e])
    simp [this]⟩
  have hsame : ∀ o : Obj, ({ w with heap := w.heap.setIfInBounds m o } : World).heap[m]? = some o := fun o => by simp [hlt]
  rcases find_run w x hx A K h2 h.wide with ⟨h4, h5⟩ | ⟨j, hj, h4, h6, h5⟩
  · refine ⟨{ w with heap := w.heap.setIfInBounds m (.map (A.push { key := keyV x, val := v, born := c }) (c + 1)) }, ?_, ⟨⟨_, _, hsame _, ?_, ?_, ?_⟩, ?_, ?_⟩, hgr _, by simp⟩
    · simp [Instr.mapUpdate, run_underlying ht, hg, hc, h5, Result.andThen, MapKept.run_setObj_map _ h1]
    · unfold putK; rw [if_neg h4]; simp [h2]
    · intro y hy
      simp only [Array.toList_push, List.mem_append, List.mem_singleton] at hy
      rcases hy with hy | rfl
      · exact Nat.lt_succ_of_lt (hb y hy)
      · exact Nat.lt_succ_self _
    · simp only [Array.toList_push, List.map_append, List.map_cons, List.map_nil]
      refine List.nodup_append.2 ⟨hnd, by simp, ?_⟩
      intro a ha b hb2
      simp only [List.mem_singleton] at hb2
      subst hb2
      obtain ⟨y, hy, rfl⟩ := List.mem_map.1 ha
      exact Nat.ne_of_lt (hb y hy)
    · unfold putK; rw [if_neg h4]
      rw [List.map_append]
      refine List.nodup_append.2 ⟨h.once, by simp, ?_⟩
      intro a ha b hb2
      simp only [List.map_cons, List.map_nil, List.mem_singleton] at hb2
      subst hb2
      exact fun e => h4 (e ▸ ha)
    · unfold putK; rw [if_neg h4]
      intro p hp
      rcases List.mem_append.1 hp with hp | hp
      · exact h.wide p hp
      · rw [List.mem_singleton.1 hp]; exact hx
  · have hmem : x ∈ K.map (·.1) := List.mem_map.2 ⟨K[j], List.getElem_mem _, h4⟩
    have hlen : A.toList.length = K.length := by have := congrArg List.length h2; simpa using this
    have hjA : j < A.toList.length := by omega
    have hkey : A.toList[j].key = keyV x := by
      have h7 : (A.toList.map (fun e => (e.key, e.val)))[j]? = (K.map (fun p => (keyV p.1, p.2)))[j]? := by rw [h2]
      rw [List.getElem?_map, List.getElem?_map, List.getElem?_eq_getElem hjA, List.getElem?_eq_getElem hj] at h7
      simp only [Option.map_some, Option.some.injEq, Prod.mk.injEq] at h7
      rw [h7.1, h4]
    have hst : (Instr.keyThatStays (keyV x) (keyV x)).run Tryz.prog w = .ok (keyV x) w := by
      unfold Instr.keyThatStays
      rw [if_pos (key_bits x)]; rfl
    have hjB : j < A.size := by simpa using hjA
    have hkey2 : A[j].key = keyV x := by simpa using hkey
    have hjo : A[j]? = some A[j] := by simp [hjB]
    have hjo2 : A[j]? = some A.toList[j] := by
      rw [← Array.getElem?_toList, List.getElem?_eq_getElem hjA]
    have hput : putK K x v = K.modify j fun _ => (x, v) := by
      unfold putK; rw [if_pos hmem]
      apply List.ext_getElem?
      intro i
      rw [List.getElem?_map, List.getElem?_modify]
      by_cases hij : j = i
      · subst hij
        rw [List.getElem?_eq_getElem hj]
        simp [h4]
      · simp only [if_neg hij]
        cases hi : K[i]? with
        | none => rfl
        | some p =>
          obtain ⟨hi2, rfl⟩ := List.getElem?_eq_some_iff.1 hi
          have : K[i].1 ≠ x := fun e => hij (by
            have h8 : (K.map (·.1))[j]'(by simpa using hj) = (K.map (·.1))[i]'(by simpa using hi2) := by simp [h4, e]
            exact (List.getElem_inj h.once).1 h8)
          simp [this]
    refine ⟨{ w with heap := w.heap.setIfInBounds m (.map (A.modify j fun e => { e with key := keyV x, val := v }) c) }, ?_, ⟨⟨_, _, hsame _, ?_, ?_, ?_⟩, ?_, ?_⟩, hgr _, by simp⟩
    · simp [Instr.mapUpdate, run_underlying ht, hg, hc, h5, Result.andThen, MapKept.run_setObj_map _ h1, hjo, hkey2, hst]
    · rw [hput, modify_list]
      apply List.ext_getElem?
      intro i
      rw [List.getElem?_map, List.getElem?_map, List.getElem?_modify, List.getElem?_modify]
      have h7 : (A.toList.map (fun e => (e.key, e.val)))[i]? = (K.map (fun p => (keyV p.1, p.2)))[i]? := by rw [h2]
      rw [List.getElem?_map, List.getElem?_map] at h7
      by_cases hij : j = i
      · subst hij
        rw [List.getElem?_eq_getElem hjA, List.getElem?_eq_getElem hj]
        simp
      · simp only [if_neg hij]
        simpa using h7
    · intro y hy
      rw [modify_list] at hy
      obtain ⟨i, hi⟩ := List.mem_iff_getElem?.1 hy
      rw [List.getElem?_modify] at hi
      obtain ⟨z, hz, rfl⟩ := Option.map_eq_some_iff.1 hi
      have := hb z (List.mem_of_getElem? hz)
      split <;> exact this
    · have : (A.modify j fun e => { e with key := keyV x, val := v }).toList.map (·.born) = A.toList.map (·.born) := by
        rw [modify_list]
        apply List.ext_getElem?
        intro i
        rw [List.getElem?_map, List.getElem?_map, List.getElem?_modify]
        cases A.toList[i]? with
        | none => rfl
        | some z => simp only [Option.map_some]; split <;> rfl
      rw [this]; exact hnd
    · have : (putK K x v).map (·.1) = K.map (·.1) := by
        unfold putK; rw [if_pos hmem, List.map_map]
        apply List.map_congr_left
        intro p _
        simp only [Function.comp]
        split
        · rename_i e; exact e.symm
        · rfl
      rw [this]; exact h.once
    · intro p hp
      unfold putK at hp; rw [if_pos hmem] at hp
      obtain ⟨q, hq, rfl⟩ := List.mem_map.1 hp
      split
      · exact hx
      · exact h.wide q hq

theorem erase_map {α β : Type} (f : α → β) (l : List α) (i : Nat) : (l.eraseIdx i).map f = (l.map f).eraseIdx i := by
  rw [List.eraseIdx_eq_take_drop_succ, List.eraseIdx_eq_take_drop_succ, List.map_append, List.map_take, List.map_drop]

theorem putK_mem {K : List (List UInt8 × Value)} (x : List UInt8) (v : Value) (p : List UInt8 × Value) : p ∈ putK K x v ↔ p = (x, v) ∨ (p ∈ K ∧ p.1 ≠ x) := by
  unfold putK
  split
  · rename_i hm
    rw [List.mem_map]
    constructor
    · rintro ⟨q, hq, rfl⟩
      split
      · exact Or.inl rfl
      · rename_i h; exact Or.inr ⟨hq, h⟩
    · rintro (rfl | ⟨h1, h2⟩)
      · obtain ⟨q, hq, h⟩ := List.mem_map.1 hm
        exact ⟨q, hq, if_pos h⟩
      · exact ⟨p, h1, if_neg h2⟩
  · rename_i hm
    rw [List.mem_append, List.mem_singleton]
    constructor
    · rintro (h | h)
      · exact Or.inr ⟨h, fun e => hm (e ▸ List.mem_map.2 ⟨p, h, rfl⟩)⟩
      · exact Or.inl h
    · rintro (h | ⟨h, _⟩)
      · exact Or.inr h
      · exact Or.inl h
theorem delK_mem {K : List (List UInt8 × Value)} (x : List UInt8) (p : List UInt8 × Value) : p ∈ delK K x ↔ p ∈ K ∧ p.1 ≠ x := by simp [delK]

/-- 'delete(m, x)'. -/
theorem MapAt.del {w : World} {m : Nat} {K : List (List UInt8 × Value)} (h : MapAt w m K) (t e u : TypeId) (T : Array TypeId) (hT : T[0]? = some t) (ht : Tryz.prog.underlying t = some (.map 33 e)) (x : List UInt8) (hx : x.length = 32) :
    ∃ w', (Builtin.delete_ T u #[.map (some m), keyV x]).run Tryz.prog w = .ok (.tuple #[]) w' ∧ MapAt w' m (delK K x) ∧ w.grownBy w' (some m) ∧ w'.heap.size = w.heap.size := by
  have hlt := h.lt
  obtain ⟨A, c, h1, h2, hb, hnd⟩ := h.is
  have hc := key_check w A.isEmpty x hx
  have hg := MapKept.run_getObj_map (P := Tryz.prog) h1
  have hgr : ∀ o : Obj, w.grownBy { w with heap := w.heap.setIfInBounds m o } (some m) := fun o => ⟨rfl, rfl, rfl, by simp, fun i _ hi => by
    have : m ≠ i := fun e => hi (by rw [e])
    simp [this]⟩
  have hsame : ∀ o : Obj, ({ w with heap := w.heap.setIfInBounds m o } : World).heap[m]? = some o := fun o => by simp [hlt]
  have hlen : A.toList.length = K.length := by have := congrArg List.length h2; simpa using this
  have honce : ((delK K x).map (·.1)).Nodup := (List.filter_sublist.map _).nodup h.once
  have hwide : ∀ p ∈ delK K x, p.1.length = 32 := fun p hp => h.wide p ((delK_mem x p).1 hp).1
  rcases find_run w x hx A K h2 h.wide with ⟨h4, h5⟩ | ⟨j, hj, h4, h6, h5⟩
  · have hd : delK K x = K := by
      unfold delK
      rw [List.filter_eq_self]
      intro p hp
      simp only [bne_iff_ne, ne_eq]
      rintro rfl
      exact h4 (List.mem_map.2 ⟨p, hp, rfl⟩)
    refine ⟨{ w with heap := w.heap.setIfInBounds m (.map A c) }, ?_, ⟨⟨_, _, hsame _, by rw [hd]; exact h2, hb, hnd⟩, honce, hwide⟩, hgr _, by simp⟩
    simp [Builtin.delete_, hT, run_underlying ht, hg, hc, h5, Result.andThen, MapKept.run_setObj_map _ h1]
  · have hjA : j < A.size := by
      simp only [Array.length_toList] at hlen
      omega
    have hel : (A.eraseIdxIfInBounds j).toList = A.toList.eraseIdx j := by
      unfold Array.eraseIdxIfInBounds
      rw [dif_pos hjA]; simp
    have hd : delK K x = K.eraseIdx j := by
      unfold delK
      have hsp : K = K.take j ++ K[j] :: K.drop (j + 1) := by rw [← List.drop_eq_getElem_cons hj, List.take_append_drop]
      have hn : ((K.take j).map (·.1) ++ K[j].1 :: (K.drop (j + 1)).map (·.1)).Nodup := by
        have h9 := congrArg (List.map (·.1)) hsp
        rw [List.map_append, List.map_cons] at h9
        rw [← h9]; exact h.once
      have hn2 := List.nodup_append.1 hn
      have hn3 := List.nodup_cons.1 hn2.2.1
      rw [List.eraseIdx_eq_take_drop_succ]
      have hf : K.filter (fun p => p.1 != x) = (K.take j ++ K[j] :: K.drop (j + 1)).filter (fun p => p.1 != x) := congrArg _ hsp
      rw [hf, List.filter_append, List.filter_cons, if_neg (by simp [h4])]
      refine congr (congrArg _ ?_) ?_
      · rw [List.filter_eq_self]
        intro p hp
        simp only [bne_iff_ne, ne_eq]
        intro e
        exact hn2.2.2 p.1 (List.mem_map.2 ⟨p, hp, rfl⟩) K[j].1 (by simp) (by rw [e, h4])
      · rw [List.filter_eq_self]
        intro p hp
        simp only [bne_iff_ne, ne_eq]
        intro e
        exact hn3.1 (by rw [h4, ← e]; exact List.mem_map.2 ⟨p, hp, rfl⟩)
    refine ⟨{ w with heap := w.heap.setIfInBounds m (.map (A.eraseIdxIfInBounds j) c) }, ?_, ⟨⟨_, _, hsame _, ?_, ?_, ?_⟩, honce, hwide⟩, hgr _, by simp⟩
    · simp [Builtin.delete_, hT, run_underlying ht, hg, hc, h5, Result.andThen, MapKept.run_setObj_map _ h1]
    · rw [hd, hel, erase_map, erase_map, h2]
    · intro y hy
      rw [hel] at hy
      exact hb y (List.mem_of_mem_eraseIdx hy)
    · rw [hel, erase_map]
      exact (List.eraseIdx_sublist _ _).nodup hnd

end Go.Proofs.YtlifmipnoeioaaaGreatDoor
