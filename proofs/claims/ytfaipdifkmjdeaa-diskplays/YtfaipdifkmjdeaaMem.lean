/- What memory holds, in words of our own: a slice of bytes; and that such words outlast what a call adds to memory. No condition but those that each lemma names. -/
import Derived.Test.YtfaipdifkmjdeaaRows
import Derived.WalkKit
import Derived.WalkSpells
import Derived.WalkLawsBesides
namespace Go.Proofs.Ytfaipdifkmjdeaa
open Go.RowKit

theorem hide {p : Prop} (h : p) : Hid p := h
theorem unhide {p : Prop} (h : Hid p) : p := h

/-- The slice value '.slice ao l.length c' holds the bytes l. -/
structure Bts (w : World) (ao : Option Addr) (c : Nat) (l : List UInt8) : Prop where
  zip : ao = none → l.length = 0 ∧ c = 0
  fits : l.length ≤ c
  most : c ≤ maxLen
  shape : ∀ ad, ao = some ad → 0 < l.length → ad.spot = none
  cell : ∀ ad, ao = some ad → ∀ i (h : i < l.length), w.cell? ⟨ad.block, ad.off + i, none⟩ = some (.int .u8 ((l[i].toNat : Nat) : Int))

/-- The block that a slice's address names is not r. -/
def Off (ao : Option Addr) (r : Nat) : Prop := ∀ ad, ao = some ad → ad.block ≠ r

theorem Bts.nil (w : World) : Bts w none 0 [] := ⟨fun _ => ⟨rfl, rfl⟩, Nat.le_refl _, Nat.zero_le _, (fun _ h => by cases h), (fun _ h => by cases h)⟩

theorem gb_trans {w a b : World} {r s : Option Nat} (h : w.grownBy a r) (k : a.grownBy b s) (hs : ∀ x, s = some x → w.heap.size ≤ x ∨ r = some x) : w.grownBy b r :=
  ⟨k.os.trans h.os, k.tape.trans h.tape, k.output.trans h.output, Nat.le_trans h.size k.size, fun i hi hne => by
    have h1 := h.block i hi hne
    have h2 : some i ≠ s := fun e => by
      rcases hs i e.symm with h3 | h3
      · omega
      · exact hne h3.symm
    rw [k.block i (Nat.lt_of_lt_of_le hi h.size) h2, h1]⟩

theorem tn {x y z : World} {r : Option Nat} (h : x.grownBy y r) (k : y.grownBy z Option.none) : x.grownBy z r := gb_trans h k (fun _ e => by cases e)

theorem gb_refl (w : World) (r : Option Nat) : w.grownBy w r := World.grownBy.refl w r

theorem gb_none {w a : World} (r : Option Nat) (h : w.grownBy a none) : w.grownBy a r :=
  ⟨h.os, h.tape, h.output, h.size, fun i hi _ => h.block i hi (by simp)⟩

theorem gb_alloc {w a : World} {r : Option Nat} (h : w.grownBy a r) (o : Obj) : w.grownBy (a.alloc o) r :=
  gb_trans h (World.grownBy_alloc a o r) (fun _ e => Or.inr e)

theorem gb_setCell {w a : World} {r : Option Nat} (h : w.grownBy a r) (p : Addr) (v : Value) (hp : w.heap.size ≤ p.block ∨ r = some p.block) : w.grownBy (a.setCell p v) r :=
  gb_trans h (s := some p.block) ⟨rfl, rfl, rfl, by simp [World.setCell], fun k _ hne => Below.heap_setCell a p v k (fun e => hne (by rw [e]))⟩ (fun x e => by cases e; exact hp)

theorem gb_below {w a : World} (h : w.grownBy a none) : Below w.heap.size w a := ⟨h.os, h.tape, h.output, h.size, fun k hk => h.block k hk (by simp)⟩

theorem below_gb {w a : World} (h : Below w.heap.size w a) : w.grownBy a none := ⟨h.os, h.tape, h.output, h.size, fun k hk _ => h.block k hk⟩

theorem Bts.kept {w a : World} {r : Option Nat} {ao : Option Addr} {c : Nat} {l : List UInt8} (h : Bts w ao c l) (g : w.grownBy a r) (hr : ∀ x, r = some x → Off ao x) : Bts a ao c l :=
  ⟨h.zip, h.fits, h.most, h.shape, fun ad e i hi => g.cell (h.cell ad e i hi) (fun e2 => hr ad.block e2.symm ad e rfl)⟩

/-- The block b is a row of bytes. -/
def Typ (w : World) (b : Nat) : Prop := ∃ cur m, w.heap[b]? = some (.cells cur 5 m)

theorem Typ.lt {w : World} {b : Nat} (h : Typ w b) : b < w.heap.size := by
  obtain ⟨_, _, h⟩ := h
  exact (Array.getElem?_eq_some_iff.1 h).1

theorem Typ.kept {w a : World} {b : Nat} {r : Option Nat} (h : Typ w b) (g : w.grownBy a r) (hr : some b ≠ r) : Typ a b := by
  have hlt := h.lt
  obtain ⟨cur, m, h⟩ := h
  exact ⟨cur, m, by rw [g.block b hlt hr]; exact h⟩

theorem Typ.own {w : World} {base n cap g : Nat} {xs : List Value} (h : w.ownsRow base 5 1 (.slice (some ⟨g, 0, none⟩) n cap) n xs) : Typ w g := by
  rcases h.2 with ⟨h2, _⟩ | ⟨g', cap', cur, hv, _, hh, _⟩
  · cases h2
  · cases hv
    exact ⟨cur, _, hh⟩

/-- The block that a slice's address names is a row of bytes, and is not r. -/
def Inb (w : World) (ao : Option Addr) (r : Nat) : Prop := ∀ ad, ao = some ad → Typ w ad.block ∧ ad.block ≠ r

theorem Inb.off {w : World} {ao : Option Addr} {r : Nat} (h : Inb w ao r) : Off ao r := fun ad e => (h ad e).2
theorem Inb.off_typ {w : World} {ao : Option Addr} {r k : Nat} (h : Inb w ao r) (hk : ¬ Typ w k) : Off ao k := fun ad e e2 => hk (by rw [← e2]; exact (h ad e).1)
theorem typ_new {w : World} {k : Nat} (hk : w.heap.size ≤ k) : ¬ Typ w k := fun t => by have := t.lt; omega
theorem Inb.off_new {w : World} {ao : Option Addr} {r k : Nat} (h : Inb w ao r) (hk : w.heap.size ≤ k) : Off ao k := h.off_typ (typ_new hk)
theorem Inb.kept {w a : World} {ao : Option Addr} {r : Nat} {s : Option Nat} (h : Inb w ao r) (g : w.grownBy a s) (hs : ∀ x, s = some x → Off ao x) : Inb a ao r :=
  fun ad e => ⟨(h ad e).1.kept g (fun e2 => hs _ e2.symm ad e rfl), (h ad e).2⟩

theorem gb_set (w : World) (rb o : Nat) (v : Value) : w.grownBy (w.setCell ⟨rb, o, none⟩ v) (some rb) := gb_setCell (gb_refl w (some rb)) ⟨rb, o, none⟩ v (Or.inr rfl)

/-- A byte as a cell holds it. -/
def bv (x : UInt8) : Value := .int .u8 ((x.toNat : Nat) : Int)

theorem bv_one (l : List UInt8) : ∀ u ∈ l.map bv, u.oneCell' = true := by
  intro u hu
  obtain ⟨_, _, rfl⟩ := List.mem_map.1 hu
  rfl

theorem Bts.news {w : World} {ao : Option Addr} {c : Nat} {l : List UInt8} (h : Bts w ao c l) : ∀ ad, ao = some ad → ∀ j u, (l.map bv)[j]? = some u → w.cell? (ad.add j) = some u := by
  intro ad e j u hu
  obtain ⟨hj, rfl⟩ := List.getElem?_eq_some_iff.1 hu
  have hj' : j < l.length := by simpa using hj
  have h1 := h.cell ad e j hj'
  have h2 := h.shape ad e (by omega)
  obtain ⟨b, o, s⟩ := ad
  simp only at h2
  subst h2
  rw [Addr.add_lit]
  simpa [bv] using h1

/-- What the call itself has laid is a slice of bytes. -/
theorem Bts.own {w : World} {base n cap g : Nat} {l : List UInt8} (h : w.ownsRow base 5 1 (.slice (some ⟨g, 0, none⟩) n cap) n (l.map bv)) : n = l.length ∧ base ≤ g ∧ Bts w (some ⟨g, 0, none⟩) cap l := by
  obtain ⟨h1, h2⟩ := h
  have hn : n = l.length := by simpa using h1.symm
  subst hn
  rcases h2 with ⟨h2, _⟩ | ⟨g', cap', cur, hv, hg, hh, h3, h4, h5, h6⟩
  · cases h2
  · cases hv
    refine ⟨rfl, hg, ⟨(fun e => by cases e), h3, h4, (fun ad e _ => by cases e; rfl), (fun ad e i hi => ?_)⟩⟩
    cases e
    have h7 : (cur.toList.take (l.length * 1))[i]? = (l.map bv)[i]? := by rw [h6]
    rw [List.getElem?_take_of_lt (by omega)] at h7
    simp [World.cell?, hh, hi, bv] at h7 ⊢
    exact h7

/-- The address of 'x[n:]'. -/
def cutA (ao : Option Addr) (c n : Nat) : Option Addr := if c = n then ao else ao.map (·.add n)

theorem cutA_off {ao : Option Addr} {c n r : Nat} (h : Off ao r) : Off (cutA ao c n) r := by
  intro ad e
  unfold cutA at e
  split at e
  · exact h ad e
  · obtain ⟨a, ha, rfl⟩ := Option.map_eq_some_iff.1 e
    have := h a ha
    unfold Addr.add
    split <;> exact this

theorem cutA_inb {w : World} {ao : Option Addr} {c n r : Nat} (h : Inb w ao r) : Inb w (cutA ao c n) r := by
  intro ad e
  unfold cutA at e
  split at e
  · exact h ad e
  · obtain ⟨a, ha, rfl⟩ := Option.map_eq_some_iff.1 e
    have := h a ha
    unfold Addr.add
    split <;> exact this

theorem Bts.take {w : World} {ao : Option Addr} {c : Nat} {l : List UInt8} (h : Bts w ao c l) (n : Nat) (hn : n ≤ l.length) : Bts w ao c (l.take n) := by
  refine ⟨(fun e => ?_), ?_, h.most, (fun ad e hp => h.shape ad e (by simp at hp; omega)), (fun ad e i hi => ?_)⟩
  · have := h.zip e
    exact ⟨by simp; omega, this.2⟩
  · have := h.fits; simp; omega
  · have hi' : i < l.length := by simp at hi; omega
    rw [h.cell ad e i hi']
    simp

theorem Bts.drop {w : World} {ao : Option Addr} {c : Nat} {l : List UInt8} (h : Bts w ao c l) (n : Nat) (hn : n ≤ l.length) : Bts w (cutA ao c n) (c - n) (l.drop n) := by
  have hf := h.fits
  refine ⟨(fun e => ?_), ?_, Nat.le_trans (Nat.sub_le _ _) h.most, (fun ad e hp => ?_), (fun ad e i hi => ?_)⟩
  · unfold cutA at e
    split at e
    · have := h.zip e
      exact ⟨by simp; omega, by omega⟩
    · rw [Option.map_eq_none_iff] at e
      have := h.zip e
      exact ⟨by simp; omega, by omega⟩
  · simp; omega
  · unfold cutA at e
    split at e
    · exact h.shape ad e (by simp at hp; omega)
    · obtain ⟨a, ha, rfl⟩ := Option.map_eq_some_iff.1 e
      have := h.shape a ha (by simp at hp; omega)
      unfold Addr.add
      split
      · exact this
      · rfl
  · have hi' : n + i < l.length := by simp at hi; omega
    unfold cutA at e
    rw [if_neg (by omega)] at e
    obtain ⟨a, ha, rfl⟩ := Option.map_eq_some_iff.1 e
    have hs := h.shape a ha (by omega)
    have hc := h.cell a ha (n + i) hi'
    obtain ⟨b, o, s⟩ := a
    simp only at hs
    subst hs
    rw [Addr.add_lit]
    simp only [List.getElem_drop]
    rw [Nat.add_assoc]
    exact hc

theorem Bts.below {w a : World} {ao : Option Addr} {c : Nat} {l : List UInt8} (h : Bts w ao c l) (g : Below w.heap.size w a) : Bts a ao c l := h.kept (below_gb g) (fun _ e => by cases e)

/-- A number of which the bytes are told, the highest first. -/
def be (l : List UInt8) : Nat := l.foldl (fun a x => a * 256 + x.toNat) 0

theorem be_snoc (l : List UInt8) (x : UInt8) : be (l ++ [x]) = be l * 256 + x.toNat := by simp [be]
theorem be_lt (l : List UInt8) : be l < 256 ^ l.length := by
  rw [← List.reverse_reverse l]
  generalize l.reverse = m
  induction m with
  | nil => simp [be]
  | cons x m ih =>
    rw [List.reverse_cons, be_snoc]
    have := x.toNat_lt
    simp only [List.length_append, List.length_reverse, List.length_cons, List.length_nil] at ih ⊢
    rw [Nat.pow_add]
    omega
theorem take_snoc {l : List UInt8} {k : Nat} (h : k < l.length) : l.take (k + 1) = l.take k ++ [l[k]] := by
  rw [List.take_succ_eq_append_getElem h]

theorem size_byte (w : World) : (Go.sizeOf 5).run Try.prog w = .ok 1 w := by kernel_rfl

theorem slice_to {P : Program} (W : World) (t e : TypeId) (ht : P.underlying t = some (.slice e)) (hz : ∀ w, (Go.sizeOf e).run P w = .ok 1 w) (ao : Option Addr) (n c k : Nat) (hk : k ≤ c) :
    (Instr.slice t (.slice ao n c) none (some (.int .i64 (k : Int))) none).run P W = .ok (.slice ao k c) W := by
  have ht' : P.underlying t = some (.slice (P.elem t)) := by simp [Program.elem, ht]
  have he : P.elem t = e := by simp [Program.elem, ht]
  rw [run_slice_h W t _ _ _ ht' .i64 _ (by omega) (by omega), he, hz]
  cases ao <;> simp [Result.andThen, sliced, Addr.add]

theorem slice_from {P : Program} (W : World) (t e : TypeId) (ht : P.underlying t = some (.slice e)) (hz : ∀ w, (Go.sizeOf e).run P w = .ok 1 w) (ao : Option Addr) (n c k : Nat) (hk : k ≤ n) :
    (Instr.slice t (.slice ao n c) (some (.int .i64 (k : Int))) none none).run P W = .ok (.slice (cutA ao c k) (n - k) (c - k)) W := by
  have ht' : P.underlying t = some (.slice (P.elem t)) := by simp [Program.elem, ht]
  have he : P.elem t = e := by simp [Program.elem, ht]
  rw [run_slice_l W t _ _ _ ht' .i64 _ (by omega) (by omega), he, hz]
  simp [Result.andThen, sliced, cutA]

/-- What a step writes into its slot, in short names. -/
theorem pq1 (l : List Value) (i : Nat) (v : Value) : l.toArray.setIfInBounds i v = (l.set i v).toArray := List.setIfInBounds_toArray ..
theorem pq2 (x : Value) (l : List Value) (v : Value) : (x :: l).set 0 v = v :: l := rfl
theorem pq3 (x : Value) (l : List Value) (i : Nat) (v : Value) : (x :: l).set (i + 1) v = x :: l.set i v := rfl

end Go.Proofs.Ytfaipdifkmjdeaa
