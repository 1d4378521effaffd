/- A disk in memory, in words of our own; what outlasts what. No condition but those that each lemma names. -/
import Derived.Test.YtfaipdifkmjdeaaDkM
import Derived.Test.YtfaipdifkmjdeaaIMap
import Derived.Test.YtfaipdifkmjdeaaMBox
import Derived.Test.YtfaipdifkmjdeaaMRwG
namespace Go.Proofs.Ytfaipdifkmjdeaa
open Go.RowKit

/-- Nothing old has changed but these blocks. -/
structure Fr (w a : World) (F : List Nat) : Prop where
  os : a.os = w.os
  tape : a.tape = w.tape
  output : a.output = w.output
  size : w.heap.size ≤ a.heap.size
  block : ∀ k, k < w.heap.size → k ∉ F → a.heap[k]? = w.heap[k]?

theorem Fr.refl (w : World) (F : List Nat) : Fr w w F := ⟨rfl, rfl, rfl, Nat.le_refl _, fun _ _ _ => rfl⟩
theorem Fr.trans {w a b : World} {F G : List Nat} (h : Fr w a F) (k : Fr a b G) (hs : ∀ x ∈ G, x ∈ F ∨ w.heap.size ≤ x) : Fr w b F :=
  ⟨k.os.trans h.os, k.tape.trans h.tape, k.output.trans h.output, Nat.le_trans h.size k.size, fun i hi hne => by
    rw [k.block i (Nat.lt_of_lt_of_le hi h.size) (fun hg => by rcases hs i hg with h1 | h1; exact hne h1; omega), h.block i hi hne]⟩
theorem Fr.more {w a : World} {F G : List Nat} (h : Fr w a F) (hs : ∀ x ∈ F, x ∈ G ∨ w.heap.size ≤ x) : Fr w a G := (Fr.refl w G).trans h hs
theorem Fr.of {w a : World} {r : Option Nat} {F : List Nat} (g : w.grownBy a r) (h : ∀ x, r = some x → x ∈ F ∨ w.heap.size ≤ x) : Fr w a F :=
  ⟨g.os, g.tape, g.output, g.size, fun k hk hne => g.block k hk (fun e => by rcases h k e.symm with h1 | h1; exact hne h1; omega)⟩
theorem Fr.none {w a : World} (g : w.grownBy a Option.none) (F : List Nat) : Fr w a F := Fr.of g (fun _ e => by cases e)
theorem Fr.then {w a b : World} {F : List Nat} {r : Option Nat} (h : Fr w a F) (g : a.grownBy b r) (hs : ∀ x, r = some x → x ∈ F ∨ w.heap.size ≤ x) : Fr w b F :=
  h.trans (G := F ++ r.toList) (Fr.of g (fun x e => Or.inl (by simp [e]))) (fun x hx => by
    rcases List.mem_append.1 hx with h1 | h1
    · exact Or.inl h1
    · exact hs x (by simpa using h1))
theorem Fr.below {w a : World} {F : List Nat} {n : Nat} (h : Fr w a F) (hn : n ≤ w.heap.size) (hF : ∀ x ∈ F, n ≤ x) : Below n w a :=
  ⟨h.os, h.tape, h.output, h.size, fun k hk => h.block k (Nat.lt_of_lt_of_le hk hn) (fun hf => by have := hF k hf; omega)⟩
theorem Fr.gb {w a : World} {F : List Nat} (h : Fr w a F) (hF : ∀ x ∈ F, w.heap.size ≤ x) : w.grownBy a Option.none :=
  ⟨h.os, h.tape, h.output, h.size, fun k hk _ => h.block k hk (fun hf => by have := hF k hf; omega)⟩
theorem Fr.blk {w a : World} {F : List Nat} {b : Nat} {t : TypeId} {cs : List Value} (g : Fr w a F) (h : Blk w b t cs) (hb : b ∉ F) : Blk a b t cs := by
  unfold Blk; rw [g.block b h.lt hb]; exact h
theorem Fr.own {w a : World} {F : List Nat} {base k n : Nat} {t : TypeId} {v : Value} {xs : List Value} (g : Fr w a F) (h : w.ownsRow base t k v n xs) (hb : ∀ b, v.ownBlock = some b → b ∉ F) : a.ownsRow base t k v n xs := by
  refine ⟨h.1, ?_⟩
  rcases h.2 with h1 | ⟨p, cap, cur, hv, hg, hh, hr⟩
  · exact Or.inl h1
  · subst hv
    refine Or.inr ⟨p, cap, cur, rfl, hg, ?_, hr⟩
    rw [g.block p (Array.getElem?_eq_some_iff.1 hh).1 (hb p rfl)]
    exact hh
theorem Fr.map {w a : World} {F : List Nat} {m : Nat} {K : List (Nat × Value)} (g : Fr w a F) (h : ImapAt w m K) (hb : m ∉ F) : ImapAt a m K := h.same (g.block m h.lt hb)
theorem Fr.cell {w a : World} {F : List Nat} (g : Fr w a F) {p : Addr} {v : Value} (h : w.cell? p = some v) (hne : p.block ∉ F) : a.cell? p = some v :=
  (World.cell?_of_block (g.block p.block (World.block_lt_of_cell? w p h) hne)).trans h
theorem Fr.bts {w a : World} {F : List Nat} {ao : Option Addr} {c : Nat} {l : List UInt8} (g : Fr w a F) (h : Bts w ao c l) (hb : ∀ ad, ao = some ad → ad.block ∉ F) : Bts a ao c l :=
  ⟨h.zip, h.fits, h.most, h.shape, fun ad e i hi => g.cell (h.cell ad e i hi) (hb ad e)⟩

/-- A sector's bytes as cells. -/
def secC (s : List UInt8) : List Value := s.map bv
theorem secC_len (s : List UInt8) : (secC s).length = s.length := by simp [secC]
theorem secC_one (s : List UInt8) : ∀ u ∈ secC s, u.oneCell' = true := bv_one s

/-- The writes under way, by their sectors: each a row of the call's own. -/
structure Und (u : Nat) (w : World) (m : Nat) (K : List (Nat × Value)) (U : List (Nat × List UInt8)) : Prop where
  map : ImapAt w m K
  keys : ∀ i, i ∈ K.map (·.1) ↔ i ∈ U.map (·.1)
  row : ∀ p ∈ K, w.ownsRow u 70 256 p.2 (rowsU U p.1).length ((rowsU U p.1).flatMap secC)
  apart : ∀ p ∈ K, ∀ q ∈ K, p.1 ≠ q.1 → p.2.ownBlock ≠ q.2.ownBlock

theorem Und.kept {u : Nat} {w a : World} {m : Nat} {K : List (Nat × Value)} {U : List (Nat × List UInt8)} {r : Option Nat} (h : Und u w m K U) (g : w.grownBy a r) (hm : some m ≠ r) (hr : ∀ p ∈ K, ∀ b, p.2.ownBlock = some b → some b ≠ r) : Und u a m K U :=
  ⟨h.map.kept g hm, h.keys, fun p hp => (h.row p hp).kept g (by
    cases hb : p.2.ownBlock with
    | none => exact Or.inl rfl
    | some b => exact Or.inr (hr p hp b hb)), h.apart⟩
theorem Und.fr {u : Nat} {w a : World} {m : Nat} {K : List (Nat × Value)} {U : List (Nat × List UInt8)} {F : List Nat} (h : Und u w m K U) (g : Fr w a F) (hm : m ∉ F) (hr : ∀ p ∈ K, ∀ b, p.2.ownBlock = some b → b ∉ F) : Und u a m K U :=
  ⟨g.map h.map hm, h.keys, fun p hp => g.own (h.row p hp) (hr p hp), h.apart⟩

/-- A disk in memory, and where its parts lie. -/
structure DiskM (u : Nat) (w : World) (F : List Nat) (d s c m : Nat) (X : List Value) (ov : Value) (K : List (Nat × Value)) (D : Dsk) : Prop where
  blk : Blk w d 61 [.slice (some ⟨s, 0, none⟩) D.safe.length c, ov, .map (some m), .int .i64 D.left, .bool D.down]
  sec : Blk w s 70 (D.safe.flatMap secC ++ X)
  fits : D.safe.length ≤ c ∧ c ≤ maxLen
  ord : w.ownsRow u 3 1 ov D.U.length (D.U.map fun x => keyN x.1)
  und : Und u w m K D.U
  inD : d ∈ F
  inS : s ∈ F
  inM : m ∈ F
  inO : ∀ b, ov.ownBlock = some b → b ∈ F
  inK : ∀ p ∈ K, ∀ b, p.2.ownBlock = some b → b ∈ F ∧ b ≠ s
  low : ∀ x ∈ F, u ≤ x ∧ x < w.heap.size
  ok : D.Ok
/-- A disk in memory: its blocks are among F, none older than u. -/
def DiskAt (u : Nat) (w : World) (F : List Nat) (d : Nat) (D : Dsk) : Prop := ∃ s c m X ov K, DiskM u w F d s c m X ov K D

theorem DiskM.at {u : Nat} {w : World} {F : List Nat} {d s c m : Nat} {X : List Value} {ov : Value} {K : List (Nat × Value)} {D : Dsk} (h : DiskM u w F d s c m X ov K D) : DiskAt u w F d D := ⟨s, c, m, X, ov, K, h⟩
theorem DiskAt.ok {u : Nat} {w : World} {F : List Nat} {d : Nat} {D : Dsk} (h : DiskAt u w F d D) : D.Ok := by
  obtain ⟨s, c, m, X, ov, K, h⟩ := h
  exact h.ok
theorem DiskAt.low {u : Nat} {w : World} {F : List Nat} {d : Nat} {D : Dsk} (h : DiskAt u w F d D) : ∀ x ∈ F, u ≤ x ∧ x < w.heap.size := by
  obtain ⟨s, c, m, X, ov, K, h⟩ := h
  exact h.low
theorem DiskAt.base {u : Nat} {w : World} {F : List Nat} {d : Nat} {D : Dsk} (h : DiskAt u w F d D) : u ≤ w.heap.size := by
  obtain ⟨s, c, m, X, ov, K, h⟩ := h
  have := h.low _ h.inD
  omega
theorem DiskM.fr {u : Nat} {w a : World} {F G : List Nat} {d s c m : Nat} {X : List Value} {ov : Value} {K : List (Nat × Value)} {D : Dsk} (h : DiskM u w F d s c m X ov K D) (g : Fr w a G) (hG : ∀ x ∈ F, x ∉ G) : DiskM u a F d s c m X ov K D :=
  ⟨g.blk h.blk (hG _ h.inD), g.blk h.sec (hG _ h.inS), h.fits, g.own h.ord (fun b hb => hG _ (h.inO b hb)), h.und.fr g (hG _ h.inM) (fun p hp b hb => hG _ (h.inK p hp b hb).1), h.inD, h.inS, h.inM, h.inO, h.inK, fun x hx => ⟨(h.low x hx).1, Nat.lt_of_lt_of_le (h.low x hx).2 g.size⟩, h.ok⟩
/-- Another disk, or anything that lies apart, is changed: this one stays as it is. -/
theorem DiskAt.fr {u : Nat} {w a : World} {F G : List Nat} {d : Nat} {D : Dsk} (h : DiskAt u w F d D) (g : Fr w a G) (hG : ∀ x ∈ F, x ∉ G) : DiskAt u a F d D := by
  obtain ⟨s, c, m, X, ov, K, h⟩ := h
  exact (h.fr g hG).at
theorem DiskAt.none {u : Nat} {w a : World} {F : List Nat} {d : Nat} {D : Dsk} (h : DiskAt u w F d D) (g : w.grownBy a Option.none) : DiskAt u a F d D := h.fr (Fr.none g []) (fun _ _ e => by cases e)
/-- What a call leaves of a disk. -/
def Left (u : Nat) (w w' : World) (F : List Nat) (d : Nat) (D : Dsk) : Prop := ∃ F', DiskAt u w' F' d D ∧ Fr w w' F ∧ ∀ x ∈ F', x ∈ F ∨ w.heap.size ≤ x

end Go.Proofs.Ytfaipdifkmjdeaa
