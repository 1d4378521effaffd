/- A block that is known whole, and what stores, rows and parts of it leave. No condition but those that each lemma names. -/
import Derived.Test.YtfaipdifkmjdeaaMem
import Derived.Deep.MidRow
import Derived.Deep.RegionHeld3
import Derived.Laws.BitsAllLaws
namespace Go.Proofs.Ytfaipdifkmjdeaa
open Go.RowKit

/-- A row of words, or of bytes, by value: its element. -/
theorem index_row {P : Program} (t e : TypeId) (n : Nat) (cs : List Value) (i : Nat) (v : Value) (hu : P.underlying t = some (.array n e)) (hz : ∀ w, (Go.sizeOf e).run P w = .ok 1 w) (ha : ∀ w, (isAgg e).run P w = .ok false w)
    (hi : i < n) (hv : cs[i]? = some v) (w : World) : (Instr.index t (.agg cs.toArray) (.int .i64 (i : Int))).run P w = .ok v w := by
  simp only [Instr.index, asIntOf, Sem.run_bind, Sem.run_pure, Result.andThen_ok, run_underlying hu]
  rw [if_pos (by omega)]
  simp [part, hz, ha, hv]

theorem agg_byte (w : World) : (isAgg 5).run Try.prog w = .ok false w := by kernel_rfl

/-- The block b holds just these cells, and they may be written. -/
def Blk (w : World) (b : Nat) (t : TypeId) (cs : List Value) : Prop := w.heap[b]? = some (.cells cs.toArray t (0, 0))

theorem Blk.lt {w : World} {b : Nat} {t : TypeId} {cs : List Value} (h : Blk w b t cs) : b < w.heap.size := (Array.getElem?_eq_some_iff.1 h).1

theorem Blk.cell {w : World} {b : Nat} {t : TypeId} {cs : List Value} (h : Blk w b t cs) (j : Nat) : w.cell? ⟨b, j, none⟩ = cs[j]? := by
  rw [cell_of_row w b j _ t _ h]; simp

theorem Blk.fz {w : World} {b : Nat} {t : TypeId} {cs : List Value} (h : Blk w b t cs) (o : Nat) : w.frozen? ⟨b, o, none⟩ = false := by
  unfold Blk at h; simp [World.frozen?, h]

theorem Blk.kept {w a : World} {b : Nat} {t : TypeId} {cs : List Value} {r : Option Nat} (h : Blk w b t cs) (g : w.grownBy a r) (hr : some b ≠ r) : Blk a b t cs := by
  unfold Blk; rw [g.block b h.lt hr]; exact h

theorem Blk.alloc {w : World} {b : Nat} {t : TypeId} {cs : List Value} (h : Blk w b t cs) (o : Obj) : Blk (w.alloc o) b t cs := h.kept (World.grownBy_alloc w o none) (by simp)

theorem Blk.new (w : World) (t : TypeId) (cs : List Value) : Blk (w.alloc (.cells cs.toArray t)) w.heap.size t cs := heap_alloc_new w _

theorem Blk.set {w : World} {b : Nat} {t : TypeId} {cs : List Value} (h : Blk w b t cs) (j : Nat) (v : Value) : Blk (w.setCell ⟨b, j, none⟩ v) b t (cs.set j v) := by
  unfold Blk at h ⊢
  simp [World.setCell, Array.getElem?_modify, h]

theorem Blk.other {w : World} {b : Nat} {t : TypeId} {cs : List Value} (h : Blk w b t cs) (p : Addr) (v : Value) (hp : p.block ≠ b) : Blk (w.setCell p v) b t cs := by
  unfold Blk at h ⊢
  rw [heap_setCell_other w p b v (fun e => hp e.symm)]; exact h

theorem Blk.there {w : World} {b : Nat} {t : TypeId} {cs : List Value} (h : Blk w b t cs) (o n : Nat) (hn : o + n ≤ cs.length) : ∀ j, j < n → (w.cell? ⟨b, o + j, none⟩).isSome = true ∧ w.frozen? ⟨b, o + j, none⟩ = false := by
  intro j hj
  refine ⟨?_, h.fz _⟩
  rw [h.cell, List.getElem?_eq_getElem (by omega)]; rfl

theorem range_kept {w a : World} {b o : Nat} {cs : List Value} {r : Option Nat} (h : w.rangeAt b o cs) (g : w.grownBy a r) (hr : some b ≠ r) : a.rangeAt b o cs :=
  fun j v hv => g.cell (h j v hv) hr

/-- A part of an array in memory. -/
theorem slice_arr {P : Program} (t e : TypeId) (n : Nat) (ht : P.underlying t = some (.array n e)) (hz : ∀ w, (Go.sizeOf e).run P w = .ok 1 w) (b o lo hi : Nat) (zl zh : Int) (hl : zl = (lo : Int)) (hh : zh = (hi : Int)) (h1 : lo ≤ hi) (h2 : hi ≤ n) (h3 : lo < n) (W : World) :
    (Instr.sliceAt t (.pointer (some ⟨b, o, none⟩)) (some (.int .i64 zl)) (some (.int .i64 zh)) none).run P W = .ok (.slice (some ⟨b, o + lo, none⟩) (hi - lo) (n - lo)) W := by
  subst hl hh
  have ea : P.arrayLen t = n := by simp [Program.arrayLen, ht]
  have ee : P.elem t = e := by simp [Program.elem, ht]
  rw [run_sliceAt_array_lh W t ⟨b, o, none⟩ (by rw [ea, ee]; exact ht) .i64 .i64 _ _ (by omega) (by omega) (by omega), ea, ee, hz]
  simp only [Result.andThen_ok, slicedAt, Int.toNat_natCast, Nat.mul_one]
  rw [if_neg (by omega), Addr.add_mid]

theorem slice_arr_from {P : Program} (t e : TypeId) (n : Nat) (ht : P.underlying t = some (.array n e)) (hz : ∀ w, (Go.sizeOf e).run P w = .ok 1 w) (b o lo : Nat) (zl : Int) (hl : zl = (lo : Int)) (h3 : lo < n) (W : World) :
    (Instr.sliceAt t (.pointer (some ⟨b, o, none⟩)) (some (.int .i64 zl)) none none).run P W = .ok (.slice (some ⟨b, o + lo, none⟩) (n - lo) (n - lo)) W := by
  subst hl
  have ea : P.arrayLen t = n := by simp [Program.arrayLen, ht]
  have ee : P.elem t = e := by simp [Program.elem, ht]
  rw [run_sliceAt_array_l W t ⟨b, o, none⟩ (by rw [ea, ee]; exact ht) .i64 _ (by omega) (by omega), ea, ee, hz]
  simp only [Result.andThen_ok, slicedAt, Int.toNat_natCast, Nat.mul_one]
  rw [if_neg (by omega), Addr.add_mid]

theorem Blk.drew {w : World} {b : Nat} {t : TypeId} {cs : List Value} (h : Blk w b t cs) : Blk w.drew b t cs := h

theorem gb_drew {w a : World} {r : Option Nat} (h : w.grownBy a r) : w.grownBy a.drew r := ⟨h.os, h.tape, h.output, h.size, h.block⟩

theorem Blk.row {w : World} {b : Nat} {t : TypeId} {cs : List Value} (h : Blk w b t cs) (cs' : List Value) : Blk (w.setRow b cs'.toArray) b t cs' := by
  unfold Blk at h ⊢
  simp [World.setRow, Array.getElem?_modify, h]

theorem Blk.row_other {w : World} {b : Nat} {t : TypeId} {cs : List Value} (h : Blk w b t cs) (g : Nat) (cs' : Array Value) (hp : g ≠ b) : Blk (w.setRow g cs') b t cs := by
  unfold Blk at h ⊢
  simp [World.setRow, Array.getElem?_modify, h, hp]

theorem gb_row {w a : World} {r : Option Nat} (h : w.grownBy a r) (cs : Array Value) {g : Nat} (hp : w.heap.size ≤ g ∨ r = some g) : w.grownBy (a.setRow g cs) r :=
  gb_trans h (s := some g) ⟨rfl, rfl, rfl, by simp, fun k _ hne => by
    have : g ≠ k := fun e => hne (by rw [e])
    simp [World.setRow, Array.getElem?_modify, this]⟩ (fun x e => by cases e; exact hp)

theorem gb_drewN {w a : World} {r : Option Nat} (h : w.grownBy a r) (n : Nat) : w.grownBy (a.drewN n) r := ⟨h.os, h.tape, h.output, h.size, h.block⟩

theorem Blk.setCells {b : Nat} {t : TypeId} : ∀ (vs old : List Value) {w : World} {A C : List Value}, Blk w b t (A ++ (old ++ C)) → old.length = vs.length → Blk (w.setCells b A.length vs) b t (A ++ (vs ++ C))
  | [], old, w, A, C, h, hl => by
    have : old = [] := List.length_eq_zero_iff.1 (by simpa using hl)
    subst this
    exact h
  | v :: r, [], w, A, C, h, hl => by simp at hl
  | v :: r, o :: old, w, A, C, h, hl => by
    have h1 := h.set A.length v
    rw [List.set_append_right _ _ (Nat.le_refl _), Nat.sub_self, List.cons_append, List.set_cons_zero] at h1
    have h2 := Blk.setCells r old (w := w.setCell ⟨b, A.length, none⟩ v) (A := A ++ [v]) (C := C) (by simpa using h1) (by simpa using hl)
    simpa [World.setCells] using h2

theorem Blk.setCells_other {b b' : Nat} {t : TypeId} {cs : List Value} (hne : b' ≠ b) : ∀ (vs : List Value) (o : Nat) {w : World}, Blk w b t cs → Blk (w.setCells b' o vs) b t cs
  | [], _, _, h => h
  | v :: r, o, _, h => Blk.setCells_other hne r (o + 1) (h.other ⟨b', o, none⟩ v hne)

theorem gb_setCells {w : World} {r : Option Nat} {b : Nat} (hp : w.heap.size ≤ b ∨ r = some b) : ∀ (vs : List Value) (o : Nat) {a : World}, w.grownBy a r → w.grownBy (a.setCells b o vs) r
  | [], _, _, h => h
  | v :: vs, o, _, h => gb_setCells hp vs (o + 1) (gb_setCell h ⟨b, o, none⟩ v hp)

theorem setCells_snoc (b : Nat) (v : Value) : ∀ (vs : List Value) (o : Nat) (w : World), (w.setCells b o vs).setCell ⟨b, o + vs.length, none⟩ v = w.setCells b o (vs ++ [v])
  | [], _, _ => rfl
  | x :: r, o, w => by
    have := setCells_snoc b v r (o + 1) (w.setCell ⟨b, o, none⟩ x)
    simp only [List.cons_append, World.setCells, List.length_cons]
    rw [← this]
    congr 2
    omega

theorem Blk.range {w : World} {b : Nat} {t : TypeId} {A vs C : List Value} (h : Blk w b t (A ++ (vs ++ C))) : w.rangeAt b A.length vs := by
  intro j v hv
  have hj : j < vs.length := (List.getElem?_eq_some_iff.1 hv).1
  rw [h.cell, List.getElem?_append_right (by omega), Nat.add_sub_cancel_left, List.getElem?_append_left hj, hv]

theorem Blk.thereIn {w : World} {b : Nat} {t : TypeId} {A vs C : List Value} (h : Blk w b t (A ++ (vs ++ C))) : w.there b A.length vs.length :=
  fun j hj => ⟨h.range.isSome j hj, h.fz _⟩

end Go.Proofs.Ytfaipdifkmjdeaa
