/- A block that is known whole, and what stores, rows and parts of it leave. No condition but those that each lemma names. -/
import Derived.Test.YtjckdgapefaokaaDoorMem
import Derived.Deep.MidRow
import Derived.Deep.RegionHeld3
import Derived.Laws.BitsAllLaws
namespace Go.Proofs.YtjckdgapefaokaaDoor
open Go.RowKit

/-- A row of words, or of bytes, by value: its element. -/
theorem index_row {P : Program} (t e : TypeId) (n : Nat) (cs : List Value) (i : Nat) (v : Value) (hu : P.underlying t = some (.array n e)) (hz : ∀ w, (Go.sizeOf e).run P w = .ok 1 w) (ha : ∀ w, (isAgg e).run P w = .ok false w)
    (hi : i < n) (hv : cs[i]? = some v) (w : World) : (Instr.index t (.agg cs.toArray) (.int .i64 (i : Int))).run P w = .ok v w := by
  simp only [Instr.index, asIntOf, Sem.run_bind, Sem.run_pure, Result.andThen_ok, run_underlying hu]
  rw [if_pos (by omega)]
  simp [part, hz, ha, hv]

theorem agg_byte (w : World) : (isAgg 5).run Tryd.prog w = .ok false w := by kernel_rfl

/-- The block b holds just these cells, and they may be written. -/
def Blk (w : World) (b : Nat) (t : TypeId) (cs : List Value) : Prop := w.heap[b]? = some (.cells cs.toArray t (0, 0))

theorem Blk.lt {w : World} {b : Nat} {t : TypeId} {cs : List Value} (h : Blk w b t cs) : b < w.heap.size := (Array.getElem?_eq_some_iff.1 h).1

theorem Blk.cell {w : World} {b : Nat} {t : TypeId} {cs : List Value} (h : Blk w b t cs) (j : Nat) : w.cell? ⟨b, j, none⟩ = cs[j]? := by
  rw [cell_of_row w b j _ t _ h]; simp

theorem Blk.fz {w : World} {b : Nat} {t : TypeId} {cs : List Value} (h : Blk w b t cs) (o : Nat) : w.frozen? ⟨b, o, none⟩ = false := by
  unfold Blk at h; simp [World.frozen?, h]

theorem Blk.kept {w a : World} {b : Nat} {t : TypeId} {cs : List Value} {r : Option Nat} (h : Blk w b t cs) (g : w.grownBy a r) (hr : some b ≠ r) : Blk a b t cs := by
  unfold Blk; rw [g.block b h.lt hr]; exact h

theorem Blk.alloc {w : World} {b : Nat} {t : TypeId} {cs : List Value} (h : Blk w b t cs) (o : Obj) : Blk (w.alloc o) b t cs := h.kept (World.grownBy_alloc w o none) (by simp)

theorem Blk.new (w : World) (t : TypeId) (cs : List Value) : Blk (w.alloc (.cells cs.toArray t)) w.heap.size t cs := heap_alloc_new w _

theorem Blk.set {w : World} {b : Nat} {t : TypeId} {cs : List Value} (h : Blk w b t cs) (j : Nat) (v : Value) : Blk (w.setCell ⟨b, j, none⟩ v) b t (cs.set j v) := by
  unfold Blk at h ⊢
  simp [World.setCell, Array.getElem?_modify, h]

theorem Blk.other {w : World} {b : Nat} {t : TypeId} {cs : List Value} (h : Blk w b t cs) (p : Addr) (v : Value) (hp : p.block ≠ b) : Blk (w.setCell p v) b t cs := by
  unfold Blk at h ⊢
  rw [heap_setCell_other w p b v (fun e => hp e.symm)]; exact h

theorem Blk.there {w : World} {b : Nat} {t : TypeId} {cs : List Value} (h : Blk w b t cs) (o n : Nat) (hn : o + n ≤ cs.length) : ∀ j, j < n → (w.cell? ⟨b, o + j, none⟩).isSome = true ∧ w.frozen? ⟨b, o + j, none⟩ = false := by
  intro j hj
  refine ⟨?_, h.fz _⟩
  rw [h.cell, List.getElem?_eq_getElem (by omega)]; rfl

theorem range_kept {w a : World} {b o : Nat} {cs : List Value} {r : Option Nat} (h : w.rangeAt b o cs) (g : w.grownBy a r) (hr : some b ≠ r) : a.rangeAt b o cs :=
  fun j v hv => g.cell (h j v hv) hr

/-- A part of an array in memory. -/
theorem slice_arr {P : Program} (t e : TypeId) (n : Nat) (ht : P.underlying t = some (.array n e)) (hz : ∀ w, (Go.sizeOf e).run P w = .ok 1 w) (b o lo hi : Nat) (zl zh : Int) (hl : zl = (lo : Int)) (hh : zh = (hi : Int)) (h1 : lo ≤ hi) (h2 : hi ≤ n) (h3 : lo < n) (W : World) :
    (Instr.sliceAt t (.pointer (some ⟨b, o, none⟩)) (some (.int .i64 zl)) (some (.int .i64 zh)) none).run P W = .ok (.slice (some ⟨b, o + lo, none⟩) (hi - lo) (n - lo)) W := by
  subst hl hh
  have ea : P.arrayLen t = n := by simp [Program.arrayLen, ht]
  have ee : P.elem t = e := by simp [Program.elem, ht]
  rw [run_sliceAt_array_lh W t ⟨b, o, none⟩ (by rw [ea, ee]; exact ht) .i64 .i64 _ _ (by omega) (by omega) (by omega), ea, ee, hz]
  simp only [Result.andThen_ok, slicedAt, Int.toNat_natCast, Nat.mul_one]
  rw [if_neg (by omega), Addr.add_mid]

theorem slice_arr_from {P : Program} (t e : TypeId) (n : Nat) (ht : P.underlying t = some (.array n e)) (hz : ∀ w, (Go.sizeOf e).run P w = .ok 1 w) (b o lo : Nat) (zl : Int) (hl : zl = (lo : Int)) (h3 : lo < n) (W : World) :
    (Instr.sliceAt t (.pointer (some ⟨b, o, none⟩)) (some (.int .i64 zl)) none none).run P W = .ok (.slice (some ⟨b, o + lo, none⟩) (n - lo) (n - lo)) W := by
  subst hl
  have ea : P.arrayLen t = n := by simp [Program.arrayLen, ht]
  have ee : P.elem t = e := by simp [Program.elem, ht]
  rw [run_sliceAt_array_l W t ⟨b, o, none⟩ (by rw [ea, ee]; exact ht) .i64 _ (by omega) (by omega), ea, ee, hz]
  simp only [Result.andThen_ok, slicedAt, Int.toNat_natCast, Nat.mul_one]
  rw [if_neg (by omega), Addr.add_mid]

theorem Blk.drew {w : World} {b : Nat} {t : TypeId} {cs : List Value} (h : Blk w b t cs) : Blk w.drew b t cs := h

theorem gb_drew {w a : World} {r : Option Nat} (h : w.grownBy a r) : w.grownBy a.drew r := ⟨h.os, h.tape, h.output, h.size, h.block⟩

theorem Blk.row {w : World} {b : Nat} {t : TypeId} {cs : List Value} (h : Blk w b t cs) (cs' : List Value) : Blk (w.setRow b cs'.toArray) b t cs' := by
  unfold Blk at h ⊢
  simp [World.setRow, Array.getElem?_modify, h]

theorem Blk.row_other {w : World} {b : Nat} {t : TypeId} {cs : List Value} (h : Blk w b t cs) (g : Nat) (cs' : Array Value) (hp : g ≠ b) : Blk (w.setRow g cs') b t cs := by
  unfold Blk at h ⊢
  simp [World.setRow, Array.getElem?_modify, h, hp]

theorem gb_row {w a : World} {r : Option Nat} (h : w.grownBy a r) (cs : Array Value) {g : Nat} (hp : w.heap.size ≤ g ∨ r = some g) : w.grownBy (a.setRow g cs) r :=
  gb_trans h (s := some g) ⟨rfl, rfl, rfl, by simp, fun k _ hne => by
    have : g ≠ k := fun e => hne (by rw [e])
    simp [World.setRow, Array.getElem?_modify, this]⟩ (fun x e => by cases e; exact hp)

theorem gb_drewN {w a : World} {r : Option Nat} (h : w.grownBy a r) (n : Nat) : w.grownBy (a.drewN n) r := ⟨h.os, h.tape, h.output, h.size, h.block⟩

theorem Blk.setCells {b : Nat} {t : TypeId} : ∀ (vs old : List Value) {w : World} {A C : List Value}, Blk w b t (A ++ (old ++ C)) → old.length = vs.length → Blk (w.setCells b A.length vs) b t (A ++ (vs ++ C))
  | [], old, w, A, C, h, hl => by
    have : old = [] := List.length_eq_zero_iff.1 (by simpa using hl)
    subst this
    exact h
  | v :: r, [], w, A, C, h, hl => by simp at hl
  | v :: r, o :: old, w, A, C, h, hl => by
    have h1 := h.set A.length v
    rw [List.set_append_right _ _ (Nat.le_refl _), Nat.sub_self, List.cons_append, List.set_cons_zero] at h1
    have h2 := Blk.setCells r old (w := w.setCell ⟨b, A.length, none⟩ v) (A := A ++ [v]) (C := C) (by simpa using h1) (by simpa using hl)
    simpa [World.setCells] using h2

theorem Blk.setCells_other {b b' : Nat} {t : TypeId} {cs : List Value} (hne : b' ≠ b) : ∀ (vs : List Value) (o : Nat) {w : World}, Blk w b t cs → Blk (w.setCells b' o vs) b t cs
  | [], _, _, h => h
  | v :: r, o, _, h => Blk.setCells_other hne r (o + 1) (h.other ⟨b', o, none⟩ v hne)

theorem gb_setCells {w : World} {r : Option Nat} {b : Nat} (hp : w.heap.size ≤ b ∨ r = some b) : ∀ (vs : List Value) (o : Nat) {a : World}, w.grownBy a r → w.grownBy (a.setCells b o vs) r
  | [], _, _, h => h
  | v :: vs, o, _, h => gb_setCells hp vs (o + 1) (gb_setCell h ⟨b, o, none⟩ v hp)

theorem setCells_snoc (b : Nat) (v : Value) : ∀ (vs : List Value) (o : Nat) (w : World), (w.setCells b o vs).setCell ⟨b, o + vs.length, none⟩ v = w.setCells b o (vs ++ [v])
  | [], _, _ => rfl
  | x :: r, o, w => by
    have := setCells_snoc b v r (o + 1) (w.setCell ⟨b, o, none⟩ x)
    simp only [List.cons_append, World.setCells, List.length_cons]
    rw [← this]
    congr 2
    omega

theorem Blk.range {w : World} {b : Nat} {t : TypeId} {A vs C : List Value} (h : Blk w b t (A ++ (vs ++ C))) : w.rangeAt b A.length vs := by
  intro j v hv
  have hj : j < vs.length := (List.getElem?_eq_some_iff.1 hv).1
  rw [h.cell, List.getElem?_append_right (by omega), Nat.add_sub_cancel_left, List.getElem?_append_left hj, hv]

theorem Blk.thereIn {w : World} {b : Nat} {t : TypeId} {A vs C : List Value} (h : Blk w b t (A ++ (vs ++ C))) : w.there b A.length vs.length :=
  fun j hj => ⟨h.range.isSome j hj, h.fz _⟩

end Go.Proofs.YtjckdgapefaokaaDoor

/- Parts of arrays in memory as slices, and what they hold. No condition but those that each lemma names. -/
namespace Go.Proofs.YtjckdgapefaokaaDoor
open Go.RowKit

theorem slice_arr_head {P : Program} (t e : TypeId) (n : Nat) (ht : P.underlying t = some (.array n e)) (hz : ∀ w, (Go.sizeOf e).run P w = .ok 1 w) (b hi : Nat) (h2 : hi ≤ n) (h3 : 0 < n) (W : World) :
    (Instr.sliceAt t (.pointer (some ⟨b, 0, none⟩)) none (some (.int .i64 (hi : Int))) none).run P W = .ok (.slice (some ⟨b, 0, none⟩) hi n) W := by
  have ea : P.arrayLen t = n := by simp [Program.arrayLen, ht]
  have ee : P.elem t = e := by simp [Program.elem, ht]
  rw [run_sliceAt_array_h W t ⟨b, 0, none⟩ (by rw [ea, ee]; exact ht) .i64 _ (by omega) (by omega), ea, ee, hz]
  simp only [Result.andThen_ok, slicedAt, Int.toNat_natCast, Nat.zero_mul, Nat.sub_zero]
  rw [if_neg (by omega), Addr.add_mid]
theorem blk_head {w : World} {b : Nat} {t : TypeId} {l : List UInt8} (h : Blk w b t (l.map bv)) (n : Nat) : w.rangeAt b 0 ((l.take n).map bv) := by
  have : Blk w b t ([] ++ ((l.take n).map bv ++ (l.drop n).map bv)) := by
    rw [List.nil_append, ← List.map_append, List.take_append_drop]; exact h
  exact this.range
theorem blk_range5 {w : World} {b : Nat} {t : TypeId} {vs : List Value} (h : Blk w b t vs) : w.rangeAt b 0 vs := by
  have : Blk w b t ([] ++ (vs ++ [])) := by simpa using h
  exact this.range
theorem slice_arr_tail {P : Program} (t e : TypeId) (n : Nat) (ht : P.underlying t = some (.array n e)) (hz : ∀ w, (Go.sizeOf e).run P w = .ok 1 w) (b lo : Nat) (h2 : lo < n) (W : World) :
    (Instr.sliceAt t (.pointer (some ⟨b, 0, none⟩)) (some (.int .i64 (lo : Int))) none none).run P W = .ok (.slice (some ⟨b, lo, none⟩) (n - lo) (n - lo)) W := by
  have ea : P.arrayLen t = n := by simp [Program.arrayLen, ht]
  have ee : P.elem t = e := by simp [Program.elem, ht]
  rw [run_sliceAt_array_l W t ⟨b, 0, none⟩ (by rw [ea, ee]; exact ht) .i64 _ (by omega) (by omega), ea, ee, hz]
  simp only [Result.andThen_ok, slicedAt, Int.toNat_natCast, Nat.mul_one]
  rw [if_neg (by omega), Addr.add_mid, Nat.zero_add]
theorem blk_bytes {w : World} {b : Nat} {t : TypeId} {l : List UInt8} (h : Blk w b t (l.map bv)) (c : Nat) (hc : l.length ≤ c) (hm : c ≤ maxLen) : Bts w (some ⟨b, 0, none⟩) c l := by
  refine ⟨(fun e => by cases e), hc, hm, (fun ad e _ => by cases e; rfl), (fun ad e i hi => ?_)⟩
  cases e
  show w.cell? ⟨b, 0 + i, none⟩ = _
  rw [Nat.zero_add, h.cell, List.getElem?_map, List.getElem?_eq_getElem hi]
  rfl
theorem slice_whole5 {P : Program} (t e : TypeId) (n : Nat) (ht : P.underlying t = some (.array n e)) (hz : ∀ w, (Go.sizeOf e).run P w = .ok 1 w) (b o : Nat) (h3 : 0 < n) (W : World) :
    (Instr.sliceAt t (.pointer (some ⟨b, o, none⟩)) none none none).run P W = .ok (.slice (some ⟨b, o, none⟩) n n) W := by
  have ea : P.arrayLen t = n := by simp [Program.arrayLen, ht]
  have ee : P.elem t = e := by simp [Program.elem, ht]
  rw [run_sliceAt_array_all W t ⟨b, o, none⟩ (by rw [ea, ee]; exact ht), ea, ee, hz]
  simp only [Result.andThen_ok, slicedAt, Nat.zero_mul, Nat.sub_zero]
  rw [if_neg (by omega), Addr.add_mid]
  rfl
/-- A part with no spare room. -/
theorem slice_shut {P : Program} (W : World) (t e : TypeId) (ht : P.underlying t = some (.slice e)) (hz : ∀ w, (Go.sizeOf e).run P w = .ok 1 w) (ao : Option Addr) (n c k : Nat) (hk : k ≤ c) :
    (Instr.slice t (.slice ao n c) none (some (.int .i64 (k : Int))) (some (.int .i64 (k : Int)))).run P W = .ok (.slice ao k k) W := by
  have ht' : P.underlying t = some (.slice (P.elem t)) := by simp [Program.elem, ht]
  have he : P.elem t = e := by simp [Program.elem, ht]
  rw [run_slice_hm W t _ _ _ ht' .i64 .i64 _ _ (by omega) (by omega) (by omega), he, hz]
  cases ao <;> simp [Result.andThen, sliced, Addr.add]
/-- The second half of a block, as bytes. -/
theorem blk_back {w : World} {b : Nat} {t : TypeId} {l : List UInt8} (h : Blk w b t (l.map bv)) (o c : Nat) (hc : l.length - o ≤ c) (hm : c ≤ maxLen) : Bts w (some ⟨b, o, none⟩) c (l.drop o) := by
  refine ⟨(fun e => by cases e), by simpa using hc, hm, (fun ad e _ => by cases e; rfl), (fun ad e i hi => ?_)⟩
  cases e
  show w.cell? ⟨b, o + i, none⟩ = _
  have hi2 : o + i < l.length := by simp at hi; omega
  rw [h.cell, List.getElem?_map, List.getElem?_eq_getElem hi2]
  simp [bv]

end Go.Proofs.YtjckdgapefaokaaDoor

/- Guarded operations of a region that goes in its order. No condition but those that each lemma names. -/
namespace Go.Proofs.YtjckdgapefaokaaDoor
open Go.RowKit

/-- A region whose operations go in their order: the row of them has a name, so that nothing is reckoned ahead of time. -/
theorem region_named {P : Program} {Q : Exit → Act → World → Prop} {a : Act} {w : World} {id : Nat} {l : List Oper} (h : ∀ O : Array Oper, O = l.toArray → wpList P O Q l a w) : (Code.region id l.toArray false).wp P Q a w :=
  wp_region_lit (h _ rfl)
/-- An operation that hangs on a guard: where it says yes, by its value, or by its call; and where it says no. -/
theorem wpList_val {P : Program} {ops : Array Oper} {rest : List Oper} {o : Oper} {a : Act} {w : World} {Q : Exit → Act → World → Prop} (hw : Region.wanted o (yielded ops a.tmps) = true) (v : Value)
    (hv : ∀ K : Act → World → Prop, K (a.put o.dst v) w → o.wp P a w K Q) (h : wpList P ops Q rest (a.put o.dst v) w) : wpList P ops Q (o :: rest) a w :=
  wpList_step fun K hK => by rw [if_pos hw]; exact hv K (hK _ _ h)
theorem wpList_want {P : Program} {ops : Array Oper} {rest : List Oper} {o : Oper} {a : Act} {w : World} {Q : Exit → Act → World → Prop} (hw : Region.wanted o (yielded ops a.tmps) = true)
    (h : ∀ K : Act → World → Prop, (∀ a w, wpList P ops Q rest a w → K a w) → o.wp P a w K Q) : wpList P ops Q (o :: rest) a w :=
  wpList_step fun K hK => by rw [if_pos hw]; exact h K hK
theorem wpList_skip {P : Program} {ops : Array Oper} {rest : List Oper} {o : Oper} {a : Act} {w : World} {Q : Exit → Act → World → Prop} (hw : Region.wanted o (yielded ops a.tmps) = false)
    (h : wpList P ops Q rest (a.put o.dst undef) w) : wpList P ops Q (o :: rest) a w :=
  wpList_step fun K hK => by rw [hw, if_neg (by simp)]; exact hK _ _ h

end Go.Proofs.YtjckdgapefaokaaDoor

/- Bytes, as a walk spells them. No condition but those that each lemma names. -/
namespace Go.Proofs.YtjckdgapefaokaaDoor
open Go.RowKit

theorem b_xor (x y : UInt8) : bits .xor .u8 ((x.toNat : Nat) : Int) ((y.toNat : Nat) : Int) = (((x ^^^ y).toNat : Nat) : Int) := by
  rw [u8_xor_nat _ _ x.toNat_lt y.toNat_lt, UInt8.toNat_xor]
theorem b_or (x y : UInt8) : bits .or .u8 ((x.toNat : Nat) : Int) ((y.toNat : Nat) : Int) = (((x ||| y).toNat : Nat) : Int) := by
  rw [u8_or_nat _ _ x.toNat_lt y.toNat_lt, UInt8.toNat_or]

end Go.Proofs.YtjckdgapefaokaaDoor

/- What kdf's Equal answers. No condition but those that each lemma names. -/
namespace Go.Proofs.YtjckdgapefaokaaDoor
open Go.RowKit

theorem u_or_zero (u v : UInt8) : (u ||| v = 0) ↔ (u = 0 ∧ v = 0) := by
  constructor
  · intro h
    have h1 : (u ||| v).toBitVec = 0 := by rw [h]; rfl
    rw [UInt8.toBitVec_or] at h1
    have h2 := BitVec.or_eq_zero_iff.1 h1
    exact ⟨UInt8.toBitVec_inj.1 h2.1, UInt8.toBitVec_inj.1 h2.2⟩
  · rintro ⟨rfl, rfl⟩; rfl
theorem u_xor_zero (x y : UInt8) : (x ^^^ y = 0) ↔ x = y := UInt8.xor_eq_zero_iff

theorem take_eq_step {a b : List UInt8} {k : Nat} (ha : k < a.length) (hb : k < b.length) : (a.take (k + 1) = b.take (k + 1)) ↔ (a.take k = b.take k ∧ a[k] = b[k]) := by
  rw [take_snoc ha, take_snoc hb]
  constructor
  · intro h
    have := List.append_inj h (by simp; omega)
    exact ⟨this.1, by simpa using this.2⟩
  · rintro ⟨h1, h2⟩; rw [h1, h2]

set_option maxRecDepth 100000 in
theorem equal_any (w : World) (ao bo : Option Addr) (ca cb : Nat) (a b : List UInt8) (ha : Bts w ao ca a) (hb : Bts w bo cb b) :
    Calls Tryd.prog 91 #[.slice ao a.length ca, .slice bo b.length cb] w fun e w' => e = .returned (.bool (decide (a = b))) ∧ w' = w := by
  by_cases hl : a.length = b.length
  · have hm : a.length ≤ 9223372036854775807 := Nat.le_trans ha.fits ha.most
    obtain ⟨n, hn⟩ : ∃ n, n = a.length := ⟨_, rfl⟩
    rw [← hn] at hl
    rw [← hl, ← hn]
    have HL := hide hl
    have HN := hide hn
    rw [← hn] at hm
    clear hl hn
    go_enter Tryd.func91, Tryd.ntmps91
    go_wp2
    go_loopw [5, 15] (fun uv i wr => ∃ (k : Nat) (u : UInt8), k ≤ n ∧ i = .int .i64 k ∧ uv = .int .u8 ((u.toNat : Nat) : Int) ∧ (u = 0 ↔ a.take k = b.take k) ∧ wr = w) (fun _ i _ => n - (intOf i).toNat)
    case atStart => exact ⟨0, 0, Nat.zero_le _, rfl, rfl, by simp, rfl⟩
    case round =>
      obtain ⟨k, u, hk, rfl, rfl, hu, rfl⟩ := hrel
      have HU := hide hu
      clear hu
      by_cases hlt : k < n
      · have hka : k < a.length := by rw [← unhide HN]; exact hlt
        have hkb : k < b.length := by rw [← unhide HL]; exact hlt
        obtain ⟨ad, rfl⟩ : ∃ ad, ao = some ad := by
          cases ao with
          | none => have := ha.zip rfl; omega
          | some ad => exact ⟨ad, rfl⟩
        obtain ⟨bd, rfl⟩ : ∃ bd, bo = some bd := by
          cases bo with
          | none => have := hb.zip rfl; omega
          | some bd => exact ⟨bd, rfl⟩
        have hca := ha.cell ad rfl k hka
        have hcb := hb.cell bd rfl k hkb
        have hsa := ha.shape ad rfl (by omega)
        have hsb := hb.shape bd rfl (by omega)
        obtain ⟨ab, aoff, asp⟩ := ad
        obtain ⟨bb, boff, bsp⟩ := bd
        simp only at hsa hsb hca hcb
        subst hsa hsb
        obtain ⟨x, hx⟩ : ∃ x, x = a[k] := ⟨_, rfl⟩
        obtain ⟨y, hy⟩ : ∃ y, y = b[k] := ⟨_, rfl⟩
        rw [← hx] at hca
        rw [← hy] at hcb
        obtain ⟨z, hz⟩ : ∃ z, z = x ^^^ y := ⟨_, rfl⟩
        obtain ⟨v, hv⟩ : ∃ v, v = u ||| z := ⟨_, rfl⟩
        have hxr := b_xor x y
        rw [← hz] at hxr
        have hor := b_or u z
        rw [← hv] at hor
        have HV := hide hv
        have HZ := hide hz
        clear hv hz
        have hq0 : (0 : Int) ≤ (k : Int) := by omega
        have HX := hide hx
        have HY := hide hy
        clear hx hy ha hb
        go_wp2
        go_roundw
        case rel =>
          refine ⟨k + 1, v, by omega, by go_num, rfl, ?_, trivial⟩
          rw [unhide HV, unhide HZ, u_or_zero, u_xor_zero, unhide HU, take_eq_step hka hkb, ← unhide HX, ← unhide HY]
        case measure => simp [intOf]; omega
      · obtain rfl : k = n := by omega
        have hfin : u = 0 ↔ a = b := by
          rw [unhide HU, List.take_of_length_le (by rw [← unhide HN]; exact Nat.le_refl _), List.take_of_length_le (by rw [← unhide HL]; exact Nat.le_refl _)]
        by_cases h0 : u = 0
        · subst h0
          have HAB := hide (hfin.1 rfl)
          clear hfin HU
          rw [show (((0 : UInt8).toNat : Nat) : Int) = 0 from rfl]
          go_wp2
          go_ret
          exact ⟨by rw [decide_eq_true (unhide HAB)]; rfl, rfl⟩
        · have hne : ¬ a = b := fun e => h0 (hfin.2 e)
          have hz : ((u.toNat : Nat) : Int) ≠ 0 := fun e => h0 (by
            have : u.toNat = 0 := by omega
            exact UInt8.toNat_inj.1 (by simpa using this))
          have hz2 : (((u.toNat : Nat) : Int) == 0) = false := by simpa using hz
          have HNE := hide hne
          clear hfin HU hne hz h0
          go_wp2
          go_ret
          exact ⟨by rw [decide_eq_false (unhide HNE)]; rfl, rfl⟩
  · have h1 : ¬ ((a.length : Int) = (b.length : Int)) := by omega
    have h2 : ((a.length : Int) == (b.length : Int)) = false := by simpa using h1
    have h3 : ((a.length : Int) != (b.length : Int)) = true := by simpa using h1
    have hne : ¬ a = b := fun e => hl (by rw [e])
    go_enter Tryd.func91, Tryd.ntmps91
    go_wp2
    go_ret
    exact ⟨by rw [decide_eq_false hne]; rfl, rfl⟩

end Go.Proofs.YtjckdgapefaokaaDoor
