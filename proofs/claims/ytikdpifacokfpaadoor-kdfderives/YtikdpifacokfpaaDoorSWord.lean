/- Words of 32 bits, as a walk spells them; and what sha's turned and the library's RotateLeft32 answer. No condition but those that each lemma names. -/
import Derived.Test.YtikdpifacokfpaaDoorMem
import Derived.Test.YtikdpifacokfpaaDoorSMath
import Derived.Laws.BitsAllLaws
import Derived.Laws.Bits64
import Derived.Laws.Unary
namespace Go.Proofs.YtikdpifacokfpaaDoor
open Go.RowKit

/-- A word as a number. -/
def wz (x : W) : Int := ((x.toNat : Nat) : Int)
/-- A word as a cell holds it. -/
def wv (x : W) : Value := .int .u32 (wz x)

theorem wz_lo (x : W) : 0 ≤ wz x := by unfold wz; omega
theorem wz_hi (x : W) : wz x < 4294967296 := by have := x.isLt; unfold wz; omega
theorem wz_toNat (x : W) : (wz x).toNat = x.toNat := by unfold wz; omega

theorem w_xor (x y : W) : bits .xor .u32 (wz x) (wz y) = wz (x ^^^ y) := by
  unfold wz; rw [u32_xor_nat _ _ x.isLt y.isLt, BitVec.toNat_xor]
theorem w_and (x y : W) : bits .and .u32 (wz x) (wz y) = wz (x &&& y) := by
  unfold wz; rw [u32_and_nat _ _ x.isLt y.isLt, BitVec.toNat_and]
theorem w_or (x y : W) : bits .or .u32 (wz x) (wz y) = wz (x ||| y) := by
  unfold wz; rw [u32_or_nat _ _ x.isLt y.isLt, BitVec.toNat_or]
theorem w_addm (x y : W) : (wz x + wz y) % 4294967296 = wz (x + y) := by
  unfold wz; rw [BitVec.toNat_add]; omega
theorem w_add (x y : W) : IntKind.u32.wrap (wz x + wz y) = wz (x + y) := by rw [IntKind.wrap_u32, w_addm]
theorem w_not (x : W) : bits .xor .u32 4294967295 (wz x) = wz (~~~x) := by
  have h : (4294967295 : Int) = wz (BitVec.allOnes 32) := rfl
  rw [h, w_xor, BitVec.allOnes_xor]
theorem w_not' (x : W) : bits .xor .u32 (-1) (wz x) = wz (~~~x) := by
  rw [← w_not]; rfl
theorem w_notr (x : W) : bits .xor .u32 (wz x) 4294967295 = wz (~~~x) := by
  have h : (4294967295 : Int) = wz (BitVec.allOnes 32) := rfl
  rw [h, w_xor, BitVec.xor_allOnes]
theorem w_shr (x : W) (n : Nat) : wz x / 2 ^ n = wz (x >>> n) := by
  unfold wz; rw [BitVec.toNat_ushiftRight, Nat.shiftRight_eq_div_pow]
  exact (Int.natCast_ediv _ _).symm ▸ by simp
theorem w_shlm (x : W) (n : Nat) : wz x * 2 ^ n % 4294967296 = wz (x <<< n) := by
  unfold wz; rw [BitVec.toNat_shiftLeft, Nat.shiftLeft_eq]
  simp
theorem w_shl (x : W) (n : Nat) : IntKind.u32.wrap (wz x * 2 ^ n) = wz (x <<< n) := by rw [IntKind.wrap_u32, w_shlm]

theorem left_n (n : Nat) (h0 : 0 < n) (h1 : n < 32) : bits .and .u64 (IntKind.u64.wrap (-(n : Int))) 31 = ((32 - n : Nat) : Int) := by
  have : ∀ k : Fin 32, 0 < k.val → bits .and .u64 (IntKind.u64.wrap (-(k.val : Int))) 31 = ((32 - k.val : Nat) : Int) := by decide +kernel
  exact this ⟨n, h1⟩ h0

theorem rol_any (w : World) (x : W) (n : Nat) (h0 : 0 < n) (h1 : n < 32) :
    Calls Tryd.prog 41 #[wv x, .int .i64 (-(n : Int))] w fun e w' => e = .returned (wv (ror x n)) ∧ w' = w := by
  have hl := left_n n h0 h1
  unfold wv
  go_enter Tryd.func41, Tryd.ntmps41
  go_wp2
  go_ret
  rw [w_shlm, w_shr, w_or, show 32 - (32 - n) = n by omega, ror, BitVec.or_comm]
  exact ⟨rfl, rfl⟩

theorem turned_any (w : World) (x : W) (n : Nat) (h0 : 0 < n) (h1 : n < 32) :
    Calls Tryd.prog 57 #[wv x, .int .i64 (n : Int)] w fun e w' => e = .returned (wv (ror x n)) ∧ w' = w := by
  go_enter Tryd.func57, Tryd.ntmps57
  go_wp2_with (go_at_call 41; refine (rol_any _ x n h0 h1).mono ?_; rintro e w' ⟨rfl, rfl⟩)
  go_ret
  exact ⟨rfl, rfl⟩

/-- A row of words, or of bytes, by value: its element. -/
theorem index_row {P : Program} (t e : TypeId) (n : Nat) (cs : List Value) (i : Nat) (v : Value) (hu : P.underlying t = some (.array n e)) (hz : ∀ w, (Go.sizeOf e).run P w = .ok 1 w) (ha : ∀ w, (isAgg e).run P w = .ok false w)
    (hi : i < n) (hv : cs[i]? = some v) (w : World) : (Instr.index t (.agg cs.toArray) (.int .i64 (i : Int))).run P w = .ok v w := by
  simp only [Instr.index, asIntOf, Sem.run_bind, Sem.run_pure, Result.andThen_ok, run_underlying hu]
  rw [if_pos (by omega)]
  simp [part, hz, ha, hv]

theorem size_word (w : World) : (Go.sizeOf 26).run Tryd.prog w = .ok 1 w := by kernel_rfl
theorem agg_word (w : World) : (isAgg 26).run Tryd.prog w = .ok false w := by kernel_rfl
theorem agg_byte (w : World) : (isAgg 5).run Tryd.prog w = .ok false w := by kernel_rfl

theorem wv_one (l : List W) : ∀ u ∈ l.map wv, u.oneCell' = true := by
  intro u hu
  obtain ⟨_, _, rfl⟩ := List.mem_map.1 hu
  rfl

/-- The block b holds just these cells, and they may be written. -/
def Blk (w : World) (b : Nat) (t : TypeId) (cs : List Value) : Prop := w.heap[b]? = some (.cells cs.toArray t (0, 0))

theorem Blk.lt {w : World} {b : Nat} {t : TypeId} {cs : List Value} (h : Blk w b t cs) : b < w.heap.size := (Array.getElem?_eq_some_iff.1 h).1
theorem Blk.cell {w : World} {b : Nat} {t : TypeId} {cs : List Value} (h : Blk w b t cs) (j : Nat) : w.cell? ⟨b, j, none⟩ = cs[j]? := by
  rw [cell_of_row w b j _ t _ h]; simp
theorem Blk.fz {w : World} {b : Nat} {t : TypeId} {cs : List Value} (h : Blk w b t cs) (o : Nat) : w.frozen? ⟨b, o, none⟩ = false := by
  unfold Blk at h; simp [World.frozen?, h]
theorem Blk.kept {w a : World} {b : Nat} {t : TypeId} {cs : List Value} {r : Option Nat} (h : Blk w b t cs) (g : w.grownBy a r) (hr : some b ≠ r) : Blk a b t cs := by
  unfold Blk; rw [g.block b h.lt hr]; exact h
theorem Blk.alloc {w : World} {b : Nat} {t : TypeId} {cs : List Value} (h : Blk w b t cs) (o : Obj) : Blk (w.alloc o) b t cs := h.kept (World.grownBy_alloc w o none) (by simp)
theorem Blk.new (w : World) (t : TypeId) (cs : List Value) : Blk (w.alloc (.cells cs.toArray t)) w.heap.size t cs := heap_alloc_new w _
theorem Blk.set {w : World} {b : Nat} {t : TypeId} {cs : List Value} (h : Blk w b t cs) (j : Nat) (v : Value) : Blk (w.setCell ⟨b, j, none⟩ v) b t (cs.set j v) := by
  unfold Blk at h ⊢
  simp [World.setCell, Array.getElem?_modify, h]
theorem Blk.other {w : World} {b : Nat} {t : TypeId} {cs : List Value} (h : Blk w b t cs) (p : Addr) (v : Value) (hp : p.block ≠ b) : Blk (w.setCell p v) b t cs := by
  unfold Blk at h ⊢
  rw [heap_setCell_other w p b v (fun e => hp e.symm)]; exact h
theorem Blk.there {w : World} {b : Nat} {t : TypeId} {cs : List Value} (h : Blk w b t cs) (o n : Nat) (hn : o + n ≤ cs.length) : ∀ j, j < n → (w.cell? ⟨b, o + j, none⟩).isSome = true ∧ w.frozen? ⟨b, o + j, none⟩ = false := by
  intro j hj
  refine ⟨?_, h.fz _⟩
  rw [h.cell, List.getElem?_eq_getElem (by omega)]; rfl

end Go.Proofs.YtikdpifacokfpaaDoor
