/- Parts of arrays in memory as slices, and what they hold. No condition but those that each lemma names. -/
import Derived.Test.YtkbldpigbkecpaaDoorMBlk
namespace Go.Proofs.YtkbldpigbkecpaaDoor
open Go.RowKit

theorem slice_arr_head {P : Program} (t e : TypeId) (n : Nat) (ht : P.underlying t = some (.array n e)) (hz : ∀ w, (Go.sizeOf e).run P w = .ok 1 w) (b hi : Nat) (h2 : hi ≤ n) (h3 : 0 < n) (W : World) :
    (Instr.sliceAt t (.pointer (some ⟨b, 0, none⟩)) none (some (.int .i64 (hi : Int))) none).run P W = .ok (.slice (some ⟨b, 0, none⟩) hi n) W := by
  have ea : P.arrayLen t = n := by simp [Program.arrayLen, ht]
  have ee : P.elem t = e := by simp [Program.elem, ht]
  rw [run_sliceAt_array_h W t ⟨b, 0, none⟩ (by rw [ea, ee]; exact ht) .i64 _ (by omega) (by omega), ea, ee, hz]
  simp only [Result.andThen_ok, slicedAt, Int.toNat_natCast, Nat.zero_mul, Nat.sub_zero]
  rw [if_neg (by omega), Addr.add_mid]
theorem blk_head {w : World} {b : Nat} {t : TypeId} {l : List UInt8} (h : Blk w b t (l.map bv)) (n : Nat) : w.rangeAt b 0 ((l.take n).map bv) := by
  have : Blk w b t ([] ++ ((l.take n).map bv ++ (l.drop n).map bv)) := by
    rw [List.nil_append, ← List.map_append, List.take_append_drop]; exact h
  exact this.range
theorem blk_range5 {w : World} {b : Nat} {t : TypeId} {vs : List Value} (h : Blk w b t vs) : w.rangeAt b 0 vs := by
  have : Blk w b t ([] ++ (vs ++ [])) := by simpa using h
  exact this.range
theorem slice_arr_tail {P : Program} (t e : TypeId) (n : Nat) (ht : P.underlying t = some (.array n e)) (hz : ∀ w, (Go.sizeOf e).run P w = .ok 1 w) (b lo : Nat) (h2 : lo < n) (W : World) :
    (Instr.sliceAt t (.pointer (some ⟨b, 0, none⟩)) (some (.int .i64 (lo : Int))) none none).run P W = .ok (.slice (some ⟨b, lo, none⟩) (n - lo) (n - lo)) W := by
  have ea : P.arrayLen t = n := by simp [Program.arrayLen, ht]
  have ee : P.elem t = e := by simp [Program.elem, ht]
  rw [run_sliceAt_array_l W t ⟨b, 0, none⟩ (by rw [ea, ee]; exact ht) .i64 _ (by omega) (by omega), ea, ee, hz]
  simp only [Result.andThen_ok, slicedAt, Int.toNat_natCast, Nat.mul_one]
  rw [if_neg (by omega), Addr.add_mid, Nat.zero_add]
theorem blk_bytes {w : World} {b : Nat} {t : TypeId} {l : List UInt8} (h : Blk w b t (l.map bv)) (c : Nat) (hc : l.length ≤ c) (hm : c ≤ maxLen) : Bts w (some ⟨b, 0, none⟩) c l := by
  refine ⟨(fun e => by cases e), hc, hm, (fun ad e _ => by cases e; rfl), (fun ad e i hi => ?_)⟩
  cases e
  show w.cell? ⟨b, 0 + i, none⟩ = _
  rw [Nat.zero_add, h.cell, List.getElem?_map, List.getElem?_eq_getElem hi]
  rfl
theorem slice_whole5 {P : Program} (t e : TypeId) (n : Nat) (ht : P.underlying t = some (.array n e)) (hz : ∀ w, (Go.sizeOf e).run P w = .ok 1 w) (b o : Nat) (h3 : 0 < n) (W : World) :
    (Instr.sliceAt t (.pointer (some ⟨b, o, none⟩)) none none none).run P W = .ok (.slice (some ⟨b, o, none⟩) n n) W := by
  have ea : P.arrayLen t = n := by simp [Program.arrayLen, ht]
  have ee : P.elem t = e := by simp [Program.elem, ht]
  rw [run_sliceAt_array_all W t ⟨b, o, none⟩ (by rw [ea, ee]; exact ht), ea, ee, hz]
  simp only [Result.andThen_ok, slicedAt, Nat.zero_mul, Nat.sub_zero]
  rw [if_neg (by omega), Addr.add_mid]
  rfl
/-- A part with no spare room. -/
theorem slice_shut {P : Program} (W : World) (t e : TypeId) (ht : P.underlying t = some (.slice e)) (hz : ∀ w, (Go.sizeOf e).run P w = .ok 1 w) (ao : Option Addr) (n c k : Nat) (hk : k ≤ c) :
    (Instr.slice t (.slice ao n c) none (some (.int .i64 (k : Int))) (some (.int .i64 (k : Int)))).run P W = .ok (.slice ao k k) W := by
  have ht' : P.underlying t = some (.slice (P.elem t)) := by simp [Program.elem, ht]
  have he : P.elem t = e := by simp [Program.elem, ht]
  rw [run_slice_hm W t _ _ _ ht' .i64 .i64 _ _ (by omega) (by omega) (by omega), he, hz]
  cases ao <;> simp [Result.andThen, sliced, Addr.add]
/-- The second half of a block, as bytes. -/
theorem blk_back {w : World} {b : Nat} {t : TypeId} {l : List UInt8} (h : Blk w b t (l.map bv)) (o c : Nat) (hc : l.length - o ≤ c) (hm : c ≤ maxLen) : Bts w (some ⟨b, o, none⟩) c (l.drop o) := by
  refine ⟨(fun e => by cases e), by simpa using hc, hm, (fun ad e _ => by cases e; rfl), (fun ad e i hi => ?_)⟩
  cases e
  show w.cell? ⟨b, o + i, none⟩ = _
  have hi2 : o + i < l.length := by simp at hi; omega
  rw [h.cell, List.getElem?_map, List.getElem?_eq_getElem hi2]
  simp [bv]

end Go.Proofs.YtkbldpigbkecpaaDoor
