/- Bytes as a string. No condition but those that each lemma names. -/
import Derived.Test.YtcemdlcimhoeeaaDoorMem
import Derived.Laws.BytesArg
import Derived.Laws.NewBlocks
import Derived.Lib.Strings
namespace Go.Proofs.YtcemdlcimhoeeaaDoor
open Go.RowKit

/-- Bytes as a string. -/
def str (l : List UInt8) : ByteArray := ⟨l.toArray⟩

theorem str_list (l : List UInt8) : (str l).toList = l := by
  rw [ByteArray.toList_eq]
  rfl

theorem conv_str {w : World} {ao : Option Addr} {c : Nat} {l : List UInt8} (h : Bts w ao c l) : (convert 32 9 (.slice ao l.length c)).run Tryd.prog w = .ok (.string (str l)) w := by
  cases ao with
  | none =>
    have := List.eq_nil_of_length_eq_zero (h.zip rfl).1
    subst this
    exact run_convert_bytes_nil w 32 5 Tryd.underlying32 Tryd.underlying5 _ _ 9 Tryd.underlying9
  | some ad =>
    by_cases hl : l = []
    · subst hl
      rw [show ([] : List UInt8).length = 0 from rfl, run_convert_bytes_string w 32 9 5 (some ad) 0 c Tryd.underlying32 Tryd.underlying5 Tryd.underlying9]
      rw [run_bytesToString w ad 0 c [] (by simp [loadCells, loadCellsFrom])]
      rfl
    have hs := h.shape ad rfl (List.length_pos_iff.2 hl)
    have hc := h.cell ad rfl
    obtain ⟨b, o, s⟩ := ad
    simp only at hs hc
    subst hs
    have := run_convert_bytes_arg (P := Tryd.prog) w 32 5 Tryd.underlying32 Tryd.underlying5 b o l.length c (l.map fun x => (x.toNat : Int)) (by simp) (fun i hi => by
      rw [hc i hi]
      simp [List.getD, hi]) 9 Tryd.underlying9
    have e : strOfNums (l.map fun x => (x.toNat : Int)) = str l := by
      apply ByteArray.ext
      apply Array.toList_inj.1
      rw [strOfNums_data, List.map_map]
      show _ = l
      conv => rhs; rw [← List.map_id l]
      apply List.map_congr_left
      intro x _
      simp
    rw [this, e]

theorem str_app (a b : List UInt8) : str a ++ str b = str (a ++ b) := by
  apply ByteArray.ext
  apply Array.toList_inj.1
  simp [str]

theorem str_size (l : List UInt8) : (str l).size = l.length := by simp [str, ByteArray.size]

theorem bts_one (w : World) (y : Nat) : Bts (w.alloc (.cells #[.int .u8 ((y : Int) % 256)] 5)) (some ⟨w.heap.size, 0, none⟩) 1 [UInt8.ofNat y] := by
  refine ⟨(fun e => by cases e), Nat.le_refl _, by unfold maxLen; decide, (fun ad e _ => by cases e; rfl), (fun ad e i hi => ?_)⟩
  cases e
  have hh := heap_alloc_new w (.cells #[.int .u8 ((y : Int) % 256)] 5)
  match i, hi with
  | 0, _ =>
    simp only [World.cell?, hh, List.getElem_cons_zero, UInt8.toNat_ofNat']
    rfl

end Go.Proofs.YtcemdlcimhoeeaaDoor

/- A string of bytes by its places: a byte, a part, a beginning, an end. No condition but those that each lemma names. -/
namespace Go.Proofs.YtcemdlcimhoeeaaDoor
open Go.RowKit

theorem str_sub (l : List UInt8) (a b : Nat) : (str l).extract a b = str ((l.drop a).take (b - a)) := by
  apply ByteArray.ext
  apply Array.toList_inj.1
  rw [Lib.extract_data]
  rfl

theorem idx_str (l : List UInt8) (p : Nat) (n : Nat) (hp : p < l.length) (hn : n = l[p].toNat) (W : World) : (Instr.index 9 (.string (str l)) (.int .i64 (p : Int))).run Tryd.prog W = .ok (.int .u8 (n : Int)) W := by
  subst hn
  have hs : p < (str l).size := by rw [str_size]; exact hp
  rw [run_index_string _ _ _ _ _ Tryd.underlying9]
  simp
  rw [dif_pos hs]
  rfl

theorem slice_str (l : List UInt8) (lo hi : Nat) (h1 : lo ≤ hi) (h2 : hi ≤ l.length) (W : World) : (Instr.slice 9 (.string (str l)) (some (.int .i64 (lo : Int))) (some (.int .i64 (hi : Int))) none).run Tryd.prog W = .ok (.string (str ((l.drop lo).take (hi - lo)))) W := by
  rw [run_slice_string_if _ _ _ _ _ _ _ Tryd.underlying9]
  rw [if_pos (by rw [str_size]; omega), if_pos ⟨by omega, by omega⟩, Int.toNat_natCast, Int.toNat_natCast, str_sub]

theorem slice_str_to (l : List UInt8) (hi : Nat) (h2 : hi ≤ l.length) (W : World) : (Instr.slice 9 (.string (str l)) none (some (.int .i64 (hi : Int))) none).run Tryd.prog W = .ok (.string (str (l.take hi))) W := by
  rw [run_slice_string_h W 9 _ Tryd.underlying9 .i64 (hi : Int) (by omega) (by rw [str_size]; omega), Int.toNat_natCast, str_sub, List.drop_zero, Nat.sub_zero]

theorem slice_str_from (l : List UInt8) (lo : Nat) (h2 : lo ≤ l.length) (W : World) : (Instr.slice 9 (.string (str l)) (some (.int .i64 (lo : Int))) none none).run Tryd.prog W = .ok (.string (str (l.drop lo))) W := by
  rw [run_slice_string_l W 9 _ Tryd.underlying9 .i64 (lo : Int) (by omega) (by rw [str_size]; omega), Int.toNat_natCast, str_size, str_sub, List.take_of_length_le (by rw [List.length_drop]; omega)]

end Go.Proofs.YtcemdlcimhoeeaaDoor

/- Guarded operations of a region that goes in its order. No condition but those that each lemma names. -/
namespace Go.Proofs.YtcemdlcimhoeeaaDoor
open Go.RowKit

/-- A region whose operations go in their order: the row of them has a name, so that nothing is reckoned ahead of time. -/
theorem region_named {P : Program} {Q : Exit → Act → World → Prop} {a : Act} {w : World} {id : Nat} {l : List Oper} (h : ∀ O : Array Oper, O = l.toArray → wpList P O Q l a w) : (Code.region id l.toArray false).wp P Q a w :=
  wp_region_lit (h _ rfl)
/-- An operation that hangs on a guard: where it says yes, by its value, or by its call; and where it says no. -/
theorem wpList_val {P : Program} {ops : Array Oper} {rest : List Oper} {o : Oper} {a : Act} {w : World} {Q : Exit → Act → World → Prop} (hw : Region.wanted o (yielded ops a.tmps) = true) (v : Value)
    (hv : ∀ K : Act → World → Prop, K (a.put o.dst v) w → o.wp P a w K Q) (h : wpList P ops Q rest (a.put o.dst v) w) : wpList P ops Q (o :: rest) a w :=
  wpList_step fun K hK => by rw [if_pos hw]; exact hv K (hK _ _ h)
theorem wpList_want {P : Program} {ops : Array Oper} {rest : List Oper} {o : Oper} {a : Act} {w : World} {Q : Exit → Act → World → Prop} (hw : Region.wanted o (yielded ops a.tmps) = true)
    (h : ∀ K : Act → World → Prop, (∀ a w, wpList P ops Q rest a w → K a w) → o.wp P a w K Q) : wpList P ops Q (o :: rest) a w :=
  wpList_step fun K hK => by rw [if_pos hw]; exact h K hK
theorem wpList_skip {P : Program} {ops : Array Oper} {rest : List Oper} {o : Oper} {a : Act} {w : World} {Q : Exit → Act → World → Prop} (hw : Region.wanted o (yielded ops a.tmps) = false)
    (h : wpList P ops Q rest (a.put o.dst undef) w) : wpList P ops Q (o :: rest) a w :=
  wpList_step fun K hK => by rw [hw, if_neg (by simp)]; exact hK _ _ h

end Go.Proofs.YtcemdlcimhoeeaaDoor
