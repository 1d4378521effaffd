/- Bytes as a string. No condition but those that each lemma names. -/
import Derived.Test.YtfaipdifkmjdeaaMem
import Derived.Laws.BytesArg
import Derived.Laws.NewBlocks
import Derived.Deep.RegionHeld3
import Derived.Deep.DrawnRows
namespace Go.Proofs.Ytfaipdifkmjdeaa
open Go.RowKit

/-- Bytes as a string. -/
def str (l : List UInt8) : ByteArray := ⟨l.toArray⟩

theorem str_list (l : List UInt8) : (str l).toList = l := by
  rw [ByteArray.toList_eq]
  rfl

theorem conv_str {w : World} {ao : Option Addr} {c : Nat} {l : List UInt8} (h : Bts w ao c l) : (convert 33 9 (.slice ao l.length c)).run Try.prog w = .ok (.string (str l)) w := by
  cases ao with
  | none =>
    have := List.eq_nil_of_length_eq_zero (h.zip rfl).1
    subst this
    exact run_convert_bytes_nil w 33 5 Try.underlying33 Try.underlying5 _ _ 9 Try.underlying9
  | some ad =>
    by_cases hl : l = []
    · subst hl
      rw [show ([] : List UInt8).length = 0 from rfl, run_convert_bytes_string w 33 9 5 (some ad) 0 c Try.underlying33 Try.underlying5 Try.underlying9]
      rw [run_bytesToString w ad 0 c [] (by simp [loadCells, loadCellsFrom])]
      rfl
    have hs := h.shape ad rfl (List.length_pos_iff.2 hl)
    have hc := h.cell ad rfl
    obtain ⟨b, o, s⟩ := ad
    simp only at hs hc
    subst hs
    have := run_convert_bytes_arg (P := Try.prog) w 33 5 Try.underlying33 Try.underlying5 b o l.length c (l.map fun x => (x.toNat : Int)) (by simp) (fun i hi => by
      rw [hc i hi]
      simp [List.getD, hi]) 9 Try.underlying9
    have e : strOfNums (l.map fun x => (x.toNat : Int)) = str l := by
      apply ByteArray.ext
      apply Array.toList_inj.1
      rw [strOfNums_data, List.map_map]
      show _ = l
      conv => rhs; rw [← List.map_id l]
      apply List.map_congr_left
      intro x _
      simp
    rw [this, e]

theorem str_app (a b : List UInt8) : str a ++ str b = str (a ++ b) := by
  apply ByteArray.ext
  apply Array.toList_inj.1
  simp [str]

theorem str_size (l : List UInt8) : (str l).size = l.length := by simp [str, ByteArray.size]

theorem bts_one (w : World) (y : Nat) : Bts (w.alloc (.cells #[.int .u8 ((y : Int) % 256)] 5)) (some ⟨w.heap.size, 0, none⟩) 1 [UInt8.ofNat y] := by
  refine ⟨(fun e => by cases e), Nat.le_refl _, by unfold maxLen; decide, (fun ad e _ => by cases e; rfl), (fun ad e i hi => ?_)⟩
  cases e
  have hh := heap_alloc_new w (.cells #[.int .u8 ((y : Int) % 256)] 5)
  match i, hi with
  | 0, _ =>
    simp only [World.cell?, hh, List.getElem_cons_zero, UInt8.toNat_ofNat']
    rfl

end Go.Proofs.Ytfaipdifkmjdeaa

/- A slice of one is built, by a fact. No condition but those that each lemma names. -/
namespace Go.Proofs.Ytfaipdifkmjdeaa
open Go.RowKit

/-- A slice of one is built, by a fact: at a step of a region that draws its order, and in a plain one. -/
theorem step_build1 {P : Program} {w w' : World} {ops : Array Oper} {o : Oper} {a : Act} {K : Act → World → Prop} {Q : Exit → Act → World → Prop} {E : Prop} (hw : Region.wanted o (yielded ops a.tmps) = true) (t : TypeId) (x : Operand) (ho : o.op = .buildSlice t 1 #[(0, x)])
    (X s : Value) (hx : a.eval x = X) (hr : (Instr.buildSlice t 1 #[(0, X)]).run P w = .ok s w') (h : K (a.put o.dst s) w') : if Region.wanted o (yielded ops a.tmps) = true then Oper.wp P o a w K Q else E := by
  rw [if_pos hw]
  unfold Oper.wp execOp
  simp only [ho, Sem.run_bind, List.map_toArray, List.map_cons, List.map_nil, hx, hr, Result.andThen_ok]
  exact h
theorem wpList_build1 {P : Program} {w w' : World} {ops : Array Oper} {rest : List Oper} {o : Oper} {a : Act} {Q : Exit → Act → World → Prop} (hg : o.guard = none) (t : TypeId) (x : Operand) (ho : o.op = .buildSlice t 1 #[(0, x)])
    (X s : Value) (hx : a.eval x = X) (hr : (Instr.buildSlice t 1 #[(0, X)]).run P w = .ok s w') (h : wpList P ops Q rest (a.put o.dst s) w') : wpList P ops Q (o :: rest) a w :=
  wpList_plain hg fun _ hK => by
    unfold Oper.wp execOp
    simp only [ho, Sem.run_bind, List.map_toArray, List.map_cons, List.map_nil, hx, hr, Result.andThen_ok]
    exact hK _ _ h

end Go.Proofs.Ytfaipdifkmjdeaa

/- A slice of numbers, in words of our own. No condition but those that each lemma names. -/
namespace Go.Proofs.Ytfaipdifkmjdeaa
open Go.RowKit

/-- The slice value '.slice ao l.length c' holds the numbers l. -/
structure Nts (w : World) (ao : Option Addr) (c : Nat) (l : List Int) : Prop where
  zip : ao = none → l.length = 0 ∧ c = 0
  fits : l.length ≤ c
  most : c ≤ maxLen
  shape : ∀ ad, ao = some ad → 0 < l.length → ad.spot = none
  cell : ∀ ad, ao = some ad → ∀ i (h : i < l.length), w.cell? ⟨ad.block, ad.off + i, none⟩ = some (.int .i64 l[i])

theorem Nts.kept {w a : World} {ao : Option Addr} {c : Nat} {l : List Int} (h : Nts w ao c l) (g : w.grownBy a none) : Nts a ao c l :=
  ⟨h.zip, h.fits, h.most, h.shape, fun ad e i hi => g.cell (h.cell ad e i hi) (by simp)⟩
theorem Nts.at {w : World} {ao : Option Addr} {c : Nat} {l : List Int} (h : Nts w ao c l) (i : Nat) (hi : i < l.length) : ∃ b o, ao = some ⟨b, o, none⟩ ∧ w.cell? ⟨b, o + i, none⟩ = some (.int .i64 l[i]) := by
  cases ao with
  | none => have := (h.zip rfl).1; omega
  | some ad =>
    have hs := h.shape ad rfl (by omega)
    have hc := h.cell ad rfl i hi
    obtain ⟨b, o, s⟩ := ad
    simp only at hs hc
    subst hs
    exact ⟨b, o, rfl, hc⟩

end Go.Proofs.Ytfaipdifkmjdeaa
