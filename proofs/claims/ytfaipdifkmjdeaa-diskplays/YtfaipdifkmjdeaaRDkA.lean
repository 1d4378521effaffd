/- The document's disk, in memory, in words of our own; what its calls make of it as a list. No condition but those that each lemma names. -/
import Derived.Test.YtfaipdifkmjdeaaDkM
import Derived.Test.YtfaipdifkmjdeaaMNts
import Derived.Test.YtfaipdifkmjdeaaMRwG
import Derived.Test.YtfaipdifkmjdeaaCtA
import Derived.Test.YtfaipdifkmjdeaaMCpy
import Derived.Test.YtfaipdifkmjdeaaMMsk
namespace Go.Proofs.Ytfaipdifkmjdeaa
open Go.RowKit

def sc1 (x : List UInt8) : Value := .string (str x)
def rwC (x : Nat × List UInt8) : List Value := [.int .i64 (x.1 : Int), sc1 x.2]
theorem sc1_one (L : List (List UInt8)) : ∀ u ∈ L.map sc1, u.oneCell' = true := by
  intro u hu
  obtain ⟨_, _, rfl⟩ := List.mem_map.1 hu
  rfl
theorem rwC_one (x : Nat × List UInt8) : ∀ u ∈ rwC x, u.oneCell' = true := by
  intro u hu
  simp only [rwC, List.mem_cons, List.not_mem_nil, or_false] at hu
  rcases hu with rfl | rfl <;> rfl

/-- Its cells, its rows lying there. -/
def rdC (so : Option Addr) (sc : Nat) (uo : Option Addr) (uc : Nat) (D : Dsk) : List Value := [.slice so D.safe.length sc, .slice uo D.U.length uc, .int .i64 D.left, .bool D.down]
structure RdW (w : World) (so : Option Addr) (sc : Nat) (uo : Option Addr) (uc : Nat) (D : Dsk) : Prop where
  safe : Cel w so sc (D.safe.map sc1)
  und : Rws w 2 rwC uo uc D.U
/-- The value is the document's disk D. -/
def RdV (w : World) (v : Value) (D : Dsk) : Prop := ∃ so sc uo uc, v = .agg (rdC so sc uo uc D).toArray ∧ RdW w so sc uo uc D
/-- .. as a call answers it: its rows are those that were, or newer than the call. -/
def RdR (w w' : World) (so uo : Option Addr) (v : Value) (D : Dsk) : Prop := ∃ so' sc' uo' uc', v = .agg (rdC so' sc' uo' uc' D).toArray ∧ RdW w' so' sc' uo' uc' D ∧ (∀ ad, so' = some ad → so = some ad ∨ (w.heap.size ≤ ad.block ∧ ad.block < w'.heap.size)) ∧ (∀ ad, uo' = some ad → uo = some ad ∨ (w.heap.size ≤ ad.block ∧ ad.block < w'.heap.size))
theorem RdW.kept {w a : World} {so : Option Addr} {sc : Nat} {uo : Option Addr} {uc : Nat} {D : Dsk} (h : RdW w so sc uo uc D) (g : w.grownBy a none) : RdW a so sc uo uc D := ⟨h.safe.kept g, h.und.kept g⟩
theorem Rws.off {α : Type} {w a : World} {K : Nat} {f : α → List Value} {ao : Option Addr} {c : Nat} {L : List α} {r : Option Nat} (h : Rws w K f ao c L) (g : w.grownBy a r) (hr : ∀ ad, ao = some ad → some ad.block ≠ r) : Rws a K f ao c L :=
  ⟨h.zip, h.fits, h.most, h.spot, fun ad e i hi => range_kept (h.row ad e i hi) g (hr ad e)⟩
theorem RdW.off {w a : World} {so : Option Addr} {sc : Nat} {uo : Option Addr} {uc : Nat} {D : Dsk} {r : Option Nat} (h : RdW w so sc uo uc D) (g : w.grownBy a r) (h1 : ∀ ad, so = some ad → some ad.block ≠ r) (h2 : ∀ ad, uo = some ad → some ad.block ≠ r) : RdW a so sc uo uc D :=
  ⟨⟨h.safe.1.off g h1, h.safe.2⟩, h.und.off g h2⟩
theorem RdV.kept {w a : World} {v : Value} {D : Dsk} (h : RdV w v D) (g : w.grownBy a none) : RdV a v D := by
  obtain ⟨so, sc, uo, uc, e, h⟩ := h
  exact ⟨so, sc, uo, uc, e, h.kept g⟩
theorem RdW.same {w : World} {so : Option Addr} {sc : Nat} {uo : Option Addr} {uc : Nat} {D E : Dsk} (h : RdW w so sc uo uc D) (h1 : E.safe = D.safe) (h2 : E.U = D.U) : RdW w so sc uo uc E := ⟨by rw [h1]; exact h.safe, by rw [h2]; exact h.und⟩
theorem rdC_len (so : Option Addr) (sc : Nat) (uo : Option Addr) (uc : Nat) (D : Dsk) : (rdC so sc uo uc D).length = 4 := rfl
theorem rdC_one (so : Option Addr) (sc : Nat) (uo : Option Addr) (uc : Nat) (D : Dsk) : (rdC so sc uo uc D).toArray.all (·.oneCell') = true := all_oneCell_toArray (fun u hu => by
  simp only [rdC, List.mem_cons, List.not_mem_nil, or_false] at hu
  rcases hu with rfl | rfl | rfl | rfl <;> rfl)
theorem info_rd : (Try.prog.info? 30).map (·.size) = some 4 := by kernel_rfl
theorem zero_rd : ∀ w, (zeroValue 30).run Try.prog w = .ok (.agg #[.slice none 0 0, .slice none 0 0, .int .i64 0, .bool false]) w := fun w => by kernel_rfl

/-- What the document's call, Write, Sync, Fall and Read make of it. -/
def rcall (D : Dsk) : Dsk × Bool := if D.left = 0 then ({ D with left := -1, down := true }, false) else if 0 < D.left then ({ D with left := D.left - 1 }, true) else (D, true)
def rwr (D : Dsk) (i : Int) (b : List UInt8) : Dsk × Int :=
  if D.down = true then (D, 17) else if hasD D i = true ∧ b.length ≤ 256 then ({ (rcall D).1 with U := D.U ++ [(i.toNat, padS b)] }, if (rcall D).2 = true then 0 else 17) else (D, 2)
def rsy (D : Dsk) : Dsk × Int := if D.down = true then (D, 17) else if (rcall D).2 = true then (settleD (fun _ => 256) (rcall D).1, 0) else ((rcall D).1, 17)
theorem rcall_safe (D : Dsk) : (rcall D).1.safe = D.safe ∧ (rcall D).1.U = D.U := by
  unfold rcall
  split
  · exact ⟨rfl, rfl⟩
  · split <;> exact ⟨rfl, rfl⟩

/-- The program's disk and the document's are alike. -/
structure Alk (D R : Dsk) : Prop where
  safe : R.safe = D.safe
  U : R.U = D.U
  down : R.down = D.down
  left : D.down = true ∨ (D.left < 0 ∧ R.left < 0) ∨ R.left = D.left
theorem Alk.refl (D : Dsk) : Alk D D := ⟨rfl, rfl, rfl, Or.inr (Or.inr rfl)⟩
theorem Alk.cnt {D R : Dsk} (h : Alk D R) (hd : D.down = false) : Alk (cntD D).1 (rcall R).1 ∧ ((rcall R).2 = true ↔ (cntD D).2 = 0) ∧ ((cntD D).2 = 0 ∨ (cntD D).2 = 17) := by
  refine ⟨?_, ?_, cntD_err D⟩
  · have hl := h.left
    have hs := h.safe
    have hu := h.U
    have hw := h.down
    unfold cntD rcall
    rcases hl with h1 | h1 | h1
    · rw [hd] at h1; cases h1
    · rw [if_neg (by omega), if_neg (by omega), if_neg (by omega), if_neg (by omega)]
      exact h
    · rw [h1]
      split
      · exact ⟨hs, hu, rfl, Or.inl rfl⟩
      · split
        · exact ⟨hs, hu, hw, Or.inr (Or.inr rfl)⟩
        · exact h
  · have hl := h.left
    unfold cntD rcall
    rcases hl with h1 | h1 | h1
    · rw [hd] at h1; cases h1
    · rw [if_neg (by omega), if_neg (by omega), if_neg (by omega), if_neg (by omega)]
      simp
    · rw [h1]
      split
      · simp
      · split <;> simp
theorem Alk.write {D R : Dsk} (h : Alk D R) (i : Int) (b : List UInt8) : Alk (wrD D i b).1 (rwr R i b).1 ∧ (rwr R i b).2 = (wrD D i b).2 := by
  have hh : hasD R i = hasD D i := by unfold hasD; rw [h.safe]
  cases hd : D.down with
  | true =>
    unfold wrD rwr
    rw [if_pos hd, if_pos (h.down.trans hd)]
    exact ⟨h, rfl⟩
  | false =>
    unfold wrD rwr
    rw [if_neg (show ¬ D.down = true by rw [hd]; decide), if_neg (show ¬ R.down = true by rw [h.down, hd]; decide), hh]
    split
    · have h2 : Alk { D with U := D.U ++ [(i.toNat, padS b)] } { R with U := R.U ++ [(i.toNat, padS b)] } := ⟨h.safe, by simp only; rw [h.U], h.down, h.left⟩
      obtain ⟨q1, q2, q3⟩ := h2.cnt hd
      have e1 : (rcall { R with U := R.U ++ [(i.toNat, padS b)] }).1 = { (rcall R).1 with U := R.U ++ [(i.toNat, padS b)] } := by
        unfold rcall
        split
        · rfl
        · split <;> rfl
      have e2 : (rcall { R with U := R.U ++ [(i.toNat, padS b)] }).2 = (rcall R).2 := by
        unfold rcall
        split
        · rfl
        · split <;> rfl
      rw [e1] at q1
      rw [e2] at q2
      refine ⟨q1, ?_⟩
      rcases q3 with q3 | q3
      · rw [q3, if_pos (q2.2 q3)]
      · rw [q3, if_neg (fun e => by rw [q2.1 e] at q3; cases q3)]
    · exact ⟨h, rfl⟩
theorem Alk.settle {D R : Dsk} (h : Alk D R) (f : Nat → Int) : Alk (settleD f D) (settleD f R) := ⟨by simp only [settleD]; rw [h.safe, h.U], rfl, h.down, h.left⟩
theorem Alk.sync {D R : Dsk} (h : Alk D R) : Alk (syD D).1 (rsy R).1 ∧ (rsy R).2 = (syD D).2 := by
  cases hd : D.down with
  | true =>
    unfold syD rsy
    rw [if_pos hd, if_pos (h.down.trans hd)]
    exact ⟨h, rfl⟩
  | false =>
    unfold syD rsy
    rw [if_neg (show ¬ D.down = true by rw [hd]; decide), if_neg (show ¬ R.down = true by rw [h.down, hd]; decide)]
    obtain ⟨q1, q2, q3⟩ := h.cnt hd
    rcases q3 with q3 | q3
    · rw [if_pos q3, if_pos (q2.2 q3)]
      exact ⟨q1.settle _, rfl⟩
    · rw [if_neg (by rw [q3]; decide), if_neg (fun e => by rw [q2.1 e] at q3; cases q3), q3]
      exact ⟨q1, rfl⟩
theorem Alk.arm {D R : Dsk} (h : Alk D R) (n : Int) : Alk (arD D n) { R with left := max n (-1) } :=
  ⟨h.safe, h.U, h.down, by
    by_cases hn : n < 0
    · exact Or.inr (Or.inl ⟨hn, by simp only; omega⟩)
    · exact Or.inr (Or.inr (by simp only [arD]; omega))⟩
theorem Alk.fall {D R : Dsk} (h : Alk D R) (L : List Int) : Alk (faD D L) (faD R L) := ⟨(h.settle (fateL L)).safe, rfl, rfl, Or.inr (Or.inr rfl)⟩
theorem Alk.read {D R : Dsk} (h : Alk D R) (i : Int) : rdD R i = rdD D i := by
  unfold rdD lastD keptD hasD
  rw [h.safe, h.U, h.down]

/-- A text of a row of the call's own is laid anew. -/
theorem own_setT {w : World} {base n cap g : Nat} {t : TypeId} {xs : List Value} (h : w.ownsRow base t 1 (.slice (some ⟨g, 0, none⟩) n cap) n xs) (k : Nat) (v : Value) :
    (w.setCell ⟨g, k, none⟩ v).ownsRow base t 1 (.slice (some ⟨g, 0, none⟩) n cap) n (xs.set k v) := by
  obtain ⟨h1, h2⟩ := h
  refine ⟨by rw [List.length_set]; exact h1, ?_⟩
  rcases h2 with ⟨h2, _⟩ | ⟨g', cap', cur, hv, hg, hh, h3, h4, h5, h6⟩
  · cases h2
  · cases hv
    refine Or.inr ⟨g, cap, cur.setIfInBounds k v, rfl, hg, ?_, h3, h4, by simpa using h5, ?_⟩
    · simp [World.setCell, Array.getElem?_modify, hh]
    · rw [← h6, Array.toList_setIfInBounds, List.take_set]
theorem own_thereT {w : World} {base n cap g : Nat} {t : TypeId} {xs : List Value} (h : w.ownsRow base t 1 (.slice (some ⟨g, 0, none⟩) n cap) n xs) (k : Nat) (v : Value) (hk : xs[k]? = some v) : w.cell? ⟨g, k, none⟩ = some v ∧ w.frozen? ⟨g, k, none⟩ = false := by
  obtain ⟨h1, h2⟩ := h
  rcases h2 with ⟨h2, _⟩ | ⟨g', cap', cur, hv, hg, hh, h3, h4, h5, h6⟩
  · cases h2
  · cases hv
    refine ⟨?_, by simp [World.frozen?, hh]⟩
    rw [cell_of_row w g k _ _ _ hh]
    rw [← h6] at hk
    rw [List.getElem?_take] at hk
    split at hk
    · simpa using hk
    · cases hk

end Go.Proofs.Ytfaipdifkmjdeaa
