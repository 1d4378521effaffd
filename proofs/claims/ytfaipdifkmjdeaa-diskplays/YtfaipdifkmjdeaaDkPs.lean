/- What DiskPlays keeps from step to step: the program's disk, the document's, and where they lie. -/
import Derived.Test.YtfaipdifkmjdeaaRDkY
import Derived.Test.YtfaipdifkmjdeaaDkU
namespace Go.Proofs.Ytfaipdifkmjdeaa
open Go.RowKit

theorem RdW.fr {w a : World} {so : Option Addr} {sc : Nat} {uo : Option Addr} {uc : Nat} {D : Dsk} {F : List Nat} (h : RdW w so sc uo uc D) (g : Fr w a F) (h1 : ∀ ad, so = some ad → ad.block ∉ F) (h2 : ∀ ad, uo = some ad → ad.block ∉ F) : RdW a so sc uo uc D := by
  have rr : ∀ {α : Type} {K : Nat} {f : α → List Value} {ao : Option Addr} {c : Nat} {L : List α}, Rws w K f ao c L → (∀ ad, ao = some ad → ad.block ∉ F) → Rws a K f ao c L := fun h ho =>
    ⟨h.zip, h.fits, h.most, h.spot, fun ad e i hi j u hu => g.cell (h.row ad e i hi j u hu) (ho ad e)⟩
  exact ⟨⟨rr h.safe.1 h1, h.safe.2⟩, rr h.und h2⟩

structure Pst (u w : World) (F : List Nat) (d : Nat) (D : Dsk) (so : Option Addr) (sc : Nat) (uo : Option Addr) (uc : Nat) (R : Dsk) (q : Nat) : Prop where
  dk : Dw u w F d D
  rd : RdW w so sc uo uc R
  box : Blk w q 30 (rdC so sc uo uc R)
  qn : q ∉ F ∧ u.heap.size ≤ q
  sn : ∀ ad, so = some ad → ad.block ∉ F ∧ ad.block < w.heap.size ∧ ad.block ≠ q
  un : ∀ ad, uo = some ad → ad.block ∉ F ∧ ad.block < w.heap.size ∧ ad.block ≠ q
section
variable {u w : World} {F : List Nat} {d : Nat} {D : Dsk} {so : Option Addr} {sc : Nat} {uo : Option Addr} {uc : Nat} {R : Dsk} {q : Nat} (h : Pst u w F d D so sc uo uc R q)
include h
theorem Pst.nn {w' : World} (g : w.grownBy w' none) : Pst u w' F d D so sc uo uc R q :=
  ⟨h.dk.nn g, h.rd.kept g, h.box.kept g (by simp), h.qn, fun ad e => ⟨(h.sn ad e).1, Nat.lt_of_lt_of_le (h.sn ad e).2.1 g.size, (h.sn ad e).2.2⟩, fun ad e => ⟨(h.un ad e).1, Nat.lt_of_lt_of_le (h.un ad e).2.1 g.size, (h.un ad e).2.2⟩⟩
/-- The program's call. -/
theorem Pst.step {w' : World} {D' : Dsk} (k : Lf u w w' F d D') : ∃ F', Pst u w' F' d D' so sc uo uc R q ∧ Fr w w' F ∧ ∀ x ∈ F', x ∈ F ∨ w.heap.size ≤ x := by
  obtain ⟨F', h1, h2, h3⟩ := k
  have off : ∀ b, b ∉ F → b < w.heap.size → b ∉ F' := fun b hb hl hm => by
    rcases h3 b hm with h4 | h4
    · exact hb h4
    · omega
  exact ⟨F', ⟨h1, h.rd.fr h2 (fun ad e => (h.sn ad e).1) (fun ad e => (h.un ad e).1), h2.blk h.box h.qn.1, ⟨off q h.qn.1 h.box.lt, h.qn.2⟩,
    fun ad e => ⟨off _ (h.sn ad e).1 (h.sn ad e).2.1, Nat.lt_of_lt_of_le (h.sn ad e).2.1 h2.size, (h.sn ad e).2.2⟩, fun ad e => ⟨off _ (h.un ad e).1 (h.un ad e).2.1, Nat.lt_of_lt_of_le (h.un ad e).2.1 h2.size, (h.un ad e).2.2⟩⟩, h2, h3⟩
/-- The document's call is done, and not stored yet: where the new one lies. -/
theorem Pst.made {w' : World} {R' : Dsk} {so' : Option Addr} {sc' : Nat} {uo' : Option Addr} {uc' : Nat} (g : w.grownBy w' none)
    (h1 : ∀ ad, so' = some ad → so = some ad ∨ (w.heap.size ≤ ad.block ∧ ad.block < w'.heap.size)) (h2 : ∀ ad, uo' = some ad → uo = some ad ∨ (w.heap.size ≤ ad.block ∧ ad.block < w'.heap.size)) (hr : RdW w' so' sc' uo' uc' R') :
    RdW w' so' sc' uo' uc' R' ∧ (∀ ad, so' = some ad → ad.block ∉ F ∧ ad.block < w'.heap.size ∧ ad.block ≠ q) ∧ (∀ ad, uo' = some ad → ad.block ∉ F ∧ ad.block < w'.heap.size ∧ ad.block ≠ q) := by
  have hq := h.box.lt
  refine ⟨hr, fun ad e => ?_, fun ad e => ?_⟩
  · rcases h1 ad e with h3 | h3
    · exact ⟨(h.sn ad h3).1, Nat.lt_of_lt_of_le (h.sn ad h3).2.1 g.size, (h.sn ad h3).2.2⟩
    · exact ⟨fun hm => by have := (h.dk.lo _ hm).2; omega, h3.2, by omega⟩
  · rcases h2 ad e with h3 | h3
    · exact ⟨(h.un ad h3).1, Nat.lt_of_lt_of_le (h.un ad h3).2.1 g.size, (h.un ad h3).2.2⟩
    · exact ⟨fun hm => by have := (h.dk.lo _ hm).2; omega, h3.2, by omega⟩
/-- .. and stored. -/
theorem Pst.store {R' : Dsk} {so' : Option Addr} {sc' : Nat} {uo' : Option Addr} {uc' : Nat} (hr : RdW w so' sc' uo' uc' R') (h1 : ∀ ad, so' = some ad → ad.block ∉ F ∧ ad.block < w.heap.size ∧ ad.block ≠ q) (h2 : ∀ ad, uo' = some ad → ad.block ∉ F ∧ ad.block < w.heap.size ∧ ad.block ≠ q) :
    Pst u (w.setRow q (rdC so' sc' uo' uc' R').toArray) F d D so' sc' uo' uc' R' q := by
  have g : w.grownBy (w.setRow q (rdC so' sc' uo' uc' R').toArray) (some q) := gb_row (gb_refl _ _) _ (Or.inr rfl)
  have gf : Fr w (w.setRow q (rdC so' sc' uo' uc' R').toArray) [q] := Fr.of g (fun x e => by cases e; exact Or.inl (by simp))
  refine ⟨h.dk.fr gf (fun x hx => by rw [List.mem_singleton.1 hx]; exact h.qn.2) (fun x hx hm => by rw [List.mem_singleton.1 hm] at hx; exact h.qn.1 hx), hr.off g (fun ad e e2 => by injection e2 with e2; exact (h1 ad e).2.2 e2) (fun ad e e2 => by injection e2 with e2; exact (h2 ad e).2.2 e2), h.box.row _, h.qn,
    fun ad e => ⟨(h1 ad e).1, Nat.lt_of_lt_of_le (h1 ad e).2.1 g.size, (h1 ad e).2.2⟩, fun ad e => ⟨(h2 ad e).1, Nat.lt_of_lt_of_le (h2 ad e).2.1 g.size, (h2 ad e).2.2⟩⟩
end

/-- Both calls, and the document's disk is stored. -/
theorem Pst.two {u W W3 w4 : World} {F : List Nat} {d : Nat} {D D' : Dsk} {so : Option Addr} {sc : Nat} {uo : Option Addr} {uc : Nat} {R : Dsk} {q : Nat} (h : Pst u W F d D so sc uo uc R q) (g : W.grownBy W3 none)
    {R' : Dsk} {so' : Option Addr} {sc' : Nat} {uo' : Option Addr} {uc' : Nat} (h1 : ∀ ad, so' = some ad → so = some ad ∨ (W.heap.size ≤ ad.block ∧ ad.block < W3.heap.size)) (h2 : ∀ ad, uo' = some ad → uo = some ad ∨ (W.heap.size ≤ ad.block ∧ ad.block < W3.heap.size)) (hr : RdW W3 so' sc' uo' uc' R')
    (k : Lf u W3 w4 F d D') : ∃ F4, Pst u (w4.setRow q (rdC so' sc' uo' uc' R').toArray) F4 d D' so' sc' uo' uc' R' q ∧ Fr W3 w4 F ∧ Blk w4 q 30 (rdC so sc uo uc R) ∧ ∀ x ∈ F4, x ∈ F ∨ W3.heap.size ≤ x := by
  have h3 := h.nn g
  obtain ⟨F4, hp, hf, hn⟩ := h3.step k
  obtain ⟨_, m1, m2⟩ := h.made g h1 h2 hr
  have off : ∀ b, b ∉ F → b < W3.heap.size → b ∉ F4 := fun b hb hl hm => by
    rcases hn b hm with h4 | h4
    · exact hb h4
    · omega
  exact ⟨F4, hp.store (hr.fr hf (fun ad e => (m1 ad e).1) (fun ad e => (m2 ad e).1)) (fun ad e => ⟨off _ (m1 ad e).1 (m1 ad e).2.1, Nat.lt_of_lt_of_le (m1 ad e).2.1 hf.size, (m1 ad e).2.2⟩) (fun ad e => ⟨off _ (m2 ad e).1 (m2 ad e).2.1, Nat.lt_of_lt_of_le (m2 ad e).2.1 hf.size, (m2 ad e).2.2⟩), hf, hp.box, hn⟩
/-- The document's disk is armed. -/
theorem Pst.arm {u w : World} {F : List Nat} {d : Nat} {D : Dsk} {so : Option Addr} {sc : Nat} {uo : Option Addr} {uc : Nat} {R : Dsk} {q : Nat} (h : Pst u w F d D so sc uo uc R q) (l : Int) :
    Pst u (w.setCell ⟨q, 2, none⟩ (.int .i64 l)) F d D so sc uo uc { R with left := l } q := by
  have g : w.grownBy (w.setCell ⟨q, 2, none⟩ (.int .i64 l)) (some q) := gb_set _ _ _ _
  have gf : Fr w (w.setCell ⟨q, 2, none⟩ (.int .i64 l)) [q] := Fr.of g (fun x e => by cases e; exact Or.inl (by simp))
  have hb := h.box.set 2 (.int .i64 l)
  refine ⟨h.dk.fr gf (fun x hx => by rw [List.mem_singleton.1 hx]; exact h.qn.2) (fun x hx hm => by rw [List.mem_singleton.1 hm] at hx; exact h.qn.1 hx), ?_, hb, h.qn,
    fun ad e => ⟨(h.sn ad e).1, Nat.lt_of_lt_of_le (h.sn ad e).2.1 g.size, (h.sn ad e).2.2⟩, fun ad e => ⟨(h.un ad e).1, Nat.lt_of_lt_of_le (h.un ad e).2.1 g.size, (h.un ad e).2.2⟩⟩
  exact (h.rd.off g (fun ad e e2 => by injection e2 with e2; exact (h.sn ad e).2.2 e2) (fun ad e e2 => by injection e2 with e2; exact (h.un ad e).2.2 e2)).same rfl rfl
theorem Alk.ok {D R : Dsk} (h : Alk D R) (ok : D.Ok) (hl : R.left < 9223372036854775808) : R.Ok := ⟨by rw [h.safe]; exact ok.pos, by rw [h.safe]; exact ok.most, by rw [h.safe]; exact ok.wide, by rw [h.safe, h.U]; exact ok.inn, hl⟩
theorem nts_take {w : World} {ao : Option Addr} {c : Nat} {l : List Int} (h : Nts w ao c l) (n : Nat) : Nts w ao c (l.take n) :=
  ⟨fun e => ⟨by rw [List.length_take, (h.zip e).1]; omega, (h.zip e).2⟩, by rw [List.length_take]; have := h.fits; omega, h.most, fun ad e hl => h.shape ad e (by rw [List.length_take] at hl; omega), fun ad e i hi => by
    rw [List.length_take] at hi
    rw [List.getElem_take]
    exact h.cell ad e i (by omega)⟩
/-- How much is left stays within bounds. -/
def Lb (R : Dsk) : Prop := -1 ≤ R.left ∧ R.left < 9223372036854775808
theorem Lb.call {R : Dsk} (h : Lb R) : Lb (rcall R).1 := by
  obtain ⟨h1, h2⟩ := h
  unfold rcall Lb
  split
  · exact ⟨by show (-1 : Int) ≤ -1; decide, by show (-1 : Int) < _; decide⟩
  · split
    · exact ⟨by show -1 ≤ R.left - 1; omega, by show R.left - 1 < _; omega⟩
    · exact ⟨h1, h2⟩
theorem Lb.write {R : Dsk} (h : Lb R) (i : Int) (b : List UInt8) : Lb (rwr R i b).1 := by
  unfold rwr
  split
  · exact h
  · split
    · exact h.call
    · exact h
theorem Lb.sync {R : Dsk} (h : Lb R) : Lb (rsy R).1 := by
  unfold rsy
  split
  · exact h
  · split
    · exact h.call
    · exact h.call
theorem Lb.fall (R : Dsk) (L : List Int) : Lb (faD R L) := ⟨by show (-1 : Int) ≤ -1; decide, by show (-1 : Int) < _; decide⟩
theorem Lb.arm {R : Dsk} {n : Int} (hn : n < 9223372036854775808) : Lb { R with left := max n (-1) } := ⟨by show -1 ≤ max n (-1); omega, by show max n (-1) < _; omega⟩

end Go.Proofs.Ytfaipdifkmjdeaa
