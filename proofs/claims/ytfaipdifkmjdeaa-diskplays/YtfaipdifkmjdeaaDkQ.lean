/- Two disks side by side; and what stays on a disk of which one sector is not written. -/
import Derived.Test.YtfaipdifkmjdeaaDkP
import Derived.Test.YtfaipdifkmjdeaaMMsk
namespace Go.Proofs.Ytfaipdifkmjdeaa
open Go.RowKit

/-- Two disks that share nothing. -/
structure Two (u w : World) (F : List Nat) (d : Nat) (D : Dsk) (G : List Nat) (c : Nat) (E : Dsk) : Prop where
  a : Dw u w F d D
  b : Dw u w G c E
  ne : ∀ x ∈ F, x ∉ G
theorem Two.nn {u w w' : World} {F G : List Nat} {d c : Nat} {D E : Dsk} (h : Two u w F d D G c E) (g : w.grownBy w' none) : Two u w' F d D G c E := ⟨h.a.nn g, h.b.nn g, h.ne⟩
/-- A call of the one leaves the other as it is. -/
theorem Two.step {u w w' : World} {F G : List Nat} {d c : Nat} {D D' E : Dsk} (h : Two u w F d D G c E) (k : Lf u w w' F d D') : ∃ F', Two u w' F' d D' G c E := by
  obtain ⟨F', h1, h2, h3⟩ := k
  refine ⟨F', h1, h.b.fr h2 (fun x hx => (h.a.lo x hx).1) (fun x hx hf => h.ne x hf hx), fun x hx hg => ?_⟩
  rcases h3 x hx with h4 | h4
  · exact h.ne x h4 hg
  · have := (h.b.lo x hg).2
    omega
theorem Two.made {u w w' : World} {F G : List Nat} {d c : Nat} {D E : Dsk} (h : Dw u w F d D) (k : Dw u w' G c E) (hG : ∀ x ∈ G, w.heap.size ≤ x) (g : w.grownBy w' none) : Two u w' F d D G c E :=
  ⟨h.nn g, k, fun x hx hg => by have := (h.lo x hx).2; have := hG x hg; omega⟩

theorem cnt_u (D : Dsk) : (cntD D).1.U.length = D.U.length := by rw [(cntD_safe D).2]
theorem wr_u (D : Dsk) (i : Int) (b : List UInt8) : (wrD D i b).1.U.length ≤ D.U.length + 1 := by
  unfold wrD
  split
  · exact Nat.le_succ _
  · split
    · rw [cnt_u, List.length_append]
      exact Nat.le_refl _
    · exact Nat.le_succ _
theorem sy_u (D : Dsk) : (syD D).1.U.length ≤ D.U.length := by
  unfold syD
  split
  · exact Nat.le_refl _
  · split
    · exact Nat.zero_le _
    · rw [cnt_u]
      exact Nat.le_refl _
theorem fa_u (D : Dsk) (L : List Int) : (faD D L).U = [] := rfl

/-- A sector that was safe, and is not written. -/
structure Kp (i : Nat) (x : List UInt8) (D : Dsk) : Prop where
  kept : keptD D i = x
  off : ∀ y ∈ D.U, y.1 ≠ i
theorem layAll_off (f : Nat → Int) (i : Nat) : ∀ (U : List (Nat × List UInt8)) (k : Nat) (S : List (List UInt8)), (∀ y ∈ U, y.1 ≠ i) → (layAll f k U S)[i]? = S[i]?
  | [], _, _, _ => rfl
  | y :: U, k, S, h => by
    rw [layAll, layAll_off f i U (k + 1) _ (fun z hz => h z (by simp [hz]))]
    unfold lay1
    rw [List.getElem?_set_ne (h y (by simp))]
theorem Kp.settle {i : Nat} {x : List UInt8} {D : Dsk} (h : Kp i x D) (f : Nat → Int) : Kp i x (settleD f D) := by
  refine ⟨?_, fun y hy => by cases hy⟩
  have := h.kept
  unfold keptD settleD at *
  simp only
  rw [layAll_off f i _ _ _ h.off]
  exact this
theorem Kp.cnt {i : Nat} {x : List UInt8} {D : Dsk} (h : Kp i x D) : Kp i x (cntD D).1 := by
  obtain ⟨e1, e2⟩ := cntD_safe D
  exact ⟨by have := h.kept; unfold keptD at *; rw [e1]; exact this, by rw [e2]; exact h.off⟩
theorem Kp.sync {i : Nat} {x : List UInt8} {D : Dsk} (h : Kp i x D) : Kp i x (syD D).1 := by
  unfold syD
  split
  · exact h
  · split
    · exact h.cnt.settle _
    · exact h.cnt
theorem Kp.write {i : Nat} {x : List UInt8} {D : Dsk} (h : Kp i x D) (z : Int) (hz : z ≠ (i : Int)) (b : List UInt8) : Kp i x (wrD D z b).1 := by
  unfold wrD
  split
  · exact h
  · split
    · rename_i h1
      have h2 := hasD_nat h1.1
      have h3 : Kp i x { D with U := D.U ++ [(z.toNat, padS b)] } := ⟨h.kept, fun y hy => by
        rcases List.mem_append.1 hy with hy | hy
        · exact h.off y hy
        · rw [List.mem_singleton.1 hy]
          intro e
          exact hz (by rw [h2.2]; simp only at e; rw [e])⟩
      exact h3.cnt
    · exact h
theorem Kp.arm {i : Nat} {x : List UInt8} {D : Dsk} (h : Kp i x D) (n : Int) : Kp i x (arD D n) := ⟨h.kept, h.off⟩
theorem Kp.fall {i : Nat} {x : List UInt8} {D : Dsk} (h : Kp i x D) (L : List Int) : Kp i x (faD D L) := ⟨(h.settle (fateL L)).kept, (h.settle (fateL L)).off⟩
theorem Kp.last {i : Nat} {x : List UInt8} {D : Dsk} (h : Kp i x D) : lastD D i = x := by
  have e : rowsU D.U i = [] := Classical.byContradiction fun hne => by
    obtain ⟨y, hy, he⟩ := List.mem_map.1 (rowsU_ne.1 hne)
    exact h.off y hy he
  unfold lastD
  rw [e]
  exact h.kept

/-- The sectors are as many. -/
theorem wr_n (D : Dsk) (i : Int) (b : List UInt8) : (wrD D i b).1.safe.length = D.safe.length := by
  unfold wrD
  split
  · rfl
  · split
    · rw [(cntD_safe _).1]
    · rfl
theorem sy_n (D : Dsk) : (syD D).1.safe.length = D.safe.length := by
  unfold syD
  split
  · rfl
  · split
    · simp only [settleD, layAll_len, (cntD_safe D).1]
    · rw [(cntD_safe D).1]
theorem fa_n (D : Dsk) (L : List Int) : (faD D L).safe.length = D.safe.length := by simp only [faD, settleD, layAll_len]

end Go.Proofs.Ytfaipdifkmjdeaa
