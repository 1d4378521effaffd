/- What a disk's calls make of it that is up and not armed; in the laws' form. -/
import Derived.Test.YtfaipdifkmjdeaaDkFt
namespace Go.Proofs.Ytfaipdifkmjdeaa
open Go.RowKit

theorem wr_free {D : Dsk} (hd : D.down = false) (hl : D.left < 0) {i : Nat} (hi : i < D.safe.length) {b : List UInt8} (hb : b.length ≤ 256) : wrD D (i : Int) b = ({ D with U := D.U ++ [(i, padS b)] }, 0) := by
  unfold wrD
  rw [if_neg (by rw [hd]; decide), if_pos ⟨(hasD_iff D i).2 (by omega), hb⟩, Int.toNat_natCast]
  unfold cntD
  simp only
  rw [if_neg (by omega), if_neg (by omega)]
theorem sy_free {D : Dsk} (hd : D.down = false) (hl : D.left < 0) : syD D = (settleD (fun _ => 256) D, 0) := by
  have e : cntD D = (D, 0) := by
    unfold cntD
    rw [if_neg (by omega), if_neg (by omega)]
  unfold syD
  rw [if_neg (by rw [hd]; decide), e]
  rfl
theorem clampN_256 : clampN 256 = 256 := by decide
theorem lay_full {S : List (List UInt8)} {x : Nat × List UInt8} (hx : x.2.length = 256) (hi : x.1 < S.length) (hS : ∀ s ∈ S, s.length = 256) : lay1 S x 256 = S.set x.1 x.2 := by
  unfold lay1
  rw [List.getElem?_eq_getElem hi, Option.getD_some, List.take_of_length_le (by omega), List.drop_of_length_le (by rw [hS _ (List.getElem_mem hi)]; omega), List.append_nil]

section
variable {u w : World} {F : List Nat} {d : Nat} {D : Dsk} (h : Dw u w F d D)
include h
theorem lwrite_free (hd : D.down = false) (hl : D.left < 0) (z : Int) (i : Nat) (hz : z = (i : Int)) (hi : i < D.safe.length) (ao : Option Addr) (bc : Nat) (b : List UInt8) (hb : Bts w ao bc b) (n : Nat) (hn : n = b.length) (hbl : b.length ≤ 256) (hU : D.U.length ≤ 1000000) :
    Calls Try.prog 11 #[.pointer (some ⟨d, 0, none⟩), .int .i64 z, .slice ao n bc] w fun e w' => e = .returned (.int .i64 0) ∧ Lf u w w' F d { D with U := D.U ++ [(i, padS b)] } := by
  subst hz hn
  have := lwrite h (i : Int) ao bc b hb hU
  rw [wr_free hd hl hi hbl] at this
  exact this
theorem lsync_free (hd : D.down = false) (hl : D.left < 0) (hU : D.U.length ≤ 1000000) :
    Calls Try.prog 13 #[.pointer (some ⟨d, 0, none⟩)] w fun e w' => e = .returned (.int .i64 0) ∧ Lf u w w' F d (settleD (fun _ => 256) D) := by
  have := lsync h hU
  rw [sy_free hd hl] at this
  exact this
/-- .. of a disk that is up: a sector that is there has 256 bytes. -/
theorem lread_up (hd : D.down = false) (z : Int) (i : Nat) (hz : z = (i : Int)) (hi : i < D.safe.length) (hU : D.U.length ≤ 1000000) :
    Calls Try.prog 18 #[.pointer (some ⟨d, 0, none⟩), .int .i64 z] w fun e w' => ∃ ao c, e = .returned (.tuple #[.slice ao 256 c, .int .i64 0]) ∧ Bts w' ao c (lastD D i) ∧ (∀ ad, ao = some ad → w.heap.size ≤ ad.block) ∧ w.grownBy w' none := by
  subst hz
  have e1 : rdD D (i : Int) = (lastD D i, 0) := by unfold rdD; rw [if_neg (by rw [hd]; decide), if_pos ((hasD_iff D i).2 (by omega)), Int.toNat_natCast]
  have hl := lastD_len h.at_.ok hi
  refine (lread h i hU).mono fun e w' q => ?_
  rw [e1] at q
  obtain ⟨ao, c, q1, q2, q3, q4⟩ := q
  simp only at q1 q2
  rw [hl] at q1
  exact ⟨ao, c, q1, q2, q3, q4⟩
theorem lsafe_up (z : Int) (i : Nat) (hz : z = (i : Int)) (hi : i < D.safe.length) :
    Calls Try.prog 23 #[.pointer (some ⟨d, 0, none⟩), .int .i64 z] w fun e w' => ∃ ao c, e = .returned (.tuple #[.slice ao 256 c, .int .i64 0]) ∧ Bts w' ao c (keptD D i) ∧ (∀ ad, ao = some ad → w.heap.size ≤ ad.block) ∧ w.grownBy w' none := by
  subst hz
  have e1 : sfD D (i : Int) = (keptD D i, 0) := by unfold sfD; rw [if_pos ((hasD_iff D i).2 (by omega)), Int.toNat_natCast]
  have hl := keptD_len h.at_.ok hi
  refine (lsafe h i).mono fun e w' q => ?_
  rw [e1] at q
  obtain ⟨ao, c, q1, q2, q3, q4⟩ := q
  simp only at q1 q2
  rw [hl] at q1
  exact ⟨ao, c, q1, q2, q3, q4⟩
end
theorem conv_len {w : World} {ao : Option Addr} {c n : Nat} {l : List UInt8} (h : Bts w ao c l) (hn : n = l.length) : (convert 33 9 (.slice ao n c)).run Try.prog w = .ok (.string (str l)) w := by
  subst hn
  exact conv_str h

end Go.Proofs.Ytfaipdifkmjdeaa
