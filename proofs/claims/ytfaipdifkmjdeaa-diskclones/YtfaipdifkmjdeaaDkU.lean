/- What Under answers, in the laws' form; a disk falls without fates. -/
import Derived.Test.YtfaipdifkmjdeaaDkR2
namespace Go.Proofs.Ytfaipdifkmjdeaa
open Go.RowKit

theorem lunder {u w : World} {F : List Nat} {d : Nat} {D : Dsk} (h : Dw u w F d D) (hU : D.U.length ≤ 1000000) :
    Calls Try.prog 20 #[.pointer (some ⟨d, 0, none⟩)] w fun e w' => ∃ ao c, e = .returned (.slice ao D.U.length c) ∧ Nts w' ao c (D.U.map fun x => (x.1 : Int)) ∧ (∀ ad, ao = some ad → w.heap.size ≤ ad.block) ∧ w.grownBy w' none :=
  (dunder_any _ w F d D h.at_ hU).mono fun _ _ q => by
    obtain ⟨v, q1, q2, q3⟩ := q
    have e1 : (D.U.map fun x => (x.1 : Int)).length = D.U.length := List.length_map ..
    have e2 : (D.U.map fun x => (x.1 : Int)).map ivc = D.U.map fun x => keyN x.1 := by rw [List.map_map]; rfl
    rw [← e1, ← e2] at q2
    obtain ⟨ao, c, r1, r2, r3⟩ := nts_own q2
    exact ⟨ao, c, by rw [q1, r1, e1], r2, r3, q3⟩
theorem nts_nil0 (w : World) : Nts w none 0 [] := ⟨fun _ => ⟨rfl, rfl⟩, Nat.le_refl _, Nat.zero_le _, (fun _ e => by cases e), (fun _ e => by cases e)⟩
theorem lfall0 {u w : World} {F : List Nat} {d : Nat} {D : Dsk} (h : Dw u w F d D) (hU : D.U.length ≤ 1000000) :
    Calls Try.prog 15 #[.pointer (some ⟨d, 0, none⟩), .slice none 0 0] w fun e w' => e = .returned (.tuple #[]) ∧ Lf u w w' F d (faD D []) :=
  lfall h hU none 0 [] (nts_nil0 w) (fun _ e => by cases e)

end Go.Proofs.Ytfaipdifkmjdeaa
