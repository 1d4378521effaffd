/- What the loops of DiskKeeps and DiskClones keep. -/
import Derived.Test.YtfaipdifkmjdeaaDkQ
import Derived.Test.YtfaipdifkmjdeaaMCpy
namespace Go.Proofs.Ytfaipdifkmjdeaa
open Go.RowKit

/-- Two disks, and bytes that were read ahead. -/
structure Kst (u w : World) (F : List Nat) (d : Nat) (D : Dsk) (G : List Nat) (c : Nat) (E : Dsk) (ao : Option Addr) (ac : Nat) (x : List UInt8) : Prop where
  two : Two u w F d D G c E
  rd : Bts w ao ac x
  off : ∀ ad, ao = some ad → ad.block ∉ F ∧ ad.block < w.heap.size
theorem Kst.nn {u w w' : World} {F G : List Nat} {d c : Nat} {D E : Dsk} {ao : Option Addr} {ac : Nat} {x : List UInt8} (h : Kst u w F d D G c E ao ac x) (g : w.grownBy w' none) : Kst u w' F d D G c E ao ac x :=
  ⟨h.two.nn g, h.rd.kept g (fun _ e => by cases e), fun ad e => ⟨(h.off ad e).1, Nat.lt_of_lt_of_le (h.off ad e).2 g.size⟩⟩
theorem Kst.step {u w w' : World} {F G : List Nat} {d c : Nat} {D D' E : Dsk} {ao : Option Addr} {ac : Nat} {x : List UInt8} (h : Kst u w F d D G c E ao ac x) (k : Lf u w w' F d D') : ∃ F', Kst u w' F' d D' G c E ao ac x := by
  obtain ⟨F', h1, h2, h3⟩ := k
  have ht : Two u w' F' d D' G c E := by
    refine ⟨h1, h.two.b.fr h2 (fun x hx => (h.two.a.lo x hx).1) (fun x hx hf => h.two.ne x hf hx), fun x hx hg => ?_⟩
    rcases h3 x hx with h4 | h4
    · exact h.two.ne x h4 hg
    · have := (h.two.b.lo x hg).2
      omega
  refine ⟨F', ht, h2.bts h.rd (fun ad e => (h.off ad e).1), fun ad e => ⟨fun hm => ?_, Nat.lt_of_lt_of_le (h.off ad e).2 h2.size⟩⟩
  rcases h3 _ hm with h4 | h4
  · exact (h.off ad e).1 h4
  · have := (h.off ad e).2
    omega

theorem info_act : (Try.prog.info? 36).map (·.size) = some 4 := by kernel_rfl
theorem zero_act : ∃ Z : Array Value, Z.size = 4 ∧ ∀ w, (zeroValue 36).run Try.prog w = .ok (.agg Z) w := ⟨_, rfl, fun w => (by kernel_rfl : (zeroValue 36).run Try.prog w = .ok (.agg (acC ⟨0, 0, none, 0, [], none, 0, []⟩).toArray) w)⟩
theorem acC_len (p : ActD) : (acC p).length = 4 := rfl

end Go.Proofs.Ytfaipdifkmjdeaa

/- What Under answers, in the laws' form; a disk falls without fates. -/
namespace Go.Proofs.Ytfaipdifkmjdeaa
open Go.RowKit

theorem lunder {u w : World} {F : List Nat} {d : Nat} {D : Dsk} (h : Dw u w F d D) (hU : D.U.length ≤ 1000000) :
    Calls Try.prog 20 #[.pointer (some ⟨d, 0, none⟩)] w fun e w' => ∃ ao c, e = .returned (.slice ao D.U.length c) ∧ Nts w' ao c (D.U.map fun x => (x.1 : Int)) ∧ (∀ ad, ao = some ad → w.heap.size ≤ ad.block) ∧ w.grownBy w' none :=
  (dunder_any _ w F d D h.at_ hU).mono fun _ _ q => by
    obtain ⟨v, q1, q2, q3⟩ := q
    have e1 : (D.U.map fun x => (x.1 : Int)).length = D.U.length := List.length_map ..
    have e2 : (D.U.map fun x => (x.1 : Int)).map ivc = D.U.map fun x => keyN x.1 := by rw [List.map_map]; rfl
    rw [← e1, ← e2] at q2
    obtain ⟨ao, c, r1, r2, r3⟩ := nts_own q2
    exact ⟨ao, c, by rw [q1, r1, e1], r2, r3, q3⟩
theorem nts_nil0 (w : World) : Nts w none 0 [] := ⟨fun _ => ⟨rfl, rfl⟩, Nat.le_refl _, Nat.zero_le _, (fun _ e => by cases e), (fun _ e => by cases e)⟩
theorem lfall0 {u w : World} {F : List Nat} {d : Nat} {D : Dsk} (h : Dw u w F d D) (hU : D.U.length ≤ 1000000) :
    Calls Try.prog 15 #[.pointer (some ⟨d, 0, none⟩), .slice none 0 0] w fun e w' => e = .returned (.tuple #[]) ∧ Lf u w w' F d (faD D []) :=
  lfall h hU none 0 [] (nts_nil0 w) (fun _ e => by cases e)

end Go.Proofs.Ytfaipdifkmjdeaa
