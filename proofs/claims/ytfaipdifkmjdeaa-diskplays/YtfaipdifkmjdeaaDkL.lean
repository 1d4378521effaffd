/- What disk's calls answer, as the laws want it: of a disk all of whose blocks are new since the law began. -/
import Derived.Test.YtfaipdifkmjdeaaDkCl
import Derived.Test.YtfaipdifkmjdeaaDkN
namespace Go.Proofs.Ytfaipdifkmjdeaa
open Go.RowKit

/-- A disk that is new since u; nothing older has changed. -/
structure Dw (u w : World) (F : List Nat) (d : Nat) (D : Dsk) : Prop where
  at_ : DiskAt u.heap.size w F d D
  gb : u.grownBy w none
/-- What is left of it by a call: its blocks are those that it had, or newer than the call. -/
def Lf (u w w' : World) (F : List Nat) (d : Nat) (D : Dsk) : Prop := ∃ F', Dw u w' F' d D ∧ Fr w w' F ∧ ∀ x ∈ F', x ∈ F ∨ w.heap.size ≤ x

theorem gb_fr {u w w' : World} {F : List Nat} (h : u.grownBy w none) (g : Fr w w' F) (hF : ∀ x ∈ F, u.heap.size ≤ x) : u.grownBy w' none :=
  ((Fr.none h []).trans g (fun x hx => Or.inr (hF x hx))).gb (fun x hx => by cases hx)
theorem Dw.fr {u w w' : World} {F G : List Nat} {d : Nat} {D : Dsk} (h : Dw u w F d D) (g : Fr w w' G) (hG : ∀ x ∈ G, u.heap.size ≤ x) (hFG : ∀ x ∈ F, x ∉ G) : Dw u w' F d D := ⟨h.at_.fr g hFG, gb_fr h.gb g hG⟩
theorem Dw.nn {u w w' : World} {F : List Nat} {d : Nat} {D : Dsk} (h : Dw u w F d D) (g : w.grownBy w' none) : Dw u w' F d D := ⟨h.at_.none g, tn h.gb g⟩
theorem Dw.lo {u w : World} {F : List Nat} {d : Nat} {D : Dsk} (h : Dw u w F d D) : ∀ x ∈ F, u.heap.size ≤ x ∧ x < w.heap.size := h.at_.low
theorem Left.lf {u w w' : World} {F : List Nat} {d : Nat} {D D' : Dsk} (k : Dw u w F d D) (h : Left u.heap.size w w' F d D') : Lf u w w' F d D' := by
  obtain ⟨F', h1, h2, h3⟩ := h
  exact ⟨F', ⟨h1, gb_fr k.gb h2 (fun x hx => (k.lo x hx).1)⟩, h2, h3⟩
/-- What came in lies apart. -/
theorem Dw.bts {u w : World} {F : List Nat} {d : Nat} {D : Dsk} (h : Dw u w F d D) {ao : Option Addr} {c : Nat} {l : List UInt8} (hb : Bts u ao c l) : Bts w ao c l := hb.kept h.gb (fun _ e => by cases e)

section
variable {u w : World} {F : List Nat} {d : Nat} {D : Dsk} (h : Dw u w F d D)
include h
theorem lwrite (i : Int) (ao : Option Addr) (bc : Nat) (b : List UInt8) (hb : Bts w ao bc b) (hU : D.U.length ≤ 1000000) :
    Calls Try.prog 11 #[.pointer (some ⟨d, 0, none⟩), .int .i64 i, .slice ao b.length bc] w fun e w' => e = .returned (.int .i64 (wrD D i b).2) ∧ Lf u w w' F d (wrD D i b).1 :=
  (dwrite_any _ w F d D h.at_ i ao bc b hb hU).mono fun _ _ q => ⟨q.1, q.2.lf h⟩
theorem lsync (hU : D.U.length ≤ 1000000) :
    Calls Try.prog 13 #[.pointer (some ⟨d, 0, none⟩)] w fun e w' => e = .returned (.int .i64 (syD D).2) ∧ Lf u w w' F d (syD D).1 :=
  (dsync_any _ w F d D h.at_ hU).mono fun _ _ q => ⟨q.1, q.2.lf h⟩
theorem lfall (hU : D.U.length ≤ 1000000) (fo : Option Addr) (fc : Nat) (L : List Int) (hL : Nts w fo fc L) (hb : ∀ ad, fo = some ad → ad.block ∉ F) :
    Calls Try.prog 15 #[.pointer (some ⟨d, 0, none⟩), .slice fo L.length fc] w fun e w' => e = .returned (.tuple #[]) ∧ Lf u w w' F d (faD D L) :=
  (dfall_any _ w F d D h.at_ hU fo fc L hL hb).mono fun _ _ q => ⟨q.1, F, ⟨q.2.1, gb_fr h.gb q.2.2 (fun x hx => (h.lo x hx).1)⟩, q.2.2, fun _ hx => Or.inl hx⟩
theorem larm (n : Int) (hn : n < 9223372036854775808) :
    Calls Try.prog 14 #[.pointer (some ⟨d, 0, none⟩), .int .i64 n] w fun e w' => e = .returned (.tuple #[]) ∧ Lf u w w' F d (arD D n) :=
  (darm_any _ w F d D h.at_ n hn).mono fun _ _ q => ⟨q.1, by
    have hfr := Fr.of (F := F) q.2.2.1 (fun _ e => by cases e; exact Or.inl q.2.2.2)
    exact ⟨F, ⟨q.2.1, gb_fr h.gb hfr (fun x hx => (h.lo x hx).1)⟩, hfr, fun _ hx => Or.inl hx⟩⟩
theorem lread (i : Int) (hU : D.U.length ≤ 1000000) :
    Calls Try.prog 18 #[.pointer (some ⟨d, 0, none⟩), .int .i64 i] w fun e w' => ∃ ao c, e = .returned (.tuple #[.slice ao (rdD D i).1.length c, .int .i64 (rdD D i).2]) ∧ Bts w' ao c (rdD D i).1 ∧ (∀ ad, ao = some ad → w.heap.size ≤ ad.block) ∧ w.grownBy w' none :=
  (dread_any _ w F d D h.at_ i hU).mono fun _ _ q => by
    obtain ⟨⟨v, q1, ao, c, q2, q3, q4⟩, q5⟩ := q
    exact ⟨ao, c, by rw [q1, q2], q3, q4, q5⟩
theorem lsafe (i : Int) :
    Calls Try.prog 23 #[.pointer (some ⟨d, 0, none⟩), .int .i64 i] w fun e w' => ∃ ao c, e = .returned (.tuple #[.slice ao (sfD D i).1.length c, .int .i64 (sfD D i).2]) ∧ Bts w' ao c (sfD D i).1 ∧ (∀ ad, ao = some ad → w.heap.size ≤ ad.block) ∧ w.grownBy w' none :=
  (dsafe_any _ w F d D h.at_ i).mono fun _ _ q => by
    obtain ⟨⟨v, q1, ao, c, q2, q3, q4⟩, q5⟩ := q
    exact ⟨ao, c, by rw [q1, q2], q3, q4, q5⟩
end
/-- A disk is lowered: it is new since an earlier world too. -/
theorem DiskAt.lower {u b : Nat} {w : World} {F : List Nat} {d : Nat} {D : Dsk} (h : DiskAt u w F d D) (hb : b ≤ u) : DiskAt b w F d D := by
  obtain ⟨s, c, m, X, ov, K, q2⟩ := h
  exact ⟨s, c, m, X, ov, K, q2.blk, q2.sec, q2.fits, own_low q2.ord hb, ⟨q2.und.map, q2.und.keys, fun p hp => own_low (q2.und.row p hp) hb, q2.und.apart⟩, q2.inD, q2.inS, q2.inM, q2.inO, q2.inK, fun x hx => ⟨Nat.le_trans hb (q2.low x hx).1, (q2.low x hx).2⟩, q2.ok⟩
theorem lnew {u w : World} (g : u.grownBy w none) (n : Nat) (h1 : 1 ≤ n) (h2 : n ≤ 2048) :
    Calls Try.prog 8 #[.int .i64 (n : Int)] w fun e w' => ∃ d F, e = .returned (.tuple #[.pointer (some ⟨d, 0, none⟩), .int .i64 0]) ∧ Dw u w' F d (newD n) ∧ (∀ x ∈ F, w.heap.size ≤ x) ∧ w.grownBy w' none :=
  (dnew_any w n h1 h2).mono fun _ _ q => by
    obtain ⟨d, F, q1, q2, q3⟩ := q
    exact ⟨d, F, q1, ⟨q2.lower g.size, tn g q3⟩, fun x hx => (q2.low x hx).1, q3⟩
theorem lclone {u w : World} {F : List Nat} {d : Nat} {D : Dsk} (h : Dw u w F d D) (hU : D.U.length ≤ 1000000) :
    Calls Try.prog 25 #[.pointer (some ⟨d, 0, none⟩)] w fun e w' => ∃ d' F', e = .returned (.pointer (some ⟨d', 0, none⟩)) ∧ Dw u w' F' d' D ∧ (∀ x ∈ F', w.heap.size ≤ x) ∧ w.grownBy w' none :=
  (dclone_any _ w F d D h.at_ hU).mono fun _ _ q => by
    obtain ⟨d', F', q1, q2, q3⟩ := q
    exact ⟨d', F', q1, ⟨q2.lower h.gb.size, tn h.gb q3⟩, fun x hx => (q2.low x hx).1, q3⟩

end Go.Proofs.Ytfaipdifkmjdeaa
