/- What wire's fresh answers: the bytes handed in, copied into new memory with room behind them. -/
import Derived.Test.YtadkpkdojbhigaaMLst
namespace Go.Proofs.Ytadkpkdojbhigaa
open Go.RowKit

set_option maxHeartbeats 400000 in
theorem fresh_any (w : World) (ao : Option Addr) (c : Nat) (l : List UInt8) (room : Nat) (hb : Bts w ao c l) (hr : l.length + room ≤ 70368744177664) :
    Calls Try.prog 30 #[.slice ao l.length c, .int .i64 room] w fun e w' => e = .returned (.slice (some ⟨w.heap.size, 0, none⟩) l.length (l.length + room)) ∧
      w'.ownsRow w.heap.size 5 1 (.slice (some ⟨w.heap.size, 0, none⟩) l.length (l.length + room)) l.length (l.map bv) ∧ w.grownBy w' none := by
  obtain ⟨i0, hi, hz0, hz1, hz2⟩ := info_parts info_byte
  go_enter Try.func30, Try.ntmps30
  go_wp2_with (at_make; refine wpList_make_own _ rfl _ _ 22 rfl w.heap.size 5 i0 (.int .u8 0) 1 Try.underlying22 hi hz0 hz1 _ _ _ (l.length + room) rfl rfl ?c1 ?c2 ?c3 ?c4 ?_)
  case c1 => omega
  case c2 => rw [hz2]; omega
  case c3 => unfold maxLen; omega
  case c4 => exact Nat.le_refl _
  intro w1 hown hgrow
  have hb1 : Bts w1 ao c l := hb.kept hgrow (fun _ e => by cases e)
  go_wp2_with (at_builtin; refine wpList_append_fits_any _ rfl _ _ 22 rfl w.heap.size 5 i0 1 Try.underlying22 hi hz1 _ 0 _ _ rfl hown ao l.length c (l.map bv) rfl ?d1 hb1.zip hb1.news (bv_one l) ?d2 ?_)
  case d1 => simp
  case d2 => omega
  intro w2 hown2 hgrow2
  go_wp2
  go_ret
  exact ⟨by simp, hown2, gb_trans hgrow hgrow2 (fun x e => by cases e; exact Or.inl (Nat.le_refl _))⟩

end Go.Proofs.Ytadkpkdojbhigaa
