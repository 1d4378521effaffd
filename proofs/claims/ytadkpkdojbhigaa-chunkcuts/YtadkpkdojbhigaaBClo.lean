/- What bytes.Clone answers: the bytes in new memory. -/
import Derived.Test.YtadkpkdojbhigaaMApp
namespace Go.Proofs.Ytadkpkdojbhigaa
open Go.RowKit

theorem nil_ne (b o n c : Nat) (W : World) : (binOp .eql 22 (.slice (some ⟨b, o, none⟩) n c) (.slice none 0 0)).run Try.prog W = .ok (.bool false) W := by kernel_rfl

set_option maxRecDepth 100000 in
theorem bclone_any (w : World) (b o c : Nat) (l : List UInt8) (hb : Bts w (some ⟨b, o, none⟩) c l) (hl : l.length ≤ 1000000) :
    Calls Try.prog 23 #[.slice (some ⟨b, o, none⟩) l.length c] w fun e w' => ∃ v, e = .returned v ∧ w'.ownsRow w.heap.size 5 1 v l.length (l.map bv) ∧ w.grownBy w' none := by
  obtain ⟨W1, hW1, ho1, g1⟩ := own_new w w.heap.size (Nat.le_refl _)
  have hb1 := hb.kept g1 (fun _ e => by cases e)
  obtain ⟨n, hn⟩ : ∃ n, n = l.length := ⟨_, rfl⟩
  have hne := nil_ne b o n c
  have HN := hide hn
  have HW1 := hide hW1
  rw [← hn] at hl ⊢
  clear hn hW1 hb
  go_enter Try.func23, Try.ntmps23
  go_wp2_with (rw [← unhide HW1]; refine wpList_append_btm rfl _ _ rfl w.heap.size _ _ _ rfl ho1 _ _ l hb1 n (unhide HN) rfl (by omega) g1.size ?_; intro v5 w5 ho5 g5; have G5 := hide (own_grow g1 ho1 g5); have HO5 := hide ho5; clear g5 ho5 ho1 hb1)
  go_ret
  exact ⟨_, rfl, by simpa using unhide HO5, unhide G5⟩

end Go.Proofs.Ytadkpkdojbhigaa
