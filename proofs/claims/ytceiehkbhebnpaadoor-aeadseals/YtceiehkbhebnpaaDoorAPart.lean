/- What parted and check answer, or throw. No condition but those that each lemma names. -/
import Derived.Test.YtceiehkbhebnpaaDoorKEqual
import Derived.Test.YtceiehkbhebnpaaDoorASeal
namespace Go.Proofs.YtceiehkbhebnpaaDoor
open Go.RowKit

set_option maxRecDepth 100000 in
set_option maxHeartbeats 1000000 in
theorem parted_short (w : World) (xo : Option Addr) (cx m : Nat) (hm : m < 16) :
    Calls Tryd.prog 20 #[.slice xo m cx] w fun e w' => (∃ s, e = .panicked [{ v := .iface 70 s, recovered := false }]) ∧ w.grownBy w' none := by
  have q3 : (m : Int) < 16 := by omega
  go_enter Tryd.func20, Tryd.ntmps20
  go_wp2
  exact ⟨rfl, ⟨_, rfl⟩, gb_refl _ _⟩

set_option maxRecDepth 100000 in
set_option maxHeartbeats 1000000 in
theorem parted_any (w : World) (xo : Option Addr) (cx a : Nat) (hc : a + 16 ≤ cx) (hb : a ≤ 100000) :
    Calls Tryd.prog 20 #[.slice xo (a + 16) cx] w fun e w' => e = .returned (.tuple #[.slice xo a cx, .slice (cutA xo cx a) 16 (cx - a)]) ∧ w.grownBy w' none := by
  obtain ⟨m, hm⟩ : ∃ m, m = a + 16 := ⟨_, rfl⟩
  have hto := fun W => slice_to (P := Tryd.prog) W 24 5 Tryd.underlying24 size_byte xo m cx a (by omega)
  have hfr := fun W => slice_from (P := Tryd.prog) W 24 5 Tryd.underlying24 size_byte xo m cx a (by omega)
  rw [show m - a = 16 by omega] at hfr
  have q3 : ¬ (m : Int) < 16 := by omega
  have q1 : (m : Int) - 16 = (a : Int) := by omega
  have q2 : IntKind.i64.wrap (a : Int) = (a : Int) := by rw [IntKind.wrap_i64]; omega
  rw [← hm]
  clear hm hc hb
  go_enter Tryd.func20, Tryd.ntmps20
  go_wp2
  go_quiet (fail)
  go_wp2
  go_ret2
  exact ⟨rfl, gb_drewN (gb_refl _ _) _⟩

set_option maxRecDepth 100000 in
set_option maxHeartbeats 1000000 in
theorem check_same (w : World) (T : List UInt8) (hT : T.length = 16) (ao : Option Addr) (c : Nat) (hy : Bts w ao c T) :
    Calls Tryd.prog 21 #[.agg (T.map bv).toArray, .slice ao 16 c] w fun e w' => e = .returned (.tuple #[]) ∧ w.grownBy w' none := by
  have hg1 := gb_alloc (gb_refl w none) (.cells (T.map bv).toArray 29)
  have hB1 := Blk.new w 29 (T.map bv)
  have he := equal_any _ (some ⟨w.heap.size, 0, none⟩) ao 16 c T T (blk_bytes hB1 16 (by omega) (by decide)) (hy.kept hg1 (fun _ e => by cases e))
  rw [hT, decide_eq_true rfl] at he
  have slT : ∀ (p : Nat) (W : World), (Instr.sliceAt 29 (.pointer (some ⟨p, 0, none⟩)) none none none).run Tryd.prog W = .ok (.slice (some ⟨p, 0, none⟩) 16 16) W := fun p W => slice_whole5 29 5 16 Tryd.underlying29 size_byte p 0 (by omega) W
  obtain ⟨TA, hTA⟩ : ∃ A : Array Value, A = (T.map bv).toArray := ⟨_, rfl⟩
  rw [← hTA] at he hg1 ⊢
  obtain ⟨W1, hW1⟩ : ∃ W1, W1 = w.alloc (.cells TA 29) := ⟨_, rfl⟩
  rw [← hW1] at he hg1
  have HW1 := hide hW1
  clear hTA hW1 hB1 hy hT
  go_enter Tryd.func21, Tryd.ntmps21
  go_wp2_with (go_at_call 37; rw [← unhide HW1]; refine he.mono ?_; rintro e w2 ⟨rfl, rfl⟩; clear he)
  go_end0
  exact ⟨rfl, hg1⟩

set_option maxRecDepth 100000 in
set_option maxHeartbeats 1000000 in
theorem check_other (w : World) (T y : List UInt8) (hT : T.length = 16) (ao : Option Addr) (c : Nat) (hy : Bts w ao c y) (hl : y.length = 16) (hne : T ≠ y) :
    Calls Tryd.prog 21 #[.agg (T.map bv).toArray, .slice ao 16 c] w fun e w' => (∃ s, e = .panicked [{ v := .iface 70 s, recovered := false }]) ∧ w.grownBy w' none := by
  have hg1 := gb_alloc (gb_refl w none) (.cells (T.map bv).toArray 29)
  have hB1 := Blk.new w 29 (T.map bv)
  have he := equal_any _ (some ⟨w.heap.size, 0, none⟩) ao 16 c T y (blk_bytes hB1 16 (by omega) (by decide)) (hy.kept hg1 (fun _ e => by cases e))
  rw [hT, hl, decide_eq_false hne] at he
  have slT : ∀ (p : Nat) (W : World), (Instr.sliceAt 29 (.pointer (some ⟨p, 0, none⟩)) none none none).run Tryd.prog W = .ok (.slice (some ⟨p, 0, none⟩) 16 16) W := fun p W => slice_whole5 29 5 16 Tryd.underlying29 size_byte p 0 (by omega) W
  obtain ⟨TA, hTA⟩ : ∃ A : Array Value, A = (T.map bv).toArray := ⟨_, rfl⟩
  rw [← hTA] at he hg1 ⊢
  obtain ⟨W1, hW1⟩ : ∃ W1, W1 = w.alloc (.cells TA 29) := ⟨_, rfl⟩
  rw [← hW1] at he hg1
  have HW1 := hide hW1
  clear hTA hW1 hB1 hy hT hl hne
  go_enter Tryd.func21, Tryd.ntmps21
  go_wp2_with (go_at_call 37; rw [← unhide HW1]; refine he.mono ?_; rintro e w2 ⟨rfl, rfl⟩; clear he)
  exact ⟨rfl, ⟨_, rfl⟩, hg1⟩

end Go.Proofs.YtceiehkbhebnpaaDoor
