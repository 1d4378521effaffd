/- The law package's one answers true: a blob that is known. No condition. -/
import Derived.Test.YtcemdlcimhoeeaaOPut
import Derived.Lib.SlBytesConst
namespace Go.Proofs.Ytcemdlcimhoeeaa
open Go.RowKit

theorem put_ab : putL 1 [97, 98] = [1, 0, 0, 0, 2, 97, 98] := by decide
theorem rd_ab : rdL [1, 0, 0, 0, 2, 97, 98] = (0, 1, [97, 98]) := by decide

set_option maxRecDepth 100000 in
set_option maxHeartbeats 2000000 in
theorem oone_any (w : World) : Calls Try.prog 16 #[] w fun e w' => e = .returned (.bool true) ∧ w.grownBy w' none := by
  have hW1 : ∃ W1, W1 = w.alloc (.cells #[.int .u8 97, .int .u8 98] 5 (2, 3)) ∧ Bts W1 (some ⟨w.heap.size, 0, none⟩) 2 [97, 98] ∧ w.grownBy W1 none := by
    refine ⟨_, rfl, ⟨(fun e => by cases e), by decide, by decide, (fun ad e _ => by cases e; rfl), (fun ad e i hi => ?_)⟩, gb_alloc (gb_refl _ _) _⟩
    cases e
    have hh := heap_alloc_new w (.cells #[.int .u8 97, .int .u8 98] 5 (2, 3))
    match i, hi with
    | 0, _ => unfold World.cell?; rw [hh]; rfl
    | 1, _ => unfold World.cell?; rw [hh]; rfl
  have kc := fun (w : World) (C : Array Value) (n c : Nat) => Lib.run_convert_bytes_const (P := Try.prog) w 33 5 C n c Try.underlying33 Try.underlying5
  obtain ⟨W1, hW1, hb1, g1⟩ := hW1
  have cp := oput_any W1 1 _ 2 [97, 98] hb1 (by decide)
  rw [put_ab] at cp
  have HW1 := hide hW1
  have kc1 := kc w #[.int .u8 97, .int .u8 98] 2 2
  clear hW1 hb1 kc
  go_enter Try.func16, Try.ntmps16
  go_wp2_with (rw [← unhide HW1])
  refine cp.mono ?_
  rintro e w2 ⟨v2, rfl, ⟨a2, c2, rfl, hb2, _⟩, g2⟩
  have cr := oread_any w2 a2 c2 _ hb2 (by decide)
  rw [rd_ab] at cr
  have cv2 := conv_str hb2
  have G2 := tn g1 g2
  clear cp kc1
  go_wp2_with fail
  refine cr.mono ?_
  rintro e w3 ⟨v3, y, kk, rfl, hy, hkk, ⟨a3, c3, rfl, hb3, _⟩, g3⟩
  have hy0 : y = 0 := hy
  have hk1 : kk = 1 := hkk
  clear hy hkk
  subst hy0 hk1
  have hb2' := hb2.kept g3 (fun _ e => by cases e)
  obtain ⟨W4, hW4, hB4, g4⟩ : ∃ W1, W1 = w3.alloc (.cells #[.int .i64 1, .slice a3 2 c3] 35) ∧ Blk W1 w3.heap.size 35 [.int .i64 1, .slice a3 2 c3] ∧ w3.grownBy W1 none := box_new w3 _ _
  have cv4 := conv_str (hb2'.kept g4 (fun _ e => by cases e))
  have cv5 := conv_str (hb3.kept g4 (fun _ e => by cases e))
  rw [show str [1, 0, 0, 0, 2, 97, 98] = ⟨#[1, 0, 0, 0, 2, 97, 98]⟩ from rfl] at cv4
  rw [show str [97, 98] = ⟨#[97, 98]⟩ from rfl] at cv5
  simp only [List.length_cons, List.length_nil, Nat.zero_add, Nat.reduceAdd] at cv4 cv5
  have c0 := hB4.cell 0
  have c1 := hB4.cell 1
  simp only [List.getElem?_cons_zero, List.getElem?_cons_succ] at c0 c1
  have G4 := tn (tn G2 g3) g4
  have HW4 := hide hW4
  clear cr cv2 hb2 hb2' hb3 hB4 hW4 g4 g3 g2 g1 G2
  go_wp2_with (rw [← unhide HW4])
  go_ret
  exact ⟨rfl, G4⟩

end Go.Proofs.Ytcemdlcimhoeeaa
