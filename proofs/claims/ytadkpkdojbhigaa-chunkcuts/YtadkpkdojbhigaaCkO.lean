/- What the law's one (package coffretlaw12) answers: that Pad of 'ab' is as the document says. -/
import Derived.Test.YtadkpkdojbhigaaCkB
import Derived.Test.YtadkpkdojbhigaaMStr
import Derived.Lib.SlBytesConst
namespace Go.Proofs.Ytadkpkdojbhigaa
open Go.RowKit

theorem padL_ab : padL [97, 98] = [0, 0, 0, 2, 97, 98] ++ List.replicate 250 0 := by decide +kernel

set_option maxRecDepth 100000 in
set_option maxHeartbeats 1000000 in
theorem ckone_any (w : World) : Calls Try.prog 15 #[] w fun e w' => e = .returned (.bool true) ∧ w.grownBy w' none := by
  obtain ⟨W1, hW1⟩ : ∃ W, W = w.alloc (.cells #[.int .u8 97, .int .u8 98] 5 (2, 3)) := ⟨_, rfl⟩
  have g1 : w.grownBy W1 none := by rw [hW1]; exact gb_alloc (gb_refl _ _) _
  have hh2 : W1.heap[w.heap.size]? = some (.cells #[.int .u8 97, .int .u8 98] 5 (2, 3)) := by rw [hW1]; exact heap_alloc_new w _
  have hcv : (convert 22 22 (.slice (some ⟨w.heap.size, 0, none⟩) 2 2)).run Try.prog (w.alloc (.cells #[.int .u8 97, .int .u8 98] 5)) = .ok (.slice (some ⟨w.heap.size, 0, none⟩) 2 2) W1 := by
    rw [hW1]; exact Lib.run_convert_bytes_const (P := Try.prog) w 22 5 #[.int .u8 97, .int .u8 98] 2 2 Try.underlying22 Try.underlying5
  have hD2 : Bts W1 (some ⟨w.heap.size, 0, none⟩) 2 [97, 98] := ⟨(fun e => by cases e), Nat.le_refl _, by unfold maxLen; decide, (fun ad e _ => by cases e; rfl), fun ad e i hi => by
    cases e
    have : i = 0 ∨ i = 1 := by have : i < 2 := hi; omega
    rcases this with rfl | rfl <;> simp [World.cell?, hh2]⟩
  have cp := pad_any W1 _ _ [97, 98] hD2 (by decide)
  rw [show pdN ([97, 98] : List UInt8).length = 256 from by decide] at cp
  have cp2 : Calls Try.prog 7 #[.slice (some ⟨w.heap.size, 0, none⟩) 2 2] W1 fun e w' => ∃ b, e = .returned (.tuple #[.slice (some ⟨b, 0, none⟩) 256 256, .int .i64 0]) ∧ W1.heap.size ≤ b ∧ Blk w' b 5 ((padL [97, 98]).map bv) ∧ W1.grownBy w' none := cp
  clear hW1 cp hD2 hh2
  go_enter Try.func15, Try.ntmps15
  go_wp2_with fail
  refine cp2.mono ?_
  rintro e w2 ⟨b, rfl, hb, hB2, g2⟩
  have hbts := bts_blk hB2 (by rw [padL_length]; unfold maxLen; decide)
  have h6 := hbts.take 6 (by rw [padL_length]; decide)
  have e6 : (padL [97, 98]).take 6 = [0, 0, 0, 2, 97, 98] := by rw [padL_ab]; rfl
  rw [e6, padL_length] at h6
  have cv := conv_str h6
  have s1 : ∀ W, (Instr.slice 22 (.slice (some ⟨b, 0, none⟩) 256 256) none (some (.int .i64 6)) none).run Try.prog W = .ok (.slice (some ⟨b, 0, none⟩) 6 256) W := fun W => slice_to (P := Try.prog) W 22 5 Try.underlying22 size_byte (some ⟨b, 0, none⟩) 256 256 6 (by omega)
  have cv2 : (convert 22 9 (.slice (some ⟨b, 0, none⟩) 6 256)).run Try.prog w2 = .ok (.string (str [0, 0, 0, 2, 97, 98])) w2 := cv
  have e255 : w2.cell? ⟨b, 255, none⟩ = some (.int .u8 0) := by
    rw [hB2.cell 255, padL_ab]
    rfl
  have hst : str [0, 0, 0, 2, 97, 98] = ({ data := #[0, 0, 0, 2, 97, 98] } : ByteArray) := rfl
  rw [hst] at cv2
  clear hB2 hbts h6 e6 cv hst cp2 hcv
  go_wp2
  go_ret
  exact ⟨rfl, tn g1 g2⟩

end Go.Proofs.Ytadkpkdojbhigaa
