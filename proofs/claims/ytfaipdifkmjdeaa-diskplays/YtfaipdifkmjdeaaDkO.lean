/- What the law's one (package coffretlaw14) answers: that a write is torn as the document says. -/
import Derived.Test.YtfaipdifkmjdeaaDkL
import Derived.Lib.SlBytesConst
import Derived.Test.YtfaipdifkmjdeaaMMsk
namespace Go.Proofs.Ytfaipdifkmjdeaa
open Go.RowKit

def xyzB : List UInt8 := [120, 121, 122]
theorem one_w : (wrD (newD 2) 1 xyzB).2 = 0 ∧ (wrD (newD 2) 1 xyzB).1.U.length = 1 := by decide +kernel
def oneD : Dsk := faD (wrD (newD 2) 1 xyzB).1 [1]
theorem one_r : rdD oneD 1 = (120 :: List.replicate 255 0, 0) := by decide +kernel
theorem one_u : oneD.U.length = 0 := rfl

theorem bts_new14 (V : World) (l : List UInt8) (mk : Nat × Nat) (h : l.length ≤ maxLen) : Bts (V.alloc (.cells (l.map bv).toArray 5 mk)) (some ⟨V.heap.size, 0, none⟩) l.length l := by
  refine ⟨(fun e => by cases e), Nat.le_refl _, h, (fun ad e _ => by cases e; rfl), (fun ad e i hi => ?_)⟩
  cases e
  show (V.alloc (.cells (l.map bv).toArray 5 mk)).cell? ⟨V.heap.size, 0 + i, none⟩ = _
  rw [Nat.zero_add, cell_of_row _ _ i _ _ _ (heap_alloc_new V _)]
  simp [hi, bv]
theorem nts_one (V : World) (n : Int) : Nts (V.alloc (.cells #[.int .i64 n] 63)) (some ⟨V.heap.size, 0, none⟩) 1 [n] := by
  refine ⟨(fun e => by cases e), Nat.le_refl _, by unfold maxLen; decide, (fun ad e _ => by cases e; rfl), (fun ad e i hi => ?_)⟩
  cases e
  have : i = 0 := by simpa using hi
  subst this
  show (V.alloc (.cells #[.int .i64 n] 63)).cell? ⟨V.heap.size, 0, none⟩ = _
  rw [cell_of_row _ _ 0 _ _ _ (heap_alloc_new V _)]
  rfl

set_option maxRecDepth 100000 in
set_option maxHeartbeats 2000000 in
theorem dkone_any (w : World) : Calls Try.prog 24 #[] w fun e w' => e = .returned (.bool true) ∧ w.grownBy w' none := by
  have cn := lnew (gb_refl w none) 2 (by decide) (by decide)
  go_enter Try.func24, Try.ntmps24
  go_upto_region 2 with (go_at_call 8; refine cn.mono ?_; rintro e w1 ⟨d, F, rfl, h1, -, -⟩; clear cn)
  obtain ⟨W2, hW2⟩ : ∃ W, W = w1.alloc (.cells #[.int .u8 120, .int .u8 121, .int .u8 122] 5 (3, 4)) := ⟨_, rfl⟩
  have g2 : w1.grownBy W2 none := by rw [hW2]; exact gb_alloc (gb_refl _ _) _
  have hcv : (convert 33 33 (.slice (some ⟨w1.heap.size, 0, none⟩) 3 3)).run Try.prog (w1.alloc (.cells #[.int .u8 120, .int .u8 121, .int .u8 122] 5)) = .ok (.slice (some ⟨w1.heap.size, 0, none⟩) 3 3) W2 := by
    rw [hW2]; exact Lib.run_convert_bytes_const (P := Try.prog) w1 33 5 #[.int .u8 120, .int .u8 121, .int .u8 122] 3 3 Try.underlying33 Try.underlying5
  have hb2 : Bts W2 (some ⟨w1.heap.size, 0, none⟩) 3 xyzB := by rw [hW2]; exact bts_new14 w1 xyzB (3, 4) (by unfold maxLen; decide)
  have h2 := h1.nn g2
  have cw := lwrite h2 1 _ 3 xyzB hb2 (by decide)
  rw [one_w.1] at cw
  have cw2 : Calls Try.prog 11 #[.pointer (some ⟨d, 0, none⟩), .int .i64 1, .slice (some ⟨w1.heap.size, 0, none⟩) 3 3] W2 fun e w' => e = .returned (.int .i64 0) ∧ Lf w W2 w' F d (wrD (newD 2) 1 xyzB).1 := cw
  clear cw hW2 g2 hb2 h2 h1
  go_upto_region 3 with (go_at_call 11; refine cw2.mono ?_; rintro e w3 ⟨rfl, F3, h3, -⟩; clear cw2)
  obtain ⟨W4, hW4⟩ : ∃ W, W = w3.alloc (.cells #[.int .i64 1] 63) := ⟨_, rfl⟩
  have g4 : w3.grownBy W4 none := by rw [hW4]; exact gb_alloc (gb_refl _ _) _
  have hn4 : Nts W4 (some ⟨w3.heap.size, 0, none⟩) 1 [1] := by rw [hW4]; exact nts_one w3 1
  have cf := lfall (h3.nn g4) (by rw [one_w.2]; decide) _ 1 [1] hn4 (fun ad e => by cases e; intro hm; exact Nat.lt_irrefl _ (h3.lo _ hm).2)
  have cf2 : Calls Try.prog 15 #[.pointer (some ⟨d, 0, none⟩), .slice (some ⟨w3.heap.size, 0, none⟩) 1 1] W4 fun e w' => e = .returned (.tuple #[]) ∧ Lf w W4 w' F3 d oneD := cf
  have HW4 := hide hW4
  clear cf hW4 g4 hn4 h3 hcv
  go_upto_region 4 with (rw [← unhide HW4]; go_at_call 15; refine cf2.mono ?_; rintro e w5 ⟨rfl, F5, h5, -⟩; clear cf2)
  have cr := lread h5 1 (by rw [one_u]; decide)
  rw [one_r] at cr
  have cr2 : Calls Try.prog 18 #[.pointer (some ⟨d, 0, none⟩), .int .i64 1] w5 fun e w' => ∃ ao c, e = .returned (.tuple #[.slice ao 256 c, .int .i64 0]) ∧ Bts w' ao c (120 :: List.replicate 255 0) ∧ (∀ ad, ao = some ad → w5.heap.size ≤ ad.block) ∧ w5.grownBy w' none := cr
  clear cr
  have g5 := h5.gb
  clear h5 HW4
  go_upto_region 5 with (go_at_call 18; refine cr2.mono ?_; rintro e w6 ⟨ao, c, rfl, hb6, -, g6⟩; clear cr2)
  obtain ⟨b, o, s, rfl⟩ : ∃ b o s, ao = some ⟨b, o, s⟩ := by
    cases ao with
    | none => have := (hb6.zip rfl).1; simp at this
    | some ad => exact ⟨_, _, _, rfl⟩
  have hs := hb6.shape _ rfl (by simp)
  simp only at hs
  subst hs
  have x0 := hb6.cell _ rfl 0 (by simp)
  have x1 := hb6.cell _ rfl 1 (by simp)
  have x0' : w6.cell? ⟨b, o, none⟩ = some (.int .u8 120) := x0
  have x1' : w6.cell? ⟨b, o + 1, none⟩ = some (.int .u8 0) := x1
  have hG := tn g5 g6
  clear hb6 x0 x1 g5 g6
  refine region_named fun O hO => ?_
  refine wpList_val (by rw [hO]; kernel_rfl) (.int .i64 0) (fun K9 hK9 => by go_simp; exact hK9) ?_
  (try simp only [Act.put, pq1, pq2, pq3])
  refine wpList_val (by rw [hO]; kernel_rfl) (.bool true) (fun K9 hK9 => by go_simp; exact hK9) ?_
  (try simp only [Act.put, pq1, pq2, pq3])
  refine wpList_val (by rw [hO]; kernel_rfl) (.bool true) (fun K9 hK9 => by go_simp; exact hK9) ?_
  (try simp only [Act.put, pq1, pq2, pq3])
  refine wpList_val (by rw [hO]; kernel_rfl) (.int .i64 0) (fun K9 hK9 => by go_simp; exact hK9) ?_
  (try simp only [Act.put, pq1, pq2, pq3])
  refine wpList_val (by rw [hO]; kernel_rfl) (.bool true) (fun K9 hK9 => by go_simp; exact hK9) ?_
  (try simp only [Act.put, pq1, pq2, pq3])
  refine wpList_val (by rw [hO]; kernel_rfl) (.bool true) (fun K9 hK9 => by go_simp; exact hK9) ?_
  (try simp only [Act.put, pq1, pq2, pq3])
  refine wpList_val (by rw [hO]; kernel_rfl) (.bool true) (fun K9 hK9 => by go_simp; exact hK9) ?_
  (try simp only [Act.put, pq1, pq2, pq3])
  refine wpList_val (by rw [hO]; kernel_rfl) (.slice (some ⟨b, o, none⟩) 256 c) (fun K9 hK9 => by go_simp; exact hK9) ?_
  (try simp only [Act.put, pq1, pq2, pq3])
  refine wpList_val (by rw [hO]; kernel_rfl) (.int .i64 (256 : Int)) (fun K9 hK9 => by go_simp; exact hK9) ?_
  (try simp only [Act.put, pq1, pq2, pq3])
  refine wpList_val (by rw [hO]; kernel_rfl) (.bool true) (fun K9 hK9 => by go_simp; exact hK9) ?_
  (try simp only [Act.put, pq1, pq2, pq3])
  refine wpList_val (by rw [hO]; kernel_rfl) (.bool true) (fun K9 hK9 => by go_simp; exact hK9) ?_
  (try simp only [Act.put, pq1, pq2, pq3])
  refine wpList_val (by rw [hO]; kernel_rfl) (.bool true) (fun K9 hK9 => by go_simp; exact hK9) ?_
  (try simp only [Act.put, pq1, pq2, pq3])
  refine wpList_val (by rw [hO]; kernel_rfl) (.slice (some ⟨b, o, none⟩) 256 c) (fun K9 hK9 => by go_simp; exact hK9) ?_
  (try simp only [Act.put, pq1, pq2, pq3])
  refine wpList_val (by rw [hO]; kernel_rfl) (.pointer (some ⟨b, o, none⟩)) (fun K9 hK9 => by go_simp; exact hK9) ?_
  (try simp only [Act.put, pq1, pq2, pq3])
  refine wpList_val (by rw [hO]; kernel_rfl) (.int .u8 120) (fun K9 hK9 => by go_simp; exact hK9) ?_
  (try simp only [Act.put, pq1, pq2, pq3])
  refine wpList_val (by rw [hO]; kernel_rfl) (.bool true) (fun K9 hK9 => by go_simp; exact hK9) ?_
  (try simp only [Act.put, pq1, pq2, pq3])
  refine wpList_val (by rw [hO]; kernel_rfl) (.bool true) (fun K9 hK9 => by go_simp; exact hK9) ?_
  (try simp only [Act.put, pq1, pq2, pq3])
  refine wpList_val (by rw [hO]; kernel_rfl) (.bool true) (fun K9 hK9 => by go_simp; exact hK9) ?_
  (try simp only [Act.put, pq1, pq2, pq3])
  refine wpList_val (by rw [hO]; kernel_rfl) (.slice (some ⟨b, o, none⟩) 256 c) (fun K9 hK9 => by go_simp; exact hK9) ?_
  (try simp only [Act.put, pq1, pq2, pq3])
  refine wpList_val (by rw [hO]; kernel_rfl) (.pointer (some ⟨b, o + 1, none⟩)) (fun K9 hK9 => by go_simp; exact hK9) ?_
  (try simp only [Act.put, pq1, pq2, pq3])
  refine wpList_val (by rw [hO]; kernel_rfl) (.int .u8 0) (fun K9 hK9 => by go_simp; exact hK9) ?_
  (try simp only [Act.put, pq1, pq2, pq3])
  refine wpList_val (by rw [hO]; kernel_rfl) (.bool true) (fun K9 hK9 => by go_simp; exact hK9) ?_
  (try simp only [Act.put, pq1, pq2, pq3])
  refine wpList_val (by rw [hO]; kernel_rfl) (.bool true) (fun K9 hK9 => by go_simp; exact hK9) ?_
  (try simp only [Act.put, pq1, pq2, pq3])
  refine wpList_val (by rw [hO]; kernel_rfl) (.bool true) (fun K9 hK9 => by go_simp; exact hK9) ?_
  (try simp only [Act.put, pq1, pq2])
  go_wp2
  go_ret
  exact ⟨rfl, hG⟩

end Go.Proofs.Ytfaipdifkmjdeaa
