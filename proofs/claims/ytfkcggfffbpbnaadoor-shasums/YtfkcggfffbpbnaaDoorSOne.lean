/- The law package's one: it answers true, and nothing that was in memory has changed. -/
import Derived.Test.YtfkcggfffbpbnaaDoorSOf
import Derived.Test.YtfkcggfffbpbnaaDoorSAbc
import Derived.Lib.SlBytesConst
import Derived.Laws.NewBlocks
namespace Go.Proofs.YtfkcggfffbpbnaaDoor
open Go.RowKit

set_option maxRecDepth 100000 in
set_option maxHeartbeats 1000000 in
theorem one_any (w : World) (hT : Tabs w) :
    Calls Tryd.prog 11 #[] w fun e w' => e = .returned (.bool true) ∧ w.grownBy w' none := by
  have hi32 : (Tryd.prog.info? 23).map (·.size) = some 32 := by kernel_rfl
  have kc := fun (w : World) (C : Array Value) (n c : Nat) => Lib.run_convert_bytes_const (P := Tryd.prog) w 22 5 C n c Tryd.underlying22 Tryd.underlying5
  obtain ⟨W1, hW1⟩ : ∃ W1, W1 = w.alloc (.cells #[.int .u8 97, .int .u8 98, .int .u8 99] 5 (3, 4)) := ⟨_, rfl⟩
  have hg1 : w.grownBy W1 none := by rw [hW1]; exact gb_alloc (gb_refl _ _) _
  have hb : Bts W1 (some ⟨w.heap.size, 0, none⟩) 3 [97, 98, 99] := by
    refine ⟨(fun e => by cases e), by decide, by unfold maxLen; decide, (fun ad e _ => by cases e; rfl), (fun ad e i hi => ?_)⟩
    cases e
    have hh := heap_alloc_new w (.cells #[.int .u8 97, .int .u8 98, .int .u8 99] 5 (3, 4))
    rw [← hW1] at hh
    match i, hi with
    | 0, _ => simp only [World.cell?, hh]; rfl
    | 1, _ => simp only [World.cell?, hh]; rfl
    | 2, _ => simp only [World.cell?, hh]; rfl
  have h1 := sumf_any W1 _ 3 [97, 98, 99] hb (hT.kept0 hg1) (by decide)
  rw [show ([97, 98, 99] : List UInt8).length = 3 from rfl] at h1
  obtain ⟨sl, hsl⟩ : ∃ sl, sl = shaL [97, 98, 99] := ⟨_, rfl⟩
  rw [← hsl] at h1
  have hl32 : sl.length = 32 := by rw [hsl]; exact shaL_length _
  have hsz : ((sl.map bv).toArray).size = 32 := by simp [hl32]
  have HSZ := hide hsz
  have HSL := hide hsl
  have HW1 := hide hW1
  clear hsz hl32 hsl hW1 hb hT
  go_enter Tryd.func11, Tryd.ntmps11
  go_wp2_with (first
    | (go_at_call 9; rw [← unhide HW1]; refine h1.mono ?_; rintro e w2 ⟨rfl, g2⟩; clear kc)
    | (refine wpList_store_row rfl 23 _ _ rfl w2.heap.size _ rfl rfl _ _ (Blk.new w2 23 ((List.replicate 32 (0 : UInt8)).map bv)) ?_ ?_ ?_ ?_; (rw [unhide HSZ]; exact hi32); (rw [unhide HSZ]; rfl); (exact all_oneCell_toArray (bv_one _)); obtain ⟨W3, hW3⟩ : ∃ W3, W3 = (w2.alloc (.cells ((List.replicate 32 (0 : UInt8)).map bv).toArray 23)).setRow w2.heap.size (sl.map bv).toArray := ⟨_, rfl⟩; have hB3 : Blk W3 w2.heap.size 23 (sl.map bv) := (by rw [hW3]; exact (Blk.new w2 23 ((List.replicate 32 (0 : UInt8)).map bv)).row _); have hg3 : w.grownBy W3 none := (by rw [hW3]; exact gb_row (gb_alloc (gb_trans hg1 g2 (fun _ e => by cases e)) _) _ (Or.inl (Nat.le_trans hg1.size g2.size))); rw [unhide HSL, sha_abc] at hB3; have c0 : W3.cell? ⟨w2.heap.size, 0, none⟩ = some (.int .u8 186) := hB3.cell 0; have c1 : W3.cell? ⟨w2.heap.size, 1, none⟩ = some (.int .u8 120) := hB3.cell 1; have c31 : W3.cell? ⟨w2.heap.size, 31, none⟩ = some (.int .u8 173) := hB3.cell 31; refine (show wpList _ _ _ _ _ W3 → _ from fun q => hW3 ▸ q) ?_; clear hB3 hW3))
  go_ret
  exact ⟨rfl, hg3⟩
end Go.Proofs.YtfkcggfffbpbnaaDoor
