/- A Hash in memory, in words of our own, anywhere in a block; and what sha's soFar, layHighest, New and Len answer and leave. No condition but those that each lemma names. -/
import Derived.Test.YtcemdlcimhoeeaaDoorSTaken
namespace Go.Proofs.YtcemdlcimhoeeaaDoor
open Go.RowKit

/-- A Hash's cells. -/
def hc (words : List W) (rest : List UInt8) (n : Nat) : List Value := words.map wv ++ (rest.map bv ++ [.int .u64 (n : Int)])
theorem hc_length (words : List W) (rest : List UInt8) (n : Nat) (h8 : words.length = 8) (h64 : rest.length = 64) : (hc words rest n).length = 73 := by simp [hc, h8, h64]

/-- The Hash at ⟨b, pre.length⟩ that took l in; ahead of it lie pre, behind it post. -/
structure HAt (w : World) (b : Nat) (t : TypeId) (pre post : List Value) (words : List W) (rest l : List UInt8) : Prop where
  blk : Blk w b t (pre ++ (hc words rest l.length ++ post))
  took : Took words rest l

theorem HAt.words {w : World} {b : Nat} {t : TypeId} {pre post : List Value} {words : List W} {rest l : List UInt8} (h : HAt w b t pre post words rest l) : Blk w b t (pre ++ (words.map wv ++ (rest.map bv ++ (.int .u64 (l.length : Int) :: post)))) := by
  have := h.blk
  simpa [hc] using this
theorem HAt.rest {w : World} {b : Nat} {t : TypeId} {pre post : List Value} {words : List W} {rest l : List UInt8} (h : HAt w b t pre post words rest l) : Blk w b t ((pre ++ words.map wv) ++ (rest.map bv ++ (.int .u64 (l.length : Int) :: post))) := by
  have := h.blk
  simpa [hc] using this
theorem HAt.size {w : World} {b : Nat} {t : TypeId} {pre post : List Value} {words : List W} {rest l : List UInt8} (h : HAt w b t pre post words rest l) : w.cell? ⟨b, pre.length + 72, none⟩ = some (.int .u64 (l.length : Int)) := by
  have h1 : Blk w b t ((pre ++ words.map wv ++ rest.map bv) ++ (.int .u64 (l.length : Int) :: post)) := by
    have := h.blk
    simpa [hc] using this
  rw [h1.cell, List.getElem?_append_right (by simp [h.took.w8, h.took.r64]), show pre.length + 72 - (pre ++ words.map wv ++ rest.map bv).length = 0 by simp [h.took.w8, h.took.r64]]
  rfl
theorem HAt.lt {w : World} {b : Nat} {t : TypeId} {pre post : List Value} {words : List W} {rest l : List UInt8} (h : HAt w b t pre post words rest l) : b < w.heap.size := h.blk.lt
theorem HAt.kept {w a : World} {b : Nat} {t : TypeId} {pre post : List Value} {words : List W} {rest l : List UInt8} {r : Option Nat} (h : HAt w b t pre post words rest l) (g : w.grownBy a r) (hr : some b ≠ r) : HAt a b t pre post words rest l := ⟨h.blk.kept g hr, h.took⟩

set_option maxRecDepth 100000 in
theorem soFar_any (w : World) (b o n : Nat) (words : List W) (h8 : words.length = 8) (hr : w.rangeAt b o (words.map wv)) (hz : w.cell? ⟨b, o + 72, none⟩ = some (.int .u64 (n : Int))) (hT : Tabs w) :
    Calls Tryd.prog 67 #[.pointer (some ⟨b, o, none⟩)] w fun e w' => e = .returned (.agg ((soFarL words n).map wv).toArray) ∧ w.grownBy w' none := by
  have hi8 : (Tryd.prog.info? 99).map (·.size) = some 8 := by kernel_rfl
  have hb : b < w.heap.size := World.block_lt_of_cell? w _ hz
  obtain ⟨W1, hW1⟩ : ∃ W1, W1 = w.alloc (.cells #[.int .u32 0, .int .u32 0, .int .u32 0, .int .u32 0, .int .u32 0, .int .u32 0, .int .u32 0, .int .u32 0] 99) := ⟨_, rfl⟩
  have hR : Blk W1 w.heap.size 99 ((List.replicate 8 (0 : W)).map wv) := by rw [hW1]; exact Blk.new w _ _
  have hg : w.grownBy W1 none := by rw [hW1]; exact gb_alloc (gb_refl _ _) _
  have hr1 := range_kept hr hg (by simp)
  have hT1 := hT.kept0 hg
  obtain ⟨tq, fq, hq⟩ := hT1.square
  have HH := hide h8
  have HT := hide hT
  have HR := hide hr
  have HR1 := hide hr1
  have HB := hide hR
  have HQ := hide hq
  clear h8 hT hr hr1 hT1 hR hq
  by_cases hn : n < 64
  · have hn2 : (n : Int) < 64 := by omega
    go_enter Tryd.func67, Tryd.ntmps67
    go_wp2_with (first | (rw [← hW1]; refine wpList_load_row rfl 99 _ rfl 1 rfl _ _ _ _ (unhide HQ) Tryd.underlying99 rfl (by kernel_rfl) ?_) | (refine wpList_store_row rfl 99 _ _ rfl w.heap.size _ rfl rfl _ _ (unhide HB) (by kernel_rfl) (by kernel_rfl) (by kernel_rfl) ?_))
    have hS := (unhide HB).row (Hs.map wv)
    have hG : w.grownBy (W1.setRow w.heap.size (Hs.map wv).toArray) none := gb_row hg _ (Or.inl (Nat.le_refl _))
    refine bodyPost_ret (v := .agg (Hs.map wv).toArray) (results_cell_row (g := w.heap.size) rfl _ _ _ _ _ _ ?_ hS Tryd.underlying99 rfl (by kernel_rfl)) rfl ⟨?_, hG⟩
    · rfl
    · rw [soFarL, if_pos hn]
  · have hn2 : ¬ (n : Int) < 64 := by omega
    have hsz : ((words.map wv).toArray).size = 8 := by simp [unhide HH]
    have hlz : (words.map wv).length = 8 := by simp [unhide HH]
    have HZ := hide hsz
    have HLZ := hide hlz
    clear hsz hlz
    go_enter Tryd.func67, Tryd.ntmps67
    go_wp2_with (first | (rw [← hW1]; refine wpList_load_mid rfl 99 _ rfl b o rfl _ _ (unhide HR1) Tryd.underlying99 rfl ?_ ?_; (rw [unhide HLZ]; exact hi8)) | (refine wpList_store_row rfl 99 _ _ rfl w.heap.size _ rfl rfl _ _ (unhide HB) ?_ ?_ ?_ ?_; (rw [unhide HZ]; exact hi8); (rw [unhide HZ]; rfl); (exact all_oneCell_toArray (wv_one _))))
    have hS := (unhide HB).row (words.map wv)
    have hG : w.grownBy (W1.setRow w.heap.size (words.map wv).toArray) none := gb_row hg _ (Or.inl (Nat.le_refl _))
    subst hW1
    refine bodyPost_ret (v := .agg (words.map wv).toArray) (results_cell_row (g := w.heap.size) rfl _ _ _ _ _ _ ?_ hS Tryd.underlying99 rfl ?_) rfl ⟨?_, hG⟩
    · rfl
    · rw [unhide HZ]; exact hi8
    · rw [soFarL, if_neg hn]

theorem be8_at (v m k : Nat) (h : k < (be8 m v).length) : Value.int .u8 ((v : Int) / 2 ^ (8 * (m - 1 - k)) % 256) = bv (be8 m v)[k] := by
  unfold bv
  rw [be8_get, UInt8.toNat_ofNat']
  congr 1

set_option maxRecDepth 100000 in
set_option maxHeartbeats 400000 in
theorem layHigh_any (w : World) (b p m c v : Nat) (hm : m ≤ 8) (ht : w.there b p m) :
    Calls Tryd.prog 69 #[.slice (some ⟨b, p, none⟩) m c, .int .u64 (v : Int)] w fun e w' => e = .returned (.tuple #[]) ∧ w' = w.setCells b p ((be8 m v).map bv) := by
  go_enter Tryd.func69, Tryd.ntmps69
  go_wp2
  go_loopw [7] (fun i wr => ∃ k : Nat, k ≤ m ∧ i = .int .i64 k ∧ wr = w.setCells b p (((be8 m v).take k).map bv)) (fun i _ => m - (intOf i).toNat)
  case atStart => exact ⟨0, Nat.zero_le _, rfl, rfl⟩
  case round =>
    obtain ⟨k, hk, rfl, rfl⟩ := hrel
    by_cases hlt : k < m
    · have hlen : (be8 m v).length = m := be8_length m v
      have hbk : k < (be8 m v).length := by omega
      obtain ⟨wq, hwq⟩ : ∃ wq, wq = w.setCells b p (((be8 m v).take k).map bv) := ⟨_, rfl⟩
      rw [← hwq]
      have hth := World.there_setCells ht b p (((be8 m v).take k).map bv) k hlt
      rw [← hwq] at hth
      obtain ⟨hcs, hcf⟩ := hth
      obtain ⟨ov, hcs⟩ := Option.isSome_iff_exists.1 hcs
      have HW := hide hwq
      have HL := hide hlen
      clear hwq hlen
      go_wp2
      go_roundw
      case rel =>
        refine ⟨k + 1, by omega, by go_num, ?_⟩
        rw [be8_at v m k hbk, unhide HW]
        have hl2 : (((be8 m v).take k).map bv).length = k := by simp [unhide HL]; omega
        have := setCells_snoc b (bv (be8 m v)[k]) (((be8 m v).take k).map bv) p w
        rw [hl2] at this
        rw [this, take_snoc hbk, List.map_append]
        rfl
      case measure => simp [intOf]; omega
    · obtain rfl : k = m := by omega
      go_wp2
      go_end0
      rw [List.take_of_length_le (by simp [be8_length])]
      exact ⟨rfl, rfl⟩

end Go.Proofs.YtcemdlcimhoeeaaDoor
