/- The block of the document's example, reckoned; and the law package's one: it answers true, and nothing that was in memory has changed; where the table holds what it is laid with. -/
import Derived.Test.YtikdpifacokfpaaDoorCBlk
namespace Go.Proofs.YtikdpifacokfpaaDoor
open Go.RowKit

def kk : List UInt8 := [0, 1, 2, 3, 4, 5, 6, 7, 8, 9, 10, 11, 12, 13, 14, 15, 16, 17, 18, 19, 20, 21, 22, 23, 24, 25, 26, 27, 28, 29, 30, 31]
def nn : List UInt8 := [0, 0, 0, 9, 0, 0, 0, 74, 0, 0, 0, 0]

set_option maxRecDepth 100000 in
theorem block_known : blockL kk nn 1 = [0x10, 0xf1, 0xe7, 0xe4, 0xd1, 0x3b, 0x59, 0x15, 0x50, 0x0f, 0xdd, 0x1f, 0xa3, 0x20, 0x71, 0xc4, 0xc7, 0xd1, 0xf4, 0xc7, 0x33, 0xc0, 0x68, 0x03, 0x04, 0x22, 0xaa, 0x9a, 0xc3, 0xd4, 0x6c, 0x4e, 0xd2, 0x82, 0x64, 0x46, 0x07, 0x9f, 0xaa, 0x09, 0x14, 0xc2, 0xd7, 0x05, 0xd9, 0x8b, 0x02, 0xa2, 0xb5, 0x12, 0x9c, 0xd1, 0xde, 0x16, 0x4e, 0xb9, 0xcb, 0xd0, 0x83, 0xe8, 0xa2, 0x50, 0x3c, 0x4e] := by kernel_rfl

theorem kk_get (r : Nat) (h : r < 32) : Value.int .u8 (r : Int) = bv (kk.getD r 0) := by
  have : ∀ k : Fin 32, (kk.getD k.val 0).toNat = k.val := by decide
  unfold bv
  rw [this ⟨r, h⟩]

theorem fill_bv (xs : List UInt8) (n k : Nat) (hk : k < xs.length) (hn : k < n) : ((xs.take k ++ List.replicate (n - k) 0).map bv).set k (bv (xs.getD k 0)) = (xs.take (k + 1) ++ List.replicate (n - (k + 1)) 0).map bv := by
  rw [← List.map_set, List.take_succ_eq_append_getElem hk, show n - k = (n - (k + 1)) + 1 by omega, List.replicate_succ, List.append_assoc]
  rw [List.set_append_right _ _ (by simp; omega)]
  have : k - (xs.take k).length = 0 := by simp; omega
  rw [this, show xs.getD k 0 = xs[k] by simp [List.getD, hk]]
  rfl

theorem zero32k (w : World) : (zeroValue 23).run Tryd.prog w = .ok (.agg ((List.replicate 32 (0 : UInt8)).map bv).toArray) w := by kernel_rfl

set_option maxRecDepth 100000 in
set_option maxHeartbeats 1000000 in
theorem cone_any (w : World) (hT : CTab w) :
    Calls Tryd.prog 11 #[] w fun e w' => e = .returned (.bool true) ∧ w.grownBy w' none := by
  have hi64 : (Tryd.prog.info? 27).map (·.size) = some 64 := by kernel_rfl
  have hi32 : (Tryd.prog.info? 23).map (·.size) = some 32 := by kernel_rfl
  obtain ⟨Z, hZ⟩ : ∃ A : Array Value, A = ((List.replicate 32 (0 : UInt8)).map bv).toArray := ⟨_, rfl⟩
  have hz := zero32k
  rw [← hZ] at hz
  obtain ⟨Y, hY⟩ : ∃ A : Array Value, A = ((List.replicate 64 (0 : UInt8)).map bv).toArray := ⟨_, rfl⟩
  have hy := zero64b
  rw [← hY] at hy
  have HZ := hide hZ
  have HY := hide hY
  clear hZ hY
  go_enter Tryd.func11, Tryd.ntmps11
  go_wp2
  go_loopw [2] (fun i wr => ∃ r : Nat, r ≤ 32 ∧ i = .int .i64 r ∧ Blk wr w.heap.size 23 ((kk.take r ++ List.replicate (32 - r) 0).map bv) ∧ w.grownBy wr none) (fun i _ => 32 - (intOf i).toNat)
  case atStart =>
    refine ⟨0, Nat.zero_le _, rfl, ?_, gb_alloc (gb_refl _ _) _⟩
    rw [unhide HZ]; exact Blk.new w 23 _
  case round =>
    obtain ⟨r, hr, rfl, hB, hg⟩ := hrel
    by_cases hlt : r < 32
    · have hcs : (wr.cell? ⟨w.heap.size, r, none⟩).isSome = true ∧ wr.frozen? ⟨w.heap.size, r, none⟩ = false := by
        have := hB.there r 1 (by simp [kk]; omega) 0 (by omega)
        simpa using this
      obtain ⟨hcs, hcf⟩ := hcs
      obtain ⟨ov, hcs⟩ := Option.isSome_iff_exists.1 hcs
      have hq0 : (0 : Int) ≤ (r : Int) := by omega
      have hq1 : (r : Int) < 32 := by omega
      have hw : IntKind.u8.wrap (r : Int) = (r : Int) := by rw [IntKind.wrap_u8]; omega
      have HB := hide hB
      clear hB
      go_wp2
      go_roundw
      case rel =>
        have hS := (unhide HB).set r (bv (kk.getD r 0))
        rw [fill_bv kk 32 r (by exact hlt) hlt] at hS
        rw [kk_get r hlt]
        exact ⟨r + 1, by omega, by go_num, hS, gb_setCell hg _ _ (Or.inl (Nat.le_refl _))⟩
      case measure => simp [intOf]; omega
    · obtain rfl : r = 32 := by omega
      rw [show ((32 : Nat) : Int) = 32 from rfl]
      rw [show kk.take 32 = kk from rfl, show 32 - 32 = 0 from rfl, List.replicate_zero, List.append_nil] at hB
      have hb := block_any wr kk nn 1 rfl rfl (hT.kept0 hg)
      obtain ⟨KA, hKA⟩ : ∃ A : Array Value, A = (kk.map bv).toArray := ⟨_, rfl⟩
      have hKZ : KA.size = 32 := by rw [hKA]; rfl
      have hK1 : wr.heap[w.heap.size]? = some (.cells KA 23 (0, 0)) := by rw [hKA]; exact hB
      have en : (nn.map bv).toArray = #[.int .u8 0, .int .u8 0, .int .u8 0, .int .u8 9, .int .u8 0, .int .u8 0, .int .u8 0, .int .u8 74, .int .u8 0, .int .u8 0, .int .u8 0, .int .u8 0] := by kernel_rfl
      rw [← hKA, en, show wz 1 = 1 from rfl] at hb
      have HKZ := hide hKZ
      have HK1 := hide hK1
      have HKA := hide hKA
      clear hKZ hK1 hKA hB hT en
      go_wp2_with (refine wpList_load_row rfl 23 _ rfl w.heap.size rfl _ _ _ _ (unhide HK1) Tryd.underlying23 rfl ?_ ?_; (rw [unhide HKZ]; exact hi32))
      refine hb.mono ?_
      rintro e w2 ⟨rfl, g2⟩
      have G2 := gb_trans hg g2 (fun _ e => by cases e)
      obtain ⟨bl, hbl⟩ : ∃ bl, bl = blockL kk nn 1 := ⟨_, rfl⟩
      rw [← hbl]
      have hl64 : bl.length = 64 := by rw [hbl]; exact blockL_length _ _ _
      have hsz : ((bl.map bv).toArray).size = 64 := by simp [hl64]
      have hN2 : Blk (w2.alloc (.cells Y 27)) w2.heap.size 27 ((List.replicate 64 (0 : UInt8)).map bv) := by
        rw [unhide HY]; exact Blk.new w2 27 _
      obtain ⟨W3, hW3⟩ : ∃ W3, W3 = (w2.alloc (.cells Y 27)).setRow w2.heap.size (bl.map bv).toArray := ⟨_, rfl⟩
      have hB3 : Blk W3 w2.heap.size 27 (bl.map bv) := by rw [hW3]; exact hN2.row _
      have g3 : w.grownBy W3 none := by rw [hW3]; exact gb_row (gb_alloc G2 _) _ (Or.inl G2.size)
      rw [hbl, block_known] at hB3
      have c0 : W3.cell? ⟨w2.heap.size, 0, none⟩ = some (.int .u8 16) := hB3.cell 0
      have c1 : W3.cell? ⟨w2.heap.size, 1, none⟩ = some (.int .u8 241) := hB3.cell 1
      have c63 : W3.cell? ⟨w2.heap.size, 63, none⟩ = some (.int .u8 78) := hB3.cell 63
      have HSZ := hide hsz
      have HN2 := hide hN2
      have HW3 := hide hW3
      clear hb hsz hN2 hW3 hB3 hbl hl64
      go_wp2_with (refine wpList_store_row rfl 27 _ _ rfl w2.heap.size _ rfl rfl _ _ (unhide HN2) ?_ ?_ ?_ ?_; (rw [unhide HSZ]; exact hi64); (rw [unhide HSZ]; rfl); (exact all_oneCell_toArray (bv_one _)); refine (show wpList _ _ _ _ _ W3 → _ from fun q => unhide HW3 ▸ q) ?_)
      go_ret
      exact ⟨rfl, g3⟩

end Go.Proofs.YtikdpifacokfpaaDoor
