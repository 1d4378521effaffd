/- A length in eight bytes behind what was gathered. -/
import Derived.Test.YtceiehkbhebnpaaDoorAPad
namespace Go.Proofs.YtceiehkbhebnpaaDoor
open Go.RowKit

theorem bts_byte (w : World) (y : Nat) : Bts (w.alloc (.cells #[.int .u8 ((y : Int) % 256)] 5)) (some ⟨w.heap.size, 0, none⟩) 1 [UInt8.ofNat y] := by
  refine ⟨(fun e => by cases e), Nat.le_refl _, by unfold maxLen; decide, (fun ad e _ => by cases e; rfl), (fun ad e i hi => ?_)⟩
  cases e
  have hh := heap_alloc_new w (.cells #[.int .u8 ((y : Int) % 256)] 5)
  match i, hi with
  | 0, _ =>
    simp only [World.cell?, hh, List.getElem_cons_zero, UInt8.toNat_ofNat']
    rfl

set_option maxRecDepth 100000 in
set_option maxHeartbeats 1000000 in
theorem len8_any (u w : World) (v : Value) (l : List UInt8) (hO : Own u w v l) (hu : u.grownBy w none) (n : Nat) (h1 : l.length ≤ 100000) (hn : n ≤ 100000) :
    Calls Tryd.prog 17 #[v, .int .i64 (n : Int)] w fun e w' => ∃ v', e = .returned v' ∧ Own u w' v' (l ++ leB 8 n) ∧ u.grownBy w' none := by
  obtain ⟨xs, hxs⟩ : ∃ xs, xs = leB 8 n := ⟨_, rfl⟩
  have hxl : xs.length = 8 := by rw [hxs]; exact leB_length _ _
  rw [← hxs]
  have HO := hide hO
  have HXS := hide hxs
  have HXL := hide hxl
  clear hO hxs hxl
  go_enter Tryd.func17, Tryd.ntmps17
  go_wp2
  go_loopw [0, 6] (fun v2 i wr => ∃ r : Nat, r ≤ 8 ∧ i = .int .i64 (r : Int) ∧ Own u wr v2 (l ++ xs.take r) ∧ u.grownBy wr none) (fun _ i _ => 8 - (intOf i).toNat)
  case atStart => exact ⟨0, Nat.zero_le _, rfl, by rw [List.take_zero, List.append_nil]; exact unhide HO, hu⟩
  case round =>
    obtain ⟨r, hr, rfl, hO, hg⟩ := hrel
    by_cases hlt : r < 8
    · have hl : (l ++ xs.take r).length = l.length + r := by simp [unhide HXL]; omega
      obtain ⟨ao, c, rfl, hB⟩ := hO.slice
      rw [hl]
      obtain ⟨K, hK⟩ : ∃ K, K = l.length + r := ⟨_, rfl⟩
      rw [← hK]
      obtain ⟨q, hq⟩ : ∃ q, q = 8 * r := ⟨_, rfl⟩
      obtain ⟨y, hy⟩ : ∃ v, v = n / 2 ^ q := ⟨_, rfl⟩
      have q1 : (8 : Int) * (r : Int) = (q : Int) := by omega
      have q2 : IntKind.i64.wrap (q : Int) = (q : Int) := by rw [IntKind.wrap_i64]; omega
      have q4 : ¬ (64 : Int) ≤ (q : Int) := by omega
      have q5 : (0 : Int) ≤ (q : Int) := by omega
      have q6 : (n : Int) % 18446744073709551616 = (n : Int) := by omega
      have q7 : IntKind.u64.wrap (n : Int) = (n : Int) := by rw [IntKind.wrap_u64]; omega
      have q8 : (n : Int) / 2 ^ q = (y : Int) := by rw [hy, Int.natCast_ediv, Int.natCast_pow]; rfl
      have q9 : (r : Int) < 8 := by omega
      have hO' : (wr.alloc (.cells #[.int .u8 ((y : Int) % 256)] 5)).ownsRow u.heap.size 5 1 (.slice ao K c) K ((l ++ xs.take r).map bv) := by
        have h3 := own_keep hO (World.grownBy_alloc wr (.cells #[.int .u8 ((y : Int) % 256)] 5) none)
        rw [hl, ← hK] at h3
        exact h3
      have hz := bts_byte wr y
      have hg2 := gb_alloc hg (.cells #[.int .u8 ((y : Int) % 256)] 5)
      have hnext : l ++ xs.take (r + 1) = (l ++ xs.take r) ++ [UInt8.ofNat y] := by
        rw [take_snoc (show r < xs.length by rw [unhide HXL]; exact hlt), List.append_assoc]
        congr 3
        simp only [unhide HXS, leB, List.getElem_map, List.getElem_range]
        rw [hy, hq, show (256 : Nat) = 2 ^ 8 from rfl, ← Nat.pow_mul]
      have HO' := hide hO'
      have HZ := hide hz
      have HK := hide hK
      have HNX := hide hnext
      clear hO hO' hz hB hl hq hK hy hnext
      go_wp2_with (refine wpList_append_btm rfl _ _ rfl u.heap.size _ K _ rfl (unhide HO') _ 1 [UInt8.ofNat y] (unhide HZ) 1 rfl rfl (by have := unhide HK; omega) hg2.size ?_; intro v3 w3 hO3 g3; have hg3 : u.grownBy w3 none := own_grow hg2 (unhide HO') g3; clear HO' HZ)
      have hKe := unhide HK
      have hO4 : Own u w3 v3 (l ++ xs.take (r + 1)) := by
        unfold Own
        rw [unhide HNX, List.length_append (bs := [UInt8.ofNat y]), List.map_append, show (l ++ xs.take r).length = K by simp [unhide HXL]; omega]; exact hO3
      have HO4 := hide hO4
      clear hO4 hO3 g3
      go_roundw
      case rel => exact ⟨r + 1, by omega, by go_num, unhide HO4, hg3⟩
      case measure => simp [intOf]; omega
    · obtain rfl : r = 8 := by omega
      rw [List.take_of_length_le (by rw [unhide HXL]; exact Nat.le_refl _)] at hO
      rw [show ((8 : Nat) : Int) = 8 from rfl]
      have HOE := hide hO
      clear hO
      go_wp2
      go_ret
      exact ⟨_, rfl, unhide HOE, hg⟩
end Go.Proofs.YtceiehkbhebnpaaDoor
