/- A text that is padded behind what was gathered, in memory of the call's own; and a length in eight bytes. -/
import Derived.Test.YtjckdgapefaokaaDoorPRefK
import Derived.Test.YtjckdgapefaokaaDoorMApp
import Derived.Test.YtjckdgapefaokaaDoorKEqual
import Derived.Laws.ShiftsVarLaws
namespace Go.Proofs.YtjckdgapefaokaaDoor
open Go.RowKit

theorem zer16_more (a b : Nat) (h : a % 16 = 0) : zer16 (a + b) = zer16 b := by
  unfold zer16; congr 1; omega
/-- Bytes of the call's own (the call began at u). -/
def Own (u V : World) (v : Value) (l : List UInt8) : Prop := V.ownsRow u.heap.size 5 1 v l.length (l.map bv)
theorem Own.nil (u V : World) : Own u V (.slice none 0 0) [] := World.ownsRow_nil V _ _ _
theorem Own.slice {u V : World} {v : Value} {l : List UInt8} (h : Own u V v l) : ∃ ao c, v = .slice ao l.length c ∧ Bts V ao c l := by
  obtain ⟨ao, c, h1, h2, _⟩ := NewB.own h
  exact ⟨ao, c, h1, h2⟩

set_option maxRecDepth 100000 in
set_option maxHeartbeats 1000000 in
theorem lay16_any (u w : World) (v : Value) (l : List UInt8) (hO : Own u w v l) (hu : u.grownBy w none) (bo : Option Addr) (cb : Nat) (b : List UInt8) (hb : Bts w bo cb b) (h1 : l.length ≤ 100000) (h2 : b.length ≤ 100000) :
    Calls Tryd.prog 51 #[v, .slice bo b.length cb] w fun e w' => ∃ v', e = .returned v' ∧ Own u w' v' (l ++ b ++ zer16 (l.length + b.length)) ∧ u.grownBy w' none := by
  obtain ⟨M, hM⟩ : ∃ M, M = l.length + b.length := ⟨_, rfl⟩
  rw [← hM]
  have HO := hide hO
  have HB := hide hb
  have HM := hide hM
  clear hO hb
  go_enter Tryd.func51, Tryd.ntmps51
  go_wp2_with (refine wpList_append_bts rfl _ _ rfl u.heap.size _ l.length (l.map bv) rfl (unhide HO) bo cb b (unhide HB) rfl (by omega) hu.size ?_; intro v1 w1 hO1 g1; have hu1 : u.grownBy w1 none := own_grow hu (unhide HO) g1; clear HO HB)
  have hO2 : Own u w1 v1 (l ++ b ++ List.replicate 0 0) := by
    unfold Own
    rw [List.replicate_zero, List.append_nil, List.length_append, List.map_append]; exact hO1
  have HO2 := hide hO2
  clear hO1 hO2
  go_loopw [0] (fun v2 wr => ∃ r : Nat, r ≤ (16 - M % 16) % 16 ∧ Own u wr v2 (l ++ b ++ List.replicate r 0) ∧ u.grownBy wr none) (fun v2 _ => 200016 - (match v2 with | .slice _ n _ => n | _ => 0))
  case atStart => exact ⟨0, Nat.zero_le _, unhide HO2, hu1⟩
  case round =>
    clear HO2 hu1
    obtain ⟨r, hr, hO, hg⟩ := hrel
    have hl : (l ++ b ++ List.replicate r (0 : UInt8)).length = M + r := by simp [hM]; omega
    obtain ⟨ao, c, rfl, hB⟩ := hO.slice
    rw [hl]
    obtain ⟨K, hK⟩ : ∃ K, K = M + r := ⟨_, rfl⟩
    rw [← hK]
    by_cases hlt : r < (16 - M % 16) % 16
    · obtain ⟨q, hq⟩ : ∃ q, q = K % 16 := ⟨_, rfl⟩
      have hq0 : q ≠ 0 := by omega
      have d1 : Int.tmod (K : Int) 16 = (q : Int) := by rw [Int.tmod_eq_emod_of_nonneg (by omega)]; omega
      have d2 : (K : Int) % 16 = (q : Int) := by omega
      have d3 : ¬ (q : Int) = 0 := by omega
      have d4 : ((q : Int) != 0) = true := by simpa using hq0
      have d5 : IntKind.i64.wrap (q : Int) = (q : Int) := by rw [IntKind.wrap_i64]; omega
      have hO' : (wr.alloc (.cells #[.int .u8 0] 5)).ownsRow u.heap.size 5 1 (.slice ao K c) K ((l ++ b ++ List.replicate r (0 : UInt8)).map bv) := by
        have h3 := own_keep hO (World.grownBy_alloc wr (.cells #[.int .u8 0] 5) none)
        rw [hl, ← hK] at h3
        exact h3
      have hz : Bts (wr.alloc (.cells #[.int .u8 0] 5)) (some ⟨wr.heap.size, 0, none⟩) 1 [0] := by
        have h4 := Blk.new wr 5 [.int .u8 0]
        refine ⟨(fun e => by cases e), by decide, by decide, (fun ad e _ => by cases e; rfl), (fun ad e i hi => ?_)⟩
        cases e
        match i, hi with
        | 0, _ => exact h4.cell 0
      have hg2 := gb_alloc hg (.cells #[.int .u8 0] 5)
      have HO' := hide hO'
      have HZ := hide hz
      have HK := hide hK
      clear hO hO' hz hB hl hq hK
      go_wp2_with (refine wpList_append_btm rfl _ _ rfl u.heap.size _ K _ rfl (unhide HO') _ 1 [0] (unhide HZ) 1 rfl rfl (by have := unhide HK; omega) hg2.size ?_; intro v3 w3 hO3 g3; have hg3 : u.grownBy w3 none := own_grow hg2 (unhide HO') g3; clear HO' HZ)
      have hKe := unhide HK
      have hl3 : (l ++ b ++ List.replicate (r + 1) (0 : UInt8)).length = K + 1 := by simp; omega
      have hO4 : Own u w3 v3 (l ++ b ++ List.replicate (r + 1) 0) := by
        unfold Own
        rw [hl3, List.replicate_succ', ← List.append_assoc, List.map_append]; exact hO3
      obtain ⟨a3, c3, hv3, _⟩ := hO4.slice
      rw [hl3] at hv3
      subst hv3
      have HO4 := hide hO4
      clear hO4 hO3 g3 hl3
      go_roundw
      case rel => exact ⟨r + 1, by omega, unhide HO4, hg3⟩
      case measure =>
        show 200016 - (K + 1) < 200016 - K
        omega
    · obtain rfl : r = (16 - M % 16) % 16 := by omega
      have d1 : Int.tmod (K : Int) 16 = 0 := by rw [Int.tmod_eq_emod_of_nonneg (by omega)]; omega
      have d2 : (K : Int) % 16 = 0 := by omega
      have HOE := hide hO
      clear hO hB
      go_wp2
      go_ret
      have h5 := unhide HOE
      rw [hl, ← hK] at *
      exact ⟨_, rfl, h5, hg⟩
end Go.Proofs.YtjckdgapefaokaaDoor

/- A length in eight bytes behind what was gathered. -/
namespace Go.Proofs.YtjckdgapefaokaaDoor
open Go.RowKit

theorem bts_byte (w : World) (y : Nat) : Bts (w.alloc (.cells #[.int .u8 ((y : Int) % 256)] 5)) (some ⟨w.heap.size, 0, none⟩) 1 [UInt8.ofNat y] := by
  refine ⟨(fun e => by cases e), Nat.le_refl _, by unfold maxLen; decide, (fun ad e _ => by cases e; rfl), (fun ad e i hi => ?_)⟩
  cases e
  have hh := heap_alloc_new w (.cells #[.int .u8 ((y : Int) % 256)] 5)
  match i, hi with
  | 0, _ =>
    simp only [World.cell?, hh, List.getElem_cons_zero, UInt8.toNat_ofNat']
    rfl

set_option maxRecDepth 100000 in
set_option maxHeartbeats 1000000 in
theorem len8_any (u w : World) (v : Value) (l : List UInt8) (hO : Own u w v l) (hu : u.grownBy w none) (n : Nat) (h1 : l.length ≤ 100000) (hn : n ≤ 100000) :
    Calls Tryd.prog 52 #[v, .int .i64 (n : Int)] w fun e w' => ∃ v', e = .returned v' ∧ Own u w' v' (l ++ leB 8 n) ∧ u.grownBy w' none := by
  obtain ⟨xs, hxs⟩ : ∃ xs, xs = leB 8 n := ⟨_, rfl⟩
  have hxl : xs.length = 8 := by rw [hxs]; exact leB_length _ _
  rw [← hxs]
  have HO := hide hO
  have HXS := hide hxs
  have HXL := hide hxl
  clear hO hxs hxl
  go_enter Tryd.func52, Tryd.ntmps52
  go_wp2
  go_loopw [0, 6] (fun v2 i wr => ∃ r : Nat, r ≤ 8 ∧ i = .int .i64 (r : Int) ∧ Own u wr v2 (l ++ xs.take r) ∧ u.grownBy wr none) (fun _ i _ => 8 - (intOf i).toNat)
  case atStart => exact ⟨0, Nat.zero_le _, rfl, by rw [List.take_zero, List.append_nil]; exact unhide HO, hu⟩
  case round =>
    obtain ⟨r, hr, rfl, hO, hg⟩ := hrel
    by_cases hlt : r < 8
    · have hl : (l ++ xs.take r).length = l.length + r := by simp [unhide HXL]; omega
      obtain ⟨ao, c, rfl, hB⟩ := hO.slice
      rw [hl]
      obtain ⟨K, hK⟩ : ∃ K, K = l.length + r := ⟨_, rfl⟩
      rw [← hK]
      obtain ⟨q, hq⟩ : ∃ q, q = 8 * r := ⟨_, rfl⟩
      obtain ⟨y, hy⟩ : ∃ v, v = n / 2 ^ q := ⟨_, rfl⟩
      have q1 : (8 : Int) * (r : Int) = (q : Int) := by omega
      have q2 : IntKind.i64.wrap (q : Int) = (q : Int) := by rw [IntKind.wrap_i64]; omega
      have q4 : ¬ (64 : Int) ≤ (q : Int) := by omega
      have q5 : (0 : Int) ≤ (q : Int) := by omega
      have q6 : (n : Int) % 18446744073709551616 = (n : Int) := by omega
      have q7 : IntKind.u64.wrap (n : Int) = (n : Int) := by rw [IntKind.wrap_u64]; omega
      have q8 : (n : Int) / 2 ^ q = (y : Int) := by rw [hy, Int.natCast_ediv, Int.natCast_pow]; rfl
      have q9 : (r : Int) < 8 := by omega
      have hO' : (wr.alloc (.cells #[.int .u8 ((y : Int) % 256)] 5)).ownsRow u.heap.size 5 1 (.slice ao K c) K ((l ++ xs.take r).map bv) := by
        have h3 := own_keep hO (World.grownBy_alloc wr (.cells #[.int .u8 ((y : Int) % 256)] 5) none)
        rw [hl, ← hK] at h3
        exact h3
      have hz := bts_byte wr y
      have hg2 := gb_alloc hg (.cells #[.int .u8 ((y : Int) % 256)] 5)
      have hnext : l ++ xs.take (r + 1) = (l ++ xs.take r) ++ [UInt8.ofNat y] := by
        rw [take_snoc (show r < xs.length by rw [unhide HXL]; exact hlt), List.append_assoc]
        congr 3
        simp only [unhide HXS, leB, List.getElem_map, List.getElem_range]
        rw [hy, hq, show (256 : Nat) = 2 ^ 8 from rfl, ← Nat.pow_mul]
      have HO' := hide hO'
      have HZ := hide hz
      have HK := hide hK
      have HNX := hide hnext
      clear hO hO' hz hB hl hq hK hy hnext
      go_wp2_with (refine wpList_append_btm rfl _ _ rfl u.heap.size _ K _ rfl (unhide HO') _ 1 [UInt8.ofNat y] (unhide HZ) 1 rfl rfl (by have := unhide HK; omega) hg2.size ?_; intro v3 w3 hO3 g3; have hg3 : u.grownBy w3 none := own_grow hg2 (unhide HO') g3; clear HO' HZ)
      have hKe := unhide HK
      have hO4 : Own u w3 v3 (l ++ xs.take (r + 1)) := by
        unfold Own
        rw [unhide HNX, List.length_append (bs := [UInt8.ofNat y]), List.map_append, show (l ++ xs.take r).length = K by simp [unhide HXL]; omega]; exact hO3
      have HO4 := hide hO4
      clear hO4 hO3 g3
      go_roundw
      case rel => exact ⟨r + 1, by omega, by go_num, unhide HO4, hg3⟩
      case measure => simp [intOf]; omega
    · obtain rfl : r = 8 := by omega
      rw [List.take_of_length_le (by rw [unhide HXL]; exact Nat.le_refl _)] at hO
      rw [show ((8 : Nat) : Int) = 8 from rfl]
      have HOE := hide hO
      clear hO
      go_wp2
      go_ret
      exact ⟨_, rfl, unhide HOE, hg⟩
end Go.Proofs.YtjckdgapefaokaaDoor
