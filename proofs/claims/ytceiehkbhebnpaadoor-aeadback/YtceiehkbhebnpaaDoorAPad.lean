/- A text that is padded behind what was gathered, in memory of the call's own; and a length in eight bytes. -/
import Derived.Test.YtceiehkbhebnpaaDoorAMath
import Derived.Test.YtceiehkbhebnpaaDoorMApp
import Derived.Test.YtceiehkbhebnpaaDoorMByte
import Derived.Laws.ShiftsVarLaws
namespace Go.Proofs.YtceiehkbhebnpaaDoor
open Go.RowKit

theorem zer16_more (a b : Nat) (h : a % 16 = 0) : zer16 (a + b) = zer16 b := by
  unfold zer16; congr 1; omega
/-- Bytes of the call's own (the call began at u). -/
def Own (u V : World) (v : Value) (l : List UInt8) : Prop := V.ownsRow u.heap.size 5 1 v l.length (l.map bv)
theorem Own.nil (u V : World) : Own u V (.slice none 0 0) [] := World.ownsRow_nil V _ _ _
theorem Own.slice {u V : World} {v : Value} {l : List UInt8} (h : Own u V v l) : ∃ ao c, v = .slice ao l.length c ∧ Bts V ao c l := by
  obtain ⟨ao, c, h1, h2, _⟩ := NewB.own h
  exact ⟨ao, c, h1, h2⟩

set_option maxRecDepth 100000 in
set_option maxHeartbeats 1000000 in
theorem padded_any (u w : World) (v : Value) (l : List UInt8) (hO : Own u w v l) (hu : u.grownBy w none) (bo : Option Addr) (cb : Nat) (b : List UInt8) (hb : Bts w bo cb b) (h1 : l.length ≤ 100000) (h2 : b.length ≤ 100000) :
    Calls Tryd.prog 16 #[v, .slice bo b.length cb] w fun e w' => ∃ v', e = .returned v' ∧ Own u w' v' (l ++ b ++ zer16 (l.length + b.length)) ∧ u.grownBy w' none := by
  obtain ⟨M, hM⟩ : ∃ M, M = l.length + b.length := ⟨_, rfl⟩
  rw [← hM]
  have HO := hide hO
  have HB := hide hb
  have HM := hide hM
  clear hO hb
  go_enter Tryd.func16, Tryd.ntmps16
  go_wp2_with (refine wpList_append_bts rfl _ _ rfl u.heap.size _ l.length (l.map bv) rfl (unhide HO) bo cb b (unhide HB) rfl (by omega) hu.size ?_; intro v1 w1 hO1 g1; have hu1 : u.grownBy w1 none := own_grow hu (unhide HO) g1; clear HO HB)
  have hO2 : Own u w1 v1 (l ++ b ++ List.replicate 0 0) := by
    unfold Own
    rw [List.replicate_zero, List.append_nil, List.length_append, List.map_append]; exact hO1
  have HO2 := hide hO2
  clear hO1 hO2
  go_loopw [0] (fun v2 wr => ∃ r : Nat, r ≤ (16 - M % 16) % 16 ∧ Own u wr v2 (l ++ b ++ List.replicate r 0) ∧ u.grownBy wr none) (fun v2 _ => 200016 - (match v2 with | .slice _ n _ => n | _ => 0))
  case atStart => exact ⟨0, Nat.zero_le _, unhide HO2, hu1⟩
  case round =>
    clear HO2 hu1
    obtain ⟨r, hr, hO, hg⟩ := hrel
    have hl : (l ++ b ++ List.replicate r (0 : UInt8)).length = M + r := by simp [hM]; omega
    obtain ⟨ao, c, rfl, hB⟩ := hO.slice
    rw [hl]
    obtain ⟨K, hK⟩ : ∃ K, K = M + r := ⟨_, rfl⟩
    rw [← hK]
    by_cases hlt : r < (16 - M % 16) % 16
    · obtain ⟨q, hq⟩ : ∃ q, q = K % 16 := ⟨_, rfl⟩
      have hq0 : q ≠ 0 := by omega
      have d1 : Int.tmod (K : Int) 16 = (q : Int) := by rw [Int.tmod_eq_emod_of_nonneg (by omega)]; omega
      have d2 : (K : Int) % 16 = (q : Int) := by omega
      have d3 : ¬ (q : Int) = 0 := by omega
      have d4 : ((q : Int) != 0) = true := by simpa using hq0
      have d5 : IntKind.i64.wrap (q : Int) = (q : Int) := by rw [IntKind.wrap_i64]; omega
      have hO' : (wr.alloc (.cells #[.int .u8 0] 5)).ownsRow u.heap.size 5 1 (.slice ao K c) K ((l ++ b ++ List.replicate r (0 : UInt8)).map bv) := by
        have h3 := own_keep hO (World.grownBy_alloc wr (.cells #[.int .u8 0] 5) none)
        rw [hl, ← hK] at h3
        exact h3
      have hz : Bts (wr.alloc (.cells #[.int .u8 0] 5)) (some ⟨wr.heap.size, 0, none⟩) 1 [0] := by
        have h4 := Blk.new wr 5 [.int .u8 0]
        refine ⟨(fun e => by cases e), by decide, by decide, (fun ad e _ => by cases e; rfl), (fun ad e i hi => ?_)⟩
        cases e
        match i, hi with
        | 0, _ => exact h4.cell 0
      have hg2 := gb_alloc hg (.cells #[.int .u8 0] 5)
      have HO' := hide hO'
      have HZ := hide hz
      have HK := hide hK
      clear hO hO' hz hB hl hq hK
      go_wp2_with (refine wpList_append_btm rfl _ _ rfl u.heap.size _ K _ rfl (unhide HO') _ 1 [0] (unhide HZ) 1 rfl rfl (by have := unhide HK; omega) hg2.size ?_; intro v3 w3 hO3 g3; have hg3 : u.grownBy w3 none := own_grow hg2 (unhide HO') g3; clear HO' HZ)
      have hKe := unhide HK
      have hl3 : (l ++ b ++ List.replicate (r + 1) (0 : UInt8)).length = K + 1 := by simp; omega
      have hO4 : Own u w3 v3 (l ++ b ++ List.replicate (r + 1) 0) := by
        unfold Own
        rw [hl3, List.replicate_succ', ← List.append_assoc, List.map_append]; exact hO3
      obtain ⟨a3, c3, hv3, _⟩ := hO4.slice
      rw [hl3] at hv3
      subst hv3
      have HO4 := hide hO4
      clear hO4 hO3 g3 hl3
      go_roundw
      case rel => exact ⟨r + 1, by omega, unhide HO4, hg3⟩
      case measure =>
        show 200016 - (K + 1) < 200016 - K
        omega
    · obtain rfl : r = (16 - M % 16) % 16 := by omega
      have d1 : Int.tmod (K : Int) 16 = 0 := by rw [Int.tmod_eq_emod_of_nonneg (by omega)]; omega
      have d2 : (K : Int) % 16 = 0 := by omega
      have HOE := hide hO
      clear hO hB
      go_wp2
      go_ret
      have h5 := unhide HOE
      rw [hl, ← hK] at *
      exact ⟨_, rfl, h5, hg⟩
end Go.Proofs.YtceiehkbhebnpaaDoor
