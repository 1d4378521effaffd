/- What kdf's masked answers. No condition but those that each lemma names. -/
import Derived.Test.YtikdpifacokfpaaDoorSHash
import Derived.Test.YtikdpifacokfpaaDoorKMath
namespace Go.Proofs.YtikdpifacokfpaaDoor
open Go.RowKit

theorem b_xor (x y : UInt8) : bits .xor .u8 ((x.toNat : Nat) : Int) ((y.toNat : Nat) : Int) = (((x ^^^ y).toNat : Nat) : Int) := by
  rw [u8_xor_nat _ _ x.toNat_lt y.toNat_lt, UInt8.toNat_xor]
theorem b_or (x y : UInt8) : bits .or .u8 ((x.toNat : Nat) : Int) ((y.toNat : Nat) : Int) = (((x ||| y).toNat : Nat) : Int) := by
  rw [u8_or_nat _ _ x.toNat_lt y.toNat_lt, UInt8.toNat_or]

theorem zero64 (w : World) : (zeroValue 27).run Tryd.prog w = .ok (.agg ((List.replicate 64 (0 : UInt8)).map bv).toArray) w := by kernel_rfl
theorem zero32 (w : World) : (zeroValue 22).run Tryd.prog w = .ok (.agg ((List.replicate 32 (0 : UInt8)).map bv).toArray) w := by kernel_rfl

theorem mask_step (m : UInt8) (l : List UInt8) (k : Nat) (hk : k < l.length) : (((maskL m l).take k ++ l.drop k).map bv).set k (bv (l[k] ^^^ m)) = ((maskL m l).take (k + 1) ++ l.drop (k + 1)).map bv := by
  have hz : k < (maskL m l).length := by rw [maskL_length]; exact hk
  rw [← List.map_set, List.take_succ_eq_append_getElem hz, List.set_append_right _ _ (by simp; omega)]
  have : k - ((maskL m l).take k).length = 0 := by simp [maskL_length]; omega
  rw [this, List.drop_eq_getElem_cons hk, List.append_assoc, List.set_cons_zero]
  simp [maskL]

set_option maxRecDepth 100000 in
set_option maxHeartbeats 1000000 in
theorem masked_any (w : World) (l : List UInt8) (m : UInt8) (hl : l.length = 64) :
    Calls Tryd.prog 36 #[.agg (l.map bv).toArray, .int .u8 ((m.toNat : Nat) : Int)] w fun e w' => e = .returned (.agg ((maskL m l).map bv).toArray) ∧ w.grownBy w' none := by
  obtain ⟨Z, hZ⟩ : ∃ Z : Array Value, Z = ((List.replicate 64 (0 : UInt8)).map bv).toArray := ⟨_, rfl⟩
  have hzv := zero64
  rw [← hZ] at hzv
  obtain ⟨A, hA⟩ : ∃ A : Array Value, A = (l.map bv).toArray := ⟨_, rfl⟩
  rw [← hA]
  have HZ := hide hZ
  have HA := hide hA
  have HL := hide hl
  clear hZ hA hl
  go_enter Tryd.func36, Tryd.ntmps36
  go_wp2
  go_loopw [6] (fun i wr => ∃ k : Nat, k ≤ 64 ∧ i = .int .i64 k ∧ Blk wr w.heap.size 27 (((maskL m l).take k ++ l.drop k).map bv) ∧ Blk wr (w.heap.size + 1) 27 ((List.replicate 64 (0 : UInt8)).map bv) ∧ w.grownBy wr none) (fun i _ => 64 - (intOf i).toNat)
  case atStart =>
    refine ⟨0, Nat.zero_le _, rfl, ?_, ?_, gb_alloc (gb_alloc (gb_refl _ _) _) _⟩
    · rw [unhide HA]
      simpa using (Blk.new w 27 (l.map bv)).alloc _
    · have := Blk.new (w.alloc (.cells A 27)) 27 ((List.replicate 64 (0 : UInt8)).map bv)
      rw [World.size_alloc] at this
      rw [unhide HZ]
      exact this
  case round =>
    obtain ⟨k, hk, rfl, hB, hR, hg⟩ := hrel
    by_cases hlt : k < 64
    · have hkl : k < l.length := by rw [unhide HL]; exact hlt
      obtain ⟨x, hx⟩ : ∃ x, x = l[k] := ⟨_, rfl⟩
      have hcc : wr.cell? ⟨w.heap.size, k, none⟩ = some (.int .u8 ((x.toNat : Nat) : Int)) := by
        have hll : ((maskL m l).take k).length = k := by simp [maskL_length]; omega
        rw [hB.cell, List.getElem?_map, List.getElem?_append_right (by omega), hll, Nat.sub_self, List.getElem?_drop, Nat.add_zero, List.getElem?_eq_getElem hkl, hx]
        rfl
      have hfz := hB.fz k
      have hxr := b_xor x m
      have hq0 : (0 : Int) ≤ (k : Int) := by omega
      have hq1 : (k : Int) < 64 := by omega
      have HX := hide hx
      have HB := hide hB
      have HR := hide hR
      clear hx hB hR
      go_wp2
      go_roundw
      case rel =>
        have hS := (unhide HB).set k (bv (x ^^^ m))
        rw [unhide HX, mask_step m l k hkl] at hS
        rw [unhide HX]
        exact ⟨k + 1, by omega, by go_num, hS, (unhide HR).other _ _ (by simp), gb_setCell hg _ _ (Or.inl (Nat.le_refl _))⟩
      case measure => simp [intOf]; omega
    · obtain rfl : k = 64 := by omega
      rw [show l.drop 64 = [] by rw [List.drop_eq_nil_of_le]; rw [unhide HL]; exact Nat.le_refl _, List.append_nil, List.take_of_length_le (by rw [maskL_length, unhide HL]; exact Nat.le_refl _)] at hB
      have hi64 : (Tryd.prog.info? 27).map (·.size) = some 64 := by kernel_rfl
      have hsz : (((maskL m l).map bv).toArray).size = 64 := by simp [maskL_length, unhide HL]
      have HSZ := hide hsz
      clear hsz
      go_wp2_with (first | (refine wpList_load_row rfl 27 _ rfl w.heap.size rfl _ _ _ _ hB Tryd.underlying27 rfl ?_ ?_; (rw [unhide HSZ]; exact hi64)) | (refine wpList_store_row rfl 27 _ _ rfl (w.heap.size + 1) _ rfl rfl _ _ hR ?_ ?_ ?_ ?_; (rw [unhide HSZ]; exact hi64); (rw [unhide HSZ]; rfl); (exact all_oneCell_toArray (bv_one _))))
      have hS := hR.row ((maskL m l).map bv)
      have hG : w.grownBy (wr.setRow (w.heap.size + 1) ((maskL m l).map bv).toArray) none := gb_row hg _ (Or.inl (by omega))
      refine bodyPost_ret (v := .agg ((maskL m l).map bv).toArray) (results_cell_row (g := w.heap.size + 1) rfl _ _ _ _ _ _ ?_ hS Tryd.underlying27 rfl ?_) rfl ⟨rfl, hG⟩
      · rfl
      · rw [unhide HSZ]; exact hi64

end Go.Proofs.YtikdpifacokfpaaDoor
