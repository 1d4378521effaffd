/- What poly's lowest answers: the lowest sixteen bytes of a number whose limbs are carried on. No other condition. -/
import Derived.Test.YtjckdgapefaokaaDoorPNum
import Derived.Test.YtjckdgapefaokaaDoorPRefK
namespace Go.Proofs.YtjckdgapefaokaaDoor
open Go.RowKit

theorem or_fit (s y r : Nat) (hs : s < 2 ^ r) (hy : y < 67108864) (hr : r < 26) : bits .or .u64 (s : Int) ((y * 2 ^ r : Nat) : Int) = ((s + y * 2 ^ r : Nat) : Int) := by
  have h1 : 2 ^ r ≤ 2 ^ 25 := Nat.pow_le_pow_right (by omega) (by omega)
  have h2 : y * 2 ^ r ≤ 67108863 * 2 ^ 25 := Nat.mul_le_mul (by omega) h1
  rw [u64_or_nat _ _ (by omega) (by omega)]
  have h3 := Nat.shiftLeft_add_eq_or_of_lt (b := s) (i := r) hs y
  rw [Nat.shiftLeft_eq] at h3
  rw [Nat.or_comm, ← h3, Nat.add_comm]
def lowB8 (n : List Nat) (i : Nat) : UInt8 := UInt8.ofNat (v26 n / 256 ^ i)
theorem lowB8_toNat (n : List Nat) (h : Lim n) (i : Nat) (hi : i < 16) : (lowB8 n i).toNat = lowX n i % 256 := by
  rw [low_byte n h i hi, lowB8, UInt8.toNat_ofNat']
def zero16L : List UInt8 := List.replicate 16 0

set_option maxRecDepth 100000 in
set_option maxHeartbeats 1000000 in
theorem lowest_any (w : World) (n : List Nat) (hn : Lim n) :
    Calls Tryd.prog 78 #[num n] w fun e w' => e = .returned (.agg ((leB 16 (v26 n)).map bv).toArray) ∧ w.grownBy w' none := by
  have hi16 : (Tryd.prog.info? 93).map (·.size) = some 16 := by kernel_rfl
  obtain ⟨A, hA⟩ : ∃ A : Array Value, A = (n.map nv).toArray := ⟨_, rfl⟩
  obtain ⟨Z, hZ⟩ : ∃ A : Array Value, A = (zero16L.map bv).toArray := ⟨_, rfl⟩
  have hz : ∀ w : World, (zeroValue 93).run Tryd.prog w = .ok (.agg Z) w := by rw [hZ]; exact zero16b
  obtain ⟨W1, hW1⟩ : ∃ W1, W1 = ((w.alloc (.cells A 132)).alloc (.cells Z 93)).alloc (.cells Z 93) := ⟨_, rfl⟩
  have hg : w.grownBy W1 none := by rw [hW1]; exact gb_alloc (gb_alloc (gb_alloc (gb_refl _ _) _) _) _
  have hN1 : Blk W1 w.heap.size 132 (n.map nv) := by rw [hW1, hA]; exact ((Blk.new w 132 _).alloc _).alloc _
  have hR1 : Blk W1 (w.heap.size + 1) 93 (zero16L.map bv) := by
    have := (Blk.new (w.alloc (.cells A 132)) 93 (zero16L.map bv)).alloc (.cells Z 93)
    rw [World.size_alloc, ← hZ] at this
    rw [hW1]; exact this
  have hB1 : Blk W1 (w.heap.size + 2) 93 ((stepL 16 0 (lowB8 n) (fun _ => 0)).map bv) := by
    have := Blk.new ((w.alloc (.cells A 132)).alloc (.cells Z 93)) 93 (zero16L.map bv)
    rw [World.size_alloc, World.size_alloc, ← hZ] at this
    rw [hW1]; exact this
  show Calls Tryd.prog 78 #[.agg (n.map nv).toArray] w _
  rw [← hA]
  have HN := hide hn
  have HW1 := hide hW1
  have HN1 := hide hN1
  have HR1 := hide hR1
  have HB1 := hide hB1
  clear hn hA hZ hW1 hN1 hR1 hB1
  go_enter Tryd.func78, Tryd.ntmps78
  go_wp2
  rw [← unhide HW1]
  go_loopw [8] (fun i wr => ∃ k : Nat, k ≤ 16 ∧ i = .int .i64 (k : Int) ∧ Blk wr w.heap.size 132 (n.map nv) ∧ Blk wr (w.heap.size + 1) 93 (zero16L.map bv) ∧ Blk wr (w.heap.size + 2) 93 ((stepL 16 k (lowB8 n) (fun _ => 0)).map bv) ∧ w.grownBy wr none) (fun i _ => 16 - (intOf i).toNat)
  case atStart => exact ⟨0, Nat.zero_le _, rfl, unhide HN1, unhide HR1, unhide HB1, hg⟩
  case round =>
    clear HN1 HR1 HB1 hg HW1
    obtain ⟨k, hk, rfl, hN, hR, hB, hg⟩ := hrel
    by_cases hlt : k < 16
    · have hk0 : (0 : Int) ≤ (k : Int) := by omega
      have hk1 : (k : Int) < 16 := by omega
      have hnl := (unhide HN).1
      obtain ⟨q, hq⟩ : ∃ q, q = k * 8 / 26 := ⟨_, rfl⟩
      obtain ⟨r, hr⟩ : ∃ r, r = k * 8 % 26 := ⟨_, rfl⟩
      have hr26 : r < 26 := by omega
      have hq5 : q < 5 := by omega
      obtain ⟨x, hx⟩ : ∃ x, x = n.getD q 0 := ⟨_, rfl⟩
      have hxb : x < 67108864 := by rw [hx]; exact (unhide HN).2 q
      obtain ⟨s, hs⟩ : ∃ s, s = x / 2 ^ r := ⟨_, rfl⟩
      have hsb : s < 2 ^ (26 - r) := by
        rw [hs]
        apply Nat.div_lt_of_lt_mul
        rw [← Nat.pow_add, show r + (26 - r) = 26 by omega]
        exact hxb
      have hlow := lowB8_toNat n (unhide HN) k hlt
      rw [lowX, ← hq, ← hr, ← hx, ← hs] at hlow
      have hcn : wr.cell? ⟨w.heap.size, q, none⟩ = some (.int .u64 (x : Int)) := by
        rw [hN.cell, nv_at n q (by omega), hx]
      have hq0 : (0 : Int) ≤ (q : Int) := by omega
      have hq1 : (q : Int) < 5 := by omega
      have d1 : Int.tdiv ((k : Int) * 8) 26 = (q : Int) := by rw [Int.tdiv_eq_ediv_of_nonneg (by omega)]; omega
      have d2 : (k : Int) * 8 / 26 = (q : Int) := by omega
      have d3 : Int.tmod ((k : Int) * 8) 26 = (r : Int) := by rw [Int.tmod_eq_emod_of_nonneg (by omega)]; omega
      have d4 : (k : Int) * 8 % 26 = (r : Int) := by omega
      have d5 : IntKind.i64.wrap ((k : Int) * 8) = (k : Int) * 8 := by rw [IntKind.wrap_i64]; omega
      have f1 : IntKind.i64.wrap (q : Int) = (q : Int) := by rw [IntKind.wrap_i64]; omega
      have f3 : IntKind.i64.wrap (r : Int) = (r : Int) := by rw [IntKind.wrap_i64]; omega
      have r0 : (0 : Int) ≤ (r : Int) := by omega
      have r1 : ¬ (64 : Int) ≤ (r : Int) := by omega
      have e1 : (x : Int) / 2 ^ r = (s : Int) := by rw [hs, Int.natCast_ediv, Int.natCast_pow]; rfl
      have hs64 : s < 67108864 := by rw [hs]; exact Nat.lt_of_le_of_lt (Nat.div_le_self _ _) hxb
      have hcb : wr.cell? ⟨w.heap.size + 2, k, none⟩ = some (.int .u8 (0 : Int)) := by
        rw [hB.cell, List.getElem?_map, stepL_at _ _ _ _ _ hlt, if_neg (by omega)]; rfl
      have hfb := hB.fz k
      obtain ⟨y, hy⟩ : ∃ y, y = (lowB8 n k).toNat := ⟨_, rfl⟩
      have hB2 : Blk (wr.setCell ⟨w.heap.size + 2, k, none⟩ (.int .u8 (y : Int))) (w.heap.size + 2) 93 ((stepL 16 (k + 1) (lowB8 n) (fun _ => 0)).map bv) := by
        rw [← stepL_set, List.map_set, hy]; exact hB.set k (bv (lowB8 n k))
      have hN2 : Blk (wr.setCell ⟨w.heap.size + 2, k, none⟩ (.int .u8 (y : Int))) w.heap.size 132 (n.map nv) := hN.other _ _ (by simp)
      have hR2 : Blk (wr.setCell ⟨w.heap.size + 2, k, none⟩ (.int .u8 (y : Int))) (w.heap.size + 1) 93 (zero16L.map bv) := hR.other _ _ (by simp)
      have hG2 : w.grownBy (wr.setCell ⟨w.heap.size + 2, k, none⟩ (.int .u8 (y : Int))) none := gb_setCell hg _ _ (Or.inl (by simp))
      rw [← hy] at hlow
      by_cases h18 : 18 < r
      · rw [if_pos h18] at hlow
        have c18 : (18 : Int) < (r : Int) := by omega
        obtain ⟨p, hp⟩ : ∃ p, p = q + 1 := ⟨_, rfl⟩
        have hp5 : p < 5 := by omega
        rw [← hp] at hlow
        obtain ⟨v, hv⟩ : ∃ v, v = n.getD p 0 := ⟨_, rfl⟩
        rw [← hv] at hlow
        have hvb : v < 67108864 := by rw [hv]; exact (unhide HN).2 p
        have hcv : wr.cell? ⟨w.heap.size, p, none⟩ = some (.int .u64 (v : Int)) := by
          rw [hN.cell, nv_at n p (by omega), hv]
        obtain ⟨u, hu⟩ : ∃ u, u = 26 - r := ⟨_, rfl⟩
        rw [← hu] at hlow hsb
        have hor := or_fit s v u hsb hvb (by omega)
        obtain ⟨t, ht⟩ : ∃ t, t = v * 2 ^ u := ⟨_, rfl⟩
        rw [← ht] at hor hlow
        have ht64 : t < 2 ^ 52 := by
          rw [ht]
          have h1 : 2 ^ u ≤ 2 ^ 8 := Nat.pow_le_pow_right (by omega) (by omega)
          have h2 : v * 2 ^ u ≤ 67108863 * 2 ^ 8 := Nat.mul_le_mul (by omega) h1
          omega
        obtain ⟨z, hz2⟩ : ∃ z, z = s + t := ⟨_, rfl⟩
        rw [← hz2] at hor hlow
        have g1 : (q : Int) + 1 = (p : Int) := by omega
        have g2 : (p : Int) < 5 := by omega
        have g3 : (0 : Int) ≤ (p : Int) := by omega
        have g4 : (26 : Int) - (r : Int) = (u : Int) := by omega
        have g5 : (0 : Int) ≤ (u : Int) := by omega
        have g6 : ¬ (64 : Int) ≤ (u : Int) := by omega
        have g7 : (v : Int) * 2 ^ u = (t : Int) := by rw [ht, Int.natCast_mul, Int.natCast_pow]; rfl
        have g8 : (t : Int) % 18446744073709551616 = (t : Int) := by omega
        have g9 : IntKind.u64.wrap (t : Int) = (t : Int) := by rw [IntKind.wrap_u64]; omega
        have g10 : (z : Int) % 256 = (y : Int) := by omega
        have g11 : IntKind.u8.wrap (z : Int) = (y : Int) := by rw [IntKind.wrap_u8]; omega
        have g12 : IntKind.i64.wrap (p : Int) = (p : Int) := by rw [IntKind.wrap_i64]; omega
        have g13 : IntKind.i64.wrap (u : Int) = (u : Int) := by rw [IntKind.wrap_i64]; omega
        have HB2 := hide hB2
        have HN2 := hide hN2
        have HR2 := hide hR2
        have HG2 := hide hG2
        clear hB2 hN2 hR2 hG2 hB hN hR hnl hq hr hx hxb hs hsb hlow hy hp hp5 hv hvb hu ht ht64 hz2 hs64
        go_wp2
        go_roundw
        case rel => exact ⟨k + 1, by omega, by go_num, unhide HN2, unhide HR2, unhide HB2, unhide HG2⟩
        case measure => simp [intOf]; omega
      · rw [if_neg h18] at hlow
        have c18 : ¬ (18 : Int) < (r : Int) := by omega
        have g10 : (s : Int) % 256 = (y : Int) := by omega
        have g11 : IntKind.u8.wrap (s : Int) = (y : Int) := by rw [IntKind.wrap_u8]; omega
        have HB2 := hide hB2
        have HN2 := hide hN2
        have HR2 := hide hR2
        have HG2 := hide hG2
        clear hB2 hN2 hR2 hG2 hB hN hR hnl hq hr hx hxb hs hsb hlow hy hs64
        go_wp2
        go_roundw
        case rel => exact ⟨k + 1, by omega, by go_num, unhide HN2, unhide HR2, unhide HB2, unhide HG2⟩
        case measure => simp [intOf]; omega
    · obtain rfl : k = 16 := by omega
      rw [stepL_all] at hB
      rw [show ((16 : Nat) : Int) = 16 from rfl]
      obtain ⟨C, hC⟩ : ∃ C, C = leB 16 (v26 n) := ⟨_, rfl⟩
      have hB2 : Blk wr (w.heap.size + 2) 93 (C.map bv) := by rw [hC]; exact hB
      have hCl : C.length = 16 := by rw [hC]; exact leB_length _ _
      have hsz : ((C.map bv).toArray).size = 16 := by simp [hCl]
      have hS := hR.row (C.map bv)
      have hG : w.grownBy (wr.setRow (w.heap.size + 1) (C.map bv).toArray) none := gb_row hg _ (Or.inl (by omega))
      have HB := hide hB2
      have HR := hide hR
      have HSZ := hide hsz
      have HC := hide hC
      have HS := hide hS
      have HG := hide hG
      clear hB2 hB hN hR hCl hsz hC hS hG
      go_wp2_with (first
        | (refine wpList_load_row rfl 93 _ rfl (w.heap.size + 2) rfl _ _ _ _ (unhide HB) Tryd.underlying93 rfl ?_ ?_; (rw [unhide HSZ]; exact hi16))
        | (refine wpList_store_row rfl 93 _ _ rfl (w.heap.size + 1) _ rfl rfl _ _ (unhide HR) ?_ ?_ ?_ ?_; (rw [unhide HSZ]; exact hi16); (rw [unhide HSZ]; rfl); (exact all_oneCell_toArray (bv_one _))))
      refine bodyPost_ret (v := .agg (C.map bv).toArray) (results_cell_row (g := w.heap.size + 1) rfl _ _ _ _ _ _ ?_ (unhide HS) Tryd.underlying93 rfl ?_) rfl ⟨by rw [unhide HC], unhide HG⟩
      · rfl
      · rw [unhide HSZ]; exact hi16
end Go.Proofs.YtjckdgapefaokaaDoor
