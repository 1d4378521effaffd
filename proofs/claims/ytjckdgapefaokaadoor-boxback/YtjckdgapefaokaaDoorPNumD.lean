/- What poly's lowest answers: the lowest sixteen bytes of a number whose limbs are carried on. No other condition. -/
import Derived.Test.YtjckdgapefaokaaDoorPNum
import Derived.Test.YtjckdgapefaokaaDoorPRefK
namespace Go.Proofs.YtjckdgapefaokaaDoor
open Go.RowKit

theorem or_fit (s y r : Nat) (hs : s < 2 ^ r) (hy : y < 67108864) (hr : r < 26) : bits .or .u64 (s : Int) ((y * 2 ^ r : Nat) : Int) = ((s + y * 2 ^ r : Nat) : Int) := by
  have h1 : 2 ^ r ≤ 2 ^ 25 := Nat.pow_le_pow_right (by omega) (by omega)
  have h2 : y * 2 ^ r ≤ 67108863 * 2 ^ 25 := Nat.mul_le_mul (by omega) h1
  rw [u64_or_nat _ _ (by omega) (by omega)]
  have h3 := Nat.shiftLeft_add_eq_or_of_lt (b := s) (i := r) hs y
  rw [Nat.shiftLeft_eq] at h3
  rw [Nat.or_comm, ← h3, Nat.add_comm]
def lowB8 (n : List Nat) (i : Nat) : UInt8 := UInt8.ofNat (v26 n / 256 ^ i)
theorem lowB8_toNat (n : List Nat) (h : Lim n) (i : Nat) (hi : i < 16) : (lowB8 n i).toNat = lowX n i % 256 := by
  rw [low_byte n h i hi, lowB8, UInt8.toNat_ofNat']
def zero16L : List UInt8 := List.replicate 16 0

set_option maxRecDepth 100000 in
set_option maxHeartbeats 1000000 in
theorem lowest_any (w : World) (n : List Nat) (hn : Lim n) :
    Calls Tryd.prog 78 #[num n] w fun e w' => e = .returned (.agg ((leB 16 (v26 n)).map bv).toArray) ∧ w.grownBy w' none := by
  have hi16 : (Tryd.prog.info? 93).map (·.size) = some 16 := by kernel_rfl
  obtain ⟨A, hA⟩ : ∃ A : Array Value, A = (n.map nv).toArray := ⟨_, rfl⟩
  obtain ⟨Z, hZ⟩ : ∃ A : Array Value, A = (zero16L.map bv).toArray := ⟨_, rfl⟩
  have hz : ∀ w : World, (zeroValue 93).run Tryd.prog w = .ok (.agg Z) w := by rw [hZ]; exact zero16b
  obtain ⟨W1, hW1⟩ : ∃ W1, W1 = ((w.alloc (.cells A 132)).alloc (.cells Z 93)).alloc (.cells Z 93) := ⟨_, rfl⟩
  have hg : w.grownBy W1 none := by rw [hW1]; exact gb_alloc (gb_alloc (gb_alloc (gb_refl _ _) _) _) _
  have hN1 : Blk W1 w.heap.size 132 (n.map nv) := by rw [hW1, hA]; exact ((Blk.new w 132 _).alloc _).alloc _
  have hR1 : Blk W1 (w.heap.size + 1) 93 (zero16L.map bv) := by
    have := (Blk.new (w.alloc (.cells A 132)) 93 (zero16L.map bv)).alloc (.cells Z 93)
    rw [World.size_alloc, ← hZ] at this
    rw [hW1]; exact this
  have hB1 : Blk W1 (w.heap.size + 2) 93 ((stepL 16 0 (lowB8 n) (fun _ => 0)).map bv) := by
    have := Blk.new ((w.alloc (.cells A 132)).alloc (.cells Z 93)) 93 (zero16L.map bv)
    rw [World.size_alloc, World.size_alloc, ← hZ] at this
    rw [hW1]; exact this
  show Calls Tryd.prog 78 #[.agg (n.map nv).toArray] w _
  rw [← hA]
  have HN := hide hn
  have HW1 := hide hW1
  have HN1 := hide hN1
  have HR1 := hide hR1
  have HB1 := hide hB1
  clear hn hA hZ hW1 hN1 hR1 hB1
  go_enter Tryd.func78, Tryd.ntmps78
  go_wp2
  rw [← unhide HW1]
  go_loopw [8] (fun i wr => ∃ k : Nat, k ≤ 16 ∧ i = .int .i64 (k : Int) ∧ Blk wr w.heap.size 132 (n.map nv) ∧ Blk wr (w.heap.size + 1) 93 (zero16L.map bv) ∧ Blk wr (w.heap.size + 2) 93 ((stepL 16 k (lowB8 n) (fun _ => 0)).map bv) ∧ w.grownBy wr none) (fun i _ => 16 - (intOf i).toNat)
  case atStart => exact ⟨0, Nat.zero_le _, rfl, unhide HN1, unhide HR1, unhide HB1, hg⟩
  case round =>
    clear HN1 HR1 HB1 hg HW1
    obtain ⟨k, hk, rfl, hN, hR, hB, hg⟩ := hrel
    by_cases hlt : k < 16
    · have hk0 : (0 : Int) ≤ (k : Int) := by omega
      have hk1 : (k : Int) < 16 := by omega
      have hnl := (unhide HN).1
      obtain ⟨q, hq⟩ : ∃ q, q = k * 8 / 26 := ⟨_, rfl⟩
      obtain ⟨r, hr⟩ : ∃ r, r = k * 8 % 26 := ⟨_, rfl⟩
      have hr26 : r < 26 := by omega
      have hq5 : q < 5 := by omega
      obtain ⟨x, hx⟩ : ∃ x, x = n.getD q 0 := ⟨_, rfl⟩
      have hxb : x < 67108864 := by rw [hx]; exact (unhide HN).2 q
      obtain ⟨s, hs⟩ : ∃ s, s = x / 2 ^ r := ⟨_, rfl⟩
      have hsb : s < 2 ^ (26 - r) := by
        rw [hs]
        apply Nat.div_lt_of_lt_mul
        rw [← Nat.pow_add, show r + (26 - r) = 26 by omega]
        exact hxb
      have hlow := lowB8_toNat n (unhide HN) k hlt
      rw [lowX, ← hq, ← hr, ← hx, ← hs] at hlow
      have hcn : wr.cell? ⟨w.heap.size, q, none⟩ = some (.int .u64 (x : Int)) := by
        rw [hN.cell, nv_at n q (by omega), hx]
      have hq0 : (0 : Int) ≤ (q : Int) := by omega
      have hq1 : (q : Int) < 5 := by omega
      have d1 : Int.tdiv ((k : Int) * 8) 26 = (q : Int) := by rw [Int.tdiv_eq_ediv_of_nonneg (by omega)]; omega
      have d2 : (k : Int) * 8 / 26 = (q : Int) := by omega
      have d3 : Int.tmod ((k : Int) * 8) 26 = (r : Int) := by rw [Int.tmod_eq_emod_of_nonneg (by omega)]; omega
      have d4 : (k : Int) * 8 % 26 = (r : Int) := by omega
      have d5 : IntKind.i64.wrap ((k : Int) * 8) = (k : Int) * 8 := by rw [IntKind.wrap_i64]; omega
      have f1 : IntKind.i64.wrap (q : Int) = (q : Int) := by rw [IntKind.wrap_i64]; omega
      have f3 : IntKind.i64.wrap (r : Int) = (r : Int) := by rw [IntKind.wrap_i64]; omega
      have r0 : (0 : Int) ≤ (r : Int) := by omega
      have r1 : ¬ (64 : Int) ≤ (r : Int) := by omega
      have e1 : (x : Int) / 2 ^ r = (s : Int) := by rw [hs, Int.natCast_ediv, Int.natCast_pow]; rfl
      have hs64 : s < 67108864 := by rw [hs]; exact Nat.lt_of_le_of_lt (Nat.div_le_self _ _) hxb
      have hcb : wr.cell? ⟨w.heap.size + 2, k, none⟩ = some (.int .u8 (0 : Int)) := by
        rw [hB.cell, List.getElem?_map, stepL_at _ _ _ _ _ hlt, if_neg (by omega)]; rfl
      have hfb := hB.fz k
      obtain ⟨y, hy⟩ : ∃ y, y = (lowB8 n k).toNat := ⟨_, rfl⟩
      have hB2 : Blk (wr.setCell ⟨w.heap.size + 2, k, none⟩ (.int .u8 (y : Int))) (w.heap.size + 2) 93 ((stepL 16 (k + 1) (lowB8 n) (fun _ => 0)).map bv) := by
        rw [← stepL_set, List.map_set, hy]; exact hB.set k (bv (lowB8 n k))
      have hN2 : Blk (wr.setCell ⟨w.heap.size + 2, k, none⟩ (.int .u8 (y : Int))) w.heap.size 132 (n.map nv) := hN.other _ _ (by simp)
      have hR2 : Blk (wr.setCell ⟨w.heap.size + 2, k, none⟩ (.int .u8 (y : Int))) (w.heap.size + 1) 93 (zero16L.map bv) := hR.other _ _ (by simp)
      have hG2 : w.grownBy (wr.setCell ⟨w.heap.size + 2, k, none⟩ (.int .u8 (y : Int))) none := gb_setCell hg _ _ (Or.inl (by simp))
      rw [← hy] at hlow
      by_cases h18 : 18 < r
      · rw [if_pos h18] at hlow
        have c18 : (18 : Int) < (r : Int) := by omega
        obtain ⟨p, hp⟩ : ∃ p, p = q + 1 := ⟨_, rfl⟩
        have hp5 : p < 5 := by omega
        rw [← hp] at hlow
        obtain ⟨v, hv⟩ : ∃ v, v = n.getD p 0 := ⟨_, rfl⟩
        rw [← hv] at hlow
        have hvb : v < 67108864 := by rw [hv]; exact (unhide HN).2 p
        have hcv : wr.cell? ⟨w.heap.size, p, none⟩ = some (.int .u64 (v : Int)) := by
          rw [hN.cell, nv_at n p (by omega), hv]
        obtain ⟨u, hu⟩ : ∃ u, u = 26 - r := ⟨_, rfl⟩
        rw [← hu] at hlow hsb
        have hor := or_fit s v u hsb hvb (by omega)
        obtain ⟨t, ht⟩ : ∃ t, t = v * 2 ^ u := ⟨_, rfl⟩
        rw [← ht] at hor hlow
        have ht64 : t < 2 ^ 52 := by
          rw [ht]
          have h1 : 2 ^ u ≤ 2 ^ 8 := Nat.pow_le_pow_right (by omega) (by omega)
          have h2 : v * 2 ^ u ≤ 67108863 * 2 ^ 8 := Nat.mul_le_mul (by omega) h1
          omega
        obtain ⟨z, hz2⟩ : ∃ z, z = s + t := ⟨_, rfl⟩
        rw [← hz2] at hor hlow
        have g1 : (q : Int) + 1 = (p : Int) := by omega
        have g2 : (p : Int) < 5 := by omega
        have g3 : (0 : Int) ≤ (p : Int) := by omega
        have g4 : (26 : Int) - (r : Int) = (u : Int) := by omega
        have g5 : (0 : Int) ≤ (u : Int) := by omega
        have g6 : ¬ (64 : Int) ≤ (u : Int) := by omega
        have g7 : (v : Int) * 2 ^ u = (t : Int) := by rw [ht, Int.natCast_mul, Int.natCast_pow]; rfl
        have g8 : (t : Int) % 18446744073709551616 = (t : Int) := by omega
        have g9 : IntKind.u64.wrap (t : Int) = (t : Int) := by rw [IntKind.wrap_u64]; omega
        have g10 : (z : Int) % 256 = (y : Int) := by omega
        have g11 : IntKind.u8.wrap (z : Int) = (y : Int) := by rw [IntKind.wrap_u8]; omega
        have g12 : IntKind.i64.wrap (p : Int) = (p : Int) := by rw [IntKind.wrap_i64]; omega
        have g13 : IntKind.i64.wrap (u : Int) = (u : Int) := by rw [IntKind.wrap_i64]; omega
        have HB2 := hide hB2
        have HN2 := hide hN2
        have HR2 := hide hR2
        have HG2 := hide hG2
        clear hB2 hN2 hR2 hG2 hB hN hR hnl hq hr hx hxb hs hsb hlow hy hp hp5 hv hvb hu ht ht64 hz2 hs64
        go_wp2
        go_roundw
        case rel => exact ⟨k + 1, by omega, by go_num, unhide HN2, unhide HR2, unhide HB2, unhide HG2⟩
        case measure => simp [intOf]; omega
      · rw [if_neg h18] at hlow
        have c18 : ¬ (18 : Int) < (r : Int) := by omega
        have g10 : (s : Int) % 256 = (y : Int) := by omega
        have g11 : IntKind.u8.wrap (s : Int) = (y : Int) := by rw [IntKind.wrap_u8]; omega
        have HB2 := hide hB2
        have HN2 := hide hN2
        have HR2 := hide hR2
        have HG2 := hide hG2
        clear hB2 hN2 hR2 hG2 hB hN hR hnl hq hr hx hxb hs hsb hlow hy hs64
        go_wp2
        go_roundw
        case rel => exact ⟨k + 1, by omega, by go_num, unhide HN2, unhide HR2, unhide HB2, unhide HG2⟩
        case measure => simp [intOf]; omega
    · obtain rfl : k = 16 := by omega
      rw [stepL_all] at hB
      rw [show ((16 : Nat) : Int) = 16 from rfl]
      obtain ⟨C, hC⟩ : ∃ C, C = leB 16 (v26 n) := ⟨_, rfl⟩
      have hB2 : Blk wr (w.heap.size + 2) 93 (C.map bv) := by rw [hC]; exact hB
      have hCl : C.length = 16 := by rw [hC]; exact leB_length _ _
      have hsz : ((C.map bv).toArray).size = 16 := by simp [hCl]
      have hS := hR.row (C.map bv)
      have hG : w.grownBy (wr.setRow (w.heap.size + 1) (C.map bv).toArray) none := gb_row hg _ (Or.inl (by omega))
      have HB := hide hB2
      have HR := hide hR
      have HSZ := hide hsz
      have HC := hide hC
      have HS := hide hS
      have HG := hide hG
      clear hB2 hB hN hR hCl hsz hC hS hG
      go_wp2_with (first
        | (refine wpList_load_row rfl 93 _ rfl (w.heap.size + 2) rfl _ _ _ _ (unhide HB) Tryd.underlying93 rfl ?_ ?_; (rw [unhide HSZ]; exact hi16))
        | (refine wpList_store_row rfl 93 _ _ rfl (w.heap.size + 1) _ rfl rfl _ _ (unhide HR) ?_ ?_ ?_ ?_; (rw [unhide HSZ]; exact hi16); (rw [unhide HSZ]; rfl); (exact all_oneCell_toArray (bv_one _))))
      refine bodyPost_ret (v := .agg (C.map bv).toArray) (results_cell_row (g := w.heap.size + 1) rfl _ _ _ _ _ _ ?_ (unhide HS) Tryd.underlying93 rfl ?_) rfl ⟨by rw [unhide HC], unhide HG⟩
      · rfl
      · rw [unhide HSZ]; exact hi16
end Go.Proofs.YtjckdgapefaokaaDoor

/- What poly's least answers: the number modulo 2 to the 130, but for 5, in limbs that are carried on. No condition but that the number's limbs are as times makes them. -/
namespace Go.Proofs.YtjckdgapefaokaaDoor
open Go.RowKit

theorem lin5_lt (n : List Nat) (h : Lin5 n) (k : Nat) : n.getD k 0 < 67108869 := by
  rcases Nat.eq_zero_or_pos k with e | e
  · rw [e]; exact h.2.1
  · have := h.2.2 k e; omega

theorem step6 {w W4 w5 W6 : World} {Z : Obj} {n : List Value} {z : List Value} {A : Array Value} (h6 : W6 = w5.alloc Z) (g5 : W4.grownBy w5 none) (hN : Blk W4 w.heap.size 132 n) (hR : Blk W4 (w.heap.size + 1) 132 z) (hg : w.grownBy W4 none) :
    ∃ W7, W7 = W6.setRow w5.heap.size A ∧ Blk W7 w.heap.size 132 n ∧ Blk W7 (w.heap.size + 1) 132 z ∧ w.grownBy W7 none := by
  have h1 := hN.kept g5 (by simp)
  have h2 := hR.kept g5 (by simp)
  have l1 := h1.lt
  have l2 := h2.lt
  subst h6
  exact ⟨_, rfl, (h1.alloc _).row_other _ _ (by omega), (h2.alloc _).row_other _ _ (by omega), gb_row (gb_alloc (gb_trans hg g5 (fun _ e => by cases e)) _) _ (Or.inl (by omega))⟩
theorem step8 {w W7 : World} {n Y : List Nat} {z : List Value} {x o : Nat} (hx : x = n.getD 0 0) (hY : Y = n.set 0 (x + 5 * o)) (hn : n.length = 5) (hN : Blk W7 w.heap.size 132 (n.map nv)) (hR : Blk W7 (w.heap.size + 1) 132 z) (hg : w.grownBy W7 none) :
    ∃ W8, W8 = W7.setCell ⟨w.heap.size, 0, none⟩ (.int .u64 ((x : Int) + 5 * (o : Int))) ∧ Blk W8 w.heap.size 132 (Y.map nv) ∧ Blk W8 (w.heap.size + 1) 132 z ∧ w.grownBy W8 none ∧ W7.cell? ⟨w.heap.size, 0, none⟩ = some (.int .u64 (x : Int)) ∧ W7.frozen? ⟨w.heap.size, 0, none⟩ = false := by
  refine ⟨_, rfl, ?_, hR.other _ _ (by simp), gb_setCell hg _ _ (Or.inl (by simp)), ?_, hN.fz 0⟩
  · rw [hY, List.map_set]; exact hN.set 0 (nv (x + 5 * o))
  · rw [hN.cell, nv_at n 0 (by omega), hx]

set_option maxRecDepth 100000 in
set_option maxHeartbeats 1000000 in
theorem least5_any (w : World) (n : List Nat) (hn : Lin5 n) :
    Calls Tryd.prog 77 #[num n] w fun e w' => ∃ c, Lim c ∧ v26 c = v26 n % pN ∧ e = .returned (num c) ∧ w.grownBy w' none := by
  have hlv := least_val n hn
  have hn5 := hn.1
  have hlt := lin5_lt n hn
  obtain ⟨A, hA⟩ : ∃ A : Array Value, A = (n.map nv).toArray := ⟨_, rfl⟩
  obtain ⟨Z, hZ⟩ : ∃ A : Array Value, A = (zero5L.map nv).toArray := ⟨_, rfl⟩
  have hz := zero5
  rw [← hZ] at hz
  obtain ⟨x, hx⟩ : ∃ x, x = n.getD 0 0 := ⟨_, rfl⟩
  have hx9 : x < 67108869 := by rw [hx]; exact hlt 0
  obtain ⟨M, hM⟩ : ∃ M, M = n.set 0 (x + 5) := ⟨_, rfl⟩
  have hMl : M.length = 5 := by rw [hM]; simp [hn5]
  have hMb : ∀ k, M.getD k 0 < 2 ^ 62 := fun k => by
    rw [hM, set_getD n 0 k _ (by omega)]
    have := hlt k
    by_cases e : k = 0
    · rw [if_pos e]; omega
    · rw [if_neg e]; omega
  obtain ⟨o, ho⟩ : ∃ o, o = ovr M 5 := ⟨_, rfl⟩
  have hob : o < 2 ^ 37 := by rw [ho]; exact ovr_lt M hMb 5
  obtain ⟨Y, hY⟩ : ∃ Y, Y = n.set 0 (x + 5 * o) := ⟨_, rfl⟩
  have hYl : Y.length = 5 := by rw [hY]; simp [hn5]
  have hYb : ∀ k, Y.getD k 0 < 2 ^ 62 := fun k => by
    rw [hY, set_getD n 0 k _ (by omega)]
    have := hlt k
    by_cases e : k = 0
    · rw [if_pos e]; omega
    · rw [if_neg e]; omega
  obtain ⟨C, hC⟩ : ∃ C, C = cutL Y := ⟨_, rfl⟩
  have hCl : Lim C := by rw [hC]; exact cutL_lim Y
  have hCv : v26 C = v26 n % pN := by rw [hC, hY, ho, hM, hx]; exact hlv
  obtain ⟨CM, hCM⟩ : ∃ C, C = cutL M := ⟨_, rfl⟩
  have hCMl : CM.length = 5 := by rw [hCM]; exact cutL_length M
  have hc1 : ∀ W, Calls Tryd.prog 76 #[.agg (M.map nv).toArray] W fun e w' => e = .returned (.tuple #[.agg (CM.map nv).toArray, .int .u64 (o : Int)]) ∧ W.grownBy w' none := fun W => by
    rw [hCM, ho]; exact carried5_any W M hMl hMb
  have hc2 : ∀ W, Calls Tryd.prog 76 #[.agg (Y.map nv).toArray] W fun e w' => e = .returned (.tuple #[.agg (C.map nv).toArray, nv (ovr Y 5)]) ∧ W.grownBy w' none := fun W => by
    rw [hC]; exact carried5_any W Y hYl hYb
  have e1 : (x : Int) + 5 = ((x + 5 : Nat) : Int) := by omega
  have e2 : IntKind.u64.wrap ((x : Int) + 5) = (x : Int) + 5 := by rw [IntKind.wrap_u64]; omega
  have e3 : ((x : Int) + 5) % 18446744073709551616 = (x : Int) + 5 := by omega
  have e4 : ((5 : Int) * (o : Int)) % 18446744073709551616 = 5 * (o : Int) := by omega
  have e5 : IntKind.u64.wrap ((5 : Int) * (o : Int)) = 5 * (o : Int) := by rw [IntKind.wrap_u64]; omega
  have e6 : ((x : Int) + 5 * (o : Int)) % 18446744073709551616 = (x : Int) + 5 * (o : Int) := by omega
  have e7 : IntKind.u64.wrap ((x : Int) + 5 * (o : Int)) = (x : Int) + 5 * (o : Int) := by rw [IntKind.wrap_u64]; omega
  -- the worlds ahead of the first call
  obtain ⟨W1, hW1⟩ : ∃ W1, W1 = (w.alloc (.cells A 132)).alloc (.cells Z 132) := ⟨_, rfl⟩
  have hs1 : W1.heap.size = w.heap.size + 2 := by rw [hW1, World.size_alloc, World.size_alloc]
  have hg1 : w.grownBy W1 none := by rw [hW1]; exact gb_alloc (gb_alloc (gb_refl _ _) _) _
  have hN1 : Blk W1 w.heap.size 132 (n.map nv) := by rw [hW1, hA]; exact (Blk.new w 132 _).alloc _
  have hR1 : Blk W1 (w.heap.size + 1) 132 (zero5L.map nv) := by
    have := Blk.new (w.alloc (.cells A 132)) 132 (zero5L.map nv)
    rw [World.size_alloc] at this
    rw [hW1, hZ]; exact this
  obtain ⟨W2, hW2⟩ : ∃ W2, W2 = W1.alloc (.cells Z 132) := ⟨_, rfl⟩
  have hM2 : Blk W2 (w.heap.size + 2) 132 (zero5L.map nv) := by
    have := Blk.new W1 132 (zero5L.map nv)
    rw [hs1] at this
    rw [hW2, hZ]; exact this
  obtain ⟨W3, hW3⟩ : ∃ W3, W3 = W2.setRow (w.heap.size + 2) A := ⟨_, rfl⟩
  have hM3 : Blk W3 (w.heap.size + 2) 132 (n.map nv) := by rw [hW3, hA]; exact hM2.row _
  obtain ⟨W4, hW4⟩ : ∃ W4, W4 = W3.setCell ⟨w.heap.size + 2, 0, none⟩ (.int .u64 ((x : Int) + 5)) := ⟨_, rfl⟩
  have hM4 : Blk W4 (w.heap.size + 2) 132 (M.map nv) := by
    rw [hW4, hM, List.map_set]; exact hM3.set 0 (nv (x + 5))
  have hN4 : Blk W4 w.heap.size 132 (n.map nv) := by
    rw [hW4, hW3, hW2]; exact ((hN1.alloc _).row_other _ _ (by omega)).other _ _ (by simp)
  have hR4 : Blk W4 (w.heap.size + 1) 132 (zero5L.map nv) := by
    rw [hW4, hW3, hW2]; exact ((hR1.alloc _).row_other _ _ (by omega)).other _ _ (by simp)
  have hg4 : w.grownBy W4 none := by
    rw [hW4, hW3, hW2]; exact gb_setCell (gb_row (gb_alloc hg1 _) _ (Or.inl (by omega))) _ _ (Or.inl (by simp))
  have hc3 : W3.cell? ⟨w.heap.size + 2, 0, none⟩ = some (.int .u64 (x : Int)) := by
    rw [hM3.cell, nv_at n 0 (by omega), hx]
  have hf3 := hM3.fz 0
  have hN1' : W1.heap[w.heap.size]? = some (.cells A 132 (0, 0)) := by rw [hA]; exact hN1
  have hsA : A.size = 5 := by rw [hA]; exact num_size n hn5
  have hiA : (Tryd.prog.info? 132).map (·.size) = some A.size := by rw [hsA]; exact info5
  have hone : A.all (·.oneCell') = true := by rw [hA]; exact all_oneCell_toArray (nv_one _)
  have hiM := info5n M hMl
  have hiCM := info5n CM hCMl
  have hsCM := num_size CM hCMl
  have hiY := info5n Y hYl
  have hsY := num_size Y hYl
  have hiC := info5n C hCl.1
  have hsC := num_size C hCl.1
  have hsn := num_size n hn5
  show Calls Tryd.prog 77 #[.agg (n.map nv).toArray] w _
  rw [← hA]
  have HW1 := hide hW1
  have HW2 := hide hW2
  have HW3 := hide hW3
  have HW4 := hide hW4
  have HN1 := hide hN1'
  have HM2 := hide hM2
  have HM4 := hide hM4
  have HN4 := hide hN4
  have HR4 := hide hR4
  have HIA := hide hiA
  have HSA := hide hsA
  have HONE := hide hone
  have HIM := hide hiM
  have HICM := hide hiCM
  have HSCM := hide hsCM
  have HIY := hide hiY
  have HSY := hide hsY
  have HIC := hide hiC
  have HSC := hide hsC
  have HSN := hide hsn
  have HCL := hide hCl
  have HCV := hide hCv
  have HX := hide hx
  have HN5 := hide hn5
  have HY := hide hY
  have HZ := hide hZ
  clear hlv hn5 hlt hA hZ hx hx9 hM hMl hMb ho hob hY hYl hYb hC hCl hCv hCM hCMl e1 hW1 hN1 hR1 hW2 hM2 hW3 hM3 hW4 hM4 hN4 hR4 hN1' hsA hiA hone hiM hiCM hsCM hiY hsY hiC hsC hsn hn hg1
  go_enter Tryd.func77, Tryd.ntmps77
  go_wp2_with (first
    | (rw [← unhide HW1]; refine wpList_load_row rfl 132 _ rfl w.heap.size rfl _ _ _ _ (unhide HN1) Tryd.underlying132 rfl ?_ ?_; (exact unhide HIA))
    | (rw [← unhide HW2]; refine wpList_store_row rfl 132 _ _ rfl (w.heap.size + 2) _ rfl rfl _ _ (unhide HM2) ?_ ?_ ?_ ?_; (exact unhide HIA); (rw [unhide HSA]; rfl); (exact unhide HONE); rw [← unhide HW3])
    | (rw [← unhide HW4]; refine wpList_load_row rfl 132 _ rfl (w.heap.size + 2) rfl _ _ _ _ (unhide HM4) Tryd.underlying132 rfl ?_ ?_; (exact unhide HIM); clear hf3 hc3)
    | (go_at_call 76; refine (hc1 _).mono ?_; rintro e w5 ⟨rfl, g5⟩; clear hc1; obtain ⟨W6, hW6⟩ : ∃ W6, W6 = w5.alloc (.cells Z 132) := ⟨_, rfl⟩; have HW6 := hide hW6; clear hW6)
    | (rw [← unhide HW6]; refine wpList_store_row rfl 132 _ _ rfl w5.heap.size _ rfl rfl _ _ (by rw [unhide HW6]; exact heap_alloc_new _ _) ?_ ?_ ?_ ?_; (exact unhide HICM); (rw [unhide HSCM, unhide HZ]; rfl); (exact all_oneCell_toArray (nv_one _)); obtain ⟨W7, hW7, hN7, hR7, hg7⟩ : ∃ W7, W7 = W6.setRow w5.heap.size (CM.map nv).toArray ∧ Blk W7 w.heap.size 132 (n.map nv) ∧ Blk W7 (w.heap.size + 1) 132 (zero5L.map nv) ∧ w.grownBy W7 none := step6 (unhide HW6) g5 (unhide HN4) (unhide HR4) hg4; rw [← hW7]; obtain ⟨W8, hW8, hN8, hR8, hg8, hc7, hf7⟩ : ∃ W8, W8 = W7.setCell ⟨w.heap.size, 0, none⟩ (.int .u64 ((x : Int) + 5 * (o : Int))) ∧ Blk W8 w.heap.size 132 (Y.map nv) ∧ Blk W8 (w.heap.size + 1) 132 (zero5L.map nv) ∧ w.grownBy W8 none ∧ W7.cell? ⟨w.heap.size, 0, none⟩ = some (.int .u64 (x : Int)) ∧ W7.frozen? ⟨w.heap.size, 0, none⟩ = false := step8 (unhide HX) (unhide HY) (unhide HN5) hN7 hR7 hg7; have HW8 := hide hW8; have HN8 := hide hN8; have HR8 := hide hR8; clear hW7 hN7 hR7 hg7 hW8 hN8 hR8)
    | (rw [← unhide HW8]; refine wpList_load_row rfl 132 _ rfl w.heap.size rfl _ _ _ _ (unhide HN8) Tryd.underlying132 rfl ?_ ?_; (exact unhide HIY))
    | (go_at_call 76; refine (hc2 _).mono ?_; rintro e w9 ⟨rfl, g9⟩; clear hc2; have hN9 := (unhide HN8).kept g9 (by simp); have hR9 := (unhide HR8).kept g9 (by simp); have hN10 := hN9.row (C.map nv); have hR10 := hR9.row_other w.heap.size (C.map nv).toArray (by omega); have HN9 := hide hN9; have HN10 := hide hN10; have HR10 := hide hR10; clear hN9 hR9 hN10 hR10)
    | (refine wpList_store_row rfl 132 _ _ rfl w.heap.size _ rfl rfl _ _ (unhide HN9) ?_ ?_ ?_ ?_; (exact unhide HIC); (rw [unhide HSC, unhide HSY]); (exact all_oneCell_toArray (nv_one _)); clear HN9)
    | (refine wpList_load_row rfl 132 _ rfl w.heap.size rfl _ _ _ _ (unhide HN10) Tryd.underlying132 rfl ?_ ?_; (exact unhide HIC))
    | (refine wpList_store_row rfl 132 _ _ rfl (w.heap.size + 1) _ rfl rfl _ _ (unhide HR10) ?_ ?_ ?_ ?_; (exact unhide HIC); (rw [unhide HSC]; rfl); (exact all_oneCell_toArray (nv_one _))))
  have hS := (unhide HR10).row (C.map nv)
  refine bodyPost_ret (v := num C) (results_cell_row (g := w.heap.size + 1) rfl _ _ _ _ _ _ ?_ hS Tryd.underlying132 rfl (unhide HIC)) rfl ⟨C, unhide HCL, unhide HCV, rfl, ?_⟩
  · rfl
  · exact gb_row (gb_row (gb_trans hg8 g9 (fun _ e => by cases e)) _ (Or.inl (Nat.le_refl _))) _ (Or.inl (by omega))
end Go.Proofs.YtjckdgapefaokaaDoor
