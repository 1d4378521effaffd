/- What the document's answer for layer 5 (package coffretref05) clamps (Clamp): sixteen bytes, with the bits of r that are let be. No condition but that they are sixteen. -/
import Derived.Test.YtjckdgapefaokaaDoorKEqual
import Derived.Test.YtjckdgapefaokaaDoorPLimb
namespace Go.Proofs.YtjckdgapefaokaaDoor
open Go.RowKit

/-- One more place of a row that is gone over place by place. -/
theorem mapIdx_set (l : List UInt8) (f g : Nat → UInt8 → UInt8) (q : Nat) (hq : q < l.length) (h : ∀ i x, i ≠ q → f i x = g i x) : (l.mapIdx f).set q (g q l[q]) = l.mapIdx g := by
  apply List.ext_getElem
  · simp
  · intro i h1 h2
    simp only [List.getElem_set, List.getElem_mapIdx]
    by_cases e : q = i
    · subst e; simp
    · rw [if_neg e, h i _ (fun x => e x.symm)]
theorem mapIdx_same (l : List UInt8) (f : Nat → UInt8 → UInt8) (h : ∀ i x, f i x = x) : l.mapIdx f = l := by
  apply List.ext_getElem
  · simp
  · intro i h1 h2
    simp [h]
/-- The first r of the bytes 3, 7, 11, 15 are clamped. -/
def topB (r i : Nat) (x : UInt8) : UInt8 := if i % 4 = 3 ∧ i < 3 + 4 * r then x % 16 else x
/-- These, and the first r of the bytes 4, 8, 12. -/
def lowB (r i : Nat) (x : UInt8) : UInt8 := if i % 4 = 3 then x % 16 else if i % 4 = 0 ∧ 0 < i ∧ i < 4 + 4 * r then x / 4 * 4 else x
theorem top_step (l : List UInt8) (r : Nat) (hl : l.length = 16) (hr : r < 4) : (l.mapIdx (topB r)).set (3 + 4 * r) (l.getD (3 + 4 * r) 0 % 16) = l.mapIdx (topB (r + 1)) := by
  rw [show l.getD (3 + 4 * r) 0 = l[3 + 4 * r]'(by omega) by rw [List.getD, List.getElem?_eq_getElem (by omega)]; rfl]
  have := mapIdx_set l (topB r) (topB (r + 1)) (3 + 4 * r) (by omega) (fun i x hi => by
    unfold topB
    by_cases h : i % 4 = 3 ∧ i < 3 + 4 * r
    · rw [if_pos h, if_pos (by omega)]
    · rw [if_neg h, if_neg (by omega)])
  rw [show topB (r + 1) (3 + 4 * r) (l[3 + 4 * r]'(by omega)) = l[3 + 4 * r]'(by omega) % 16 from if_pos (by omega)] at this
  exact this
theorem top_at (l : List UInt8) (r : Nat) (hl : l.length = 16) (hr : r < 4) : (l.mapIdx (topB r))[3 + 4 * r]'(by simp; omega) = l.getD (3 + 4 * r) 0 := by
  rw [List.getElem_mapIdx, List.getD, List.getElem?_eq_getElem (by omega)]
  exact if_neg (by omega)
theorem top_end (l : List UInt8) (hl : l.length = 16) : l.mapIdx (topB 4) = l.mapIdx (lowB 0) := by
  apply List.ext_getElem
  · simp
  · intro i h1 h2
    rw [List.getElem_mapIdx, List.getElem_mapIdx]
    have : i < 16 := by simpa [hl] using h1
    unfold topB lowB
    by_cases h : i % 4 = 3
    · rw [if_pos (by omega), if_pos h]
    · rw [if_neg (by omega), if_neg h, if_neg (by omega)]
theorem low_step (l : List UInt8) (r : Nat) (hl : l.length = 16) (hr : r < 3) : (l.mapIdx (lowB r)).set (4 + 4 * r) (l.getD (4 + 4 * r) 0 / 4 * 4) = l.mapIdx (lowB (r + 1)) := by
  rw [show l.getD (4 + 4 * r) 0 = l[4 + 4 * r]'(by omega) by rw [List.getD, List.getElem?_eq_getElem (by omega)]; rfl]
  have := mapIdx_set l (lowB r) (lowB (r + 1)) (4 + 4 * r) (by omega) (fun i x hi => by
    unfold lowB
    by_cases h3 : i % 4 = 3
    · rw [if_pos h3, if_pos h3]
    · rw [if_neg h3, if_neg h3]
      by_cases h : i % 4 = 0 ∧ 0 < i ∧ i < 4 + 4 * r
      · rw [if_pos h, if_pos (by omega)]
      · rw [if_neg h, if_neg (by omega)])
  rw [show lowB (r + 1) (4 + 4 * r) (l[4 + 4 * r]'(by omega)) = l[4 + 4 * r]'(by omega) / 4 * 4 by
    unfold lowB; rw [if_neg (by omega), if_pos (by omega)]] at this
  exact this
theorem low_at (l : List UInt8) (r : Nat) (hl : l.length = 16) (hr : r < 3) : (l.mapIdx (lowB r))[4 + 4 * r]'(by simp; omega) = l.getD (4 + 4 * r) 0 := by
  rw [List.getElem_mapIdx, List.getD, List.getElem?_eq_getElem (by omega)]
  unfold lowB
  rw [if_neg (by omega), if_neg (by omega)]
  rfl
theorem low_end (l : List UInt8) (hl : l.length = 16) : l.mapIdx (lowB 3) = clampL l := by
  apply List.ext_getElem
  · simp [clampL]
  · intro i h1 h2
    simp only [clampL, List.getElem_mapIdx]
    have : i < 16 := by simpa [hl] using h1
    unfold lowB clampB
    by_cases h : i % 4 = 3
    · rw [if_pos h, if_pos h]
    · rw [if_neg h, if_neg h]
      by_cases h2 : i % 4 = 0 ∧ 0 < i
      · rw [if_pos (by omega), if_pos h2]
      · rw [if_neg (by omega), if_neg h2]
theorem top_zero (l : List UInt8) : l.mapIdx (topB 0) = l := mapIdx_same l _ (fun i x => if_neg (by omega))

theorem zero16b (w : World) : (zeroValue 93).run Tryd.prog w = .ok (.agg ((List.replicate 16 (0 : UInt8)).map bv).toArray) w := by kernel_rfl
theorem b8_mod16 (x : UInt8) : ((x % 16).toNat : Nat) = x.toNat % 16 := by simp
theorem b8_low4 (x : UInt8) : ((x / 4 * 4).toNat : Nat) = x.toNat / 4 * 4 := by
  have := x.toNat_lt
  rw [UInt8.toNat_mul, UInt8.toNat_div]
  simp
  omega

set_option maxRecDepth 100000 in
set_option maxHeartbeats 4000000 in
theorem rclamp_any (w : World) (l : List UInt8) (hl : l.length = 16) :
    Calls Tryd.prog 85 #[.agg (l.map bv).toArray] w fun e w' => e = .returned (.agg ((clampL l).map bv).toArray) ∧ w.grownBy w' none := by
  have hi16 : (Tryd.prog.info? 93).map (·.size) = some 16 := by kernel_rfl
  obtain ⟨A, hA⟩ : ∃ A : Array Value, A = (l.map bv).toArray := ⟨_, rfl⟩
  obtain ⟨Z, hZ⟩ : ∃ A : Array Value, A = ((List.replicate 16 (0 : UInt8)).map bv).toArray := ⟨_, rfl⟩
  have hz := zero16b
  rw [← hZ] at hz
  obtain ⟨W1, hW1⟩ : ∃ W1, W1 = (w.alloc (.cells A 93)).alloc (.cells Z 93) := ⟨_, rfl⟩
  have hg : w.grownBy W1 none := by rw [hW1]; exact gb_alloc (gb_alloc (gb_refl _ _) _) _
  have hB1 : Blk W1 w.heap.size 93 ((l.mapIdx (topB 0)).map bv) := by rw [hW1, hA, top_zero]; exact (Blk.new w 93 _).alloc _
  have hR1 : Blk W1 (w.heap.size + 1) 93 ((List.replicate 16 (0 : UInt8)).map bv) := by
    have := Blk.new (w.alloc (.cells A 93)) 93 ((List.replicate 16 (0 : UInt8)).map bv)
    rw [World.size_alloc] at this
    rw [hW1, hZ]; exact this
  rw [← hA]
  have hAs : A.size = 16 := by rw [hA]; simp [hl]
  have HL := hide hl
  have HA := hide hA
  have HZ := hide hZ
  have HW1 := hide hW1
  have HB := hide hB1
  have HR := hide hR1
  have HAS := hide hAs
  clear hl hA hZ hW1 hB1 hR1 hAs
  go_enter Tryd.func85, Tryd.ntmps85
  go_wp2
  rw [← unhide HW1]
  go_loopw [3] (fun i wr => ∃ r : Nat, r ≤ 4 ∧ i = .int .i64 ((3 + 4 * r : Nat) : Int) ∧ Blk wr w.heap.size 93 ((l.mapIdx (topB r)).map bv) ∧ Blk wr (w.heap.size + 1) 93 ((List.replicate 16 (0 : UInt8)).map bv) ∧ w.grownBy wr none) (fun i _ => 20 - (intOf i).toNat)
  case atStart => exact ⟨0, Nat.zero_le _, rfl, unhide HB, unhide HR, hg⟩
  case round =>
    clear HB HR hg HW1
    obtain ⟨r, hr, rfl, hB, hR, hg⟩ := hrel
    by_cases hlt : r < 4
    · obtain ⟨q, hq⟩ : ∃ q : Nat, q = 3 + 4 * r := ⟨_, rfl⟩
      rw [← hq]
      have hq1 : (q : Int) < 16 := by omega
      have hq0 : (0 : Int) ≤ (q : Int) := by omega
      have hl := unhide HL
      obtain ⟨x, hx⟩ : ∃ x, x = l.getD (3 + 4 * r) 0 := ⟨_, rfl⟩
      have hc : wr.cell? ⟨w.heap.size, q, none⟩ = some (.int .u8 ((x.toNat : Nat) : Int)) := by
        rw [hB.cell, hq, List.getElem?_map, List.getElem?_eq_getElem (by simp; omega), top_at l r hl hlt, hx]; rfl
      have hf : wr.frozen? ⟨w.heap.size, q, none⟩ = false := hB.fz _
      obtain ⟨y, hy⟩ : ∃ y, y = x % 16 := ⟨_, rfl⟩
      obtain ⟨xn, hxn⟩ : ∃ n : Nat, n = x.toNat := ⟨_, rfl⟩
      obtain ⟨yn, hyn⟩ : ∃ n : Nat, n = y.toNat := ⟨_, rfl⟩
      have hyx : yn = xn % 16 := by rw [hyn, hy, b8_mod16, hxn]
      have hy8 : yn < 256 := by omega
      have n1 : Int.tmod (xn : Int) 16 = (yn : Int) := by rw [Int.tmod_eq_emod_of_nonneg (by omega)]; omega
      have n2 : (xn : Int) % 16 = (yn : Int) := by omega
      have n3 : IntKind.u8.wrap (yn : Int) = (yn : Int) := by rw [IntKind.wrap_u8]; omega
      rw [← hxn] at hc
      have HB := hide hB
      have HR := hide hR
      have HX := hide hx
      have HY := hide hy
      have HYN := hide hyn
      have HQ := hide hq
      clear hB hR hx hy hyn hxn hyx hy8 hl hq
      go_wp2
      go_roundw
      case rel =>
        have hS := (unhide HB).set q (bv y)
        have hS2 : Blk (wr.setCell ⟨w.heap.size, q, none⟩ (bv y)) w.heap.size 93 ((l.mapIdx (topB (r + 1))).map bv) := by
          rw [← top_step l r (unhide HL) hlt, List.map_set, ← unhide HX, ← unhide HY, ← unhide HQ]; exact hS
        rw [show bv y = .int .u8 (yn : Int) by rw [unhide HYN]; rfl] at hS2
        exact ⟨r + 1, by omega, by rw [unhide HQ]; go_num, hS2, (unhide HR).other _ _ (by simp), gb_setCell hg _ _ (Or.inl (by simp))⟩
      case measure => have := unhide HQ; simp [intOf]; omega
    · obtain rfl : r = 4 := by omega
      rw [show ((3 + 4 * 4 : Nat) : Int) = 19 from rfl]
      rw [top_end l (unhide HL)] at hB
      have HB := hide hB
      have HR := hide hR
      clear hB hR
      go_wp2
      go_loopw [4] (fun i wr => ∃ r : Nat, r ≤ 3 ∧ i = .int .i64 ((4 + 4 * r : Nat) : Int) ∧ Blk wr w.heap.size 93 ((l.mapIdx (lowB r)).map bv) ∧ Blk wr (w.heap.size + 1) 93 ((List.replicate 16 (0 : UInt8)).map bv) ∧ w.grownBy wr none) (fun i _ => 20 - (intOf i).toNat)
      case atStart => exact ⟨0, Nat.zero_le _, rfl, unhide HB, unhide HR, hg⟩
      case round =>
        clear HB HR hg
        obtain ⟨r, hr, rfl, hB, hR, hg⟩ := hrel
        by_cases hlt : r < 3
        · obtain ⟨q, hq⟩ : ∃ q : Nat, q = 4 + 4 * r := ⟨_, rfl⟩
          rw [← hq]
          have hq1 : (q : Int) < 16 := by omega
          have hq0 : (0 : Int) ≤ (q : Int) := by omega
          have hl := unhide HL
          obtain ⟨x, hx⟩ : ∃ x, x = l.getD (4 + 4 * r) 0 := ⟨_, rfl⟩
          have hc : wr.cell? ⟨w.heap.size, q, none⟩ = some (.int .u8 ((x.toNat : Nat) : Int)) := by
            rw [hB.cell, hq, List.getElem?_map, List.getElem?_eq_getElem (by simp; omega), low_at l r hl hlt, hx]; rfl
          have hf : wr.frozen? ⟨w.heap.size, q, none⟩ = false := hB.fz _
          obtain ⟨y, hy⟩ : ∃ y, y = x / 4 * 4 := ⟨_, rfl⟩
          obtain ⟨xn, hxn⟩ : ∃ n : Nat, n = x.toNat := ⟨_, rfl⟩
          obtain ⟨yn, hyn⟩ : ∃ n : Nat, n = y.toNat := ⟨_, rfl⟩
          obtain ⟨mn, hmn⟩ : ∃ n : Nat, n = xn / 4 := ⟨_, rfl⟩
          have hyx : yn = mn * 4 := by rw [hyn, hy, b8_low4, hmn, hxn]
          have hx8 : xn < 256 := by rw [hxn]; exact x.toNat_lt
          have hy8 : yn < 256 := by omega
          have n1 : Int.tdiv (xn : Int) 4 = (mn : Int) := by rw [Int.tdiv_eq_ediv_of_nonneg (by omega)]; omega
          have n2 : (xn : Int) / 4 = (mn : Int) := by omega
          have n3 : IntKind.u8.wrap (mn : Int) = (mn : Int) := by rw [IntKind.wrap_u8]; omega
          have n4 : IntKind.u8.wrap ((mn : Int) * 4) = (yn : Int) := by rw [IntKind.wrap_u8]; omega
          have n5 : (mn : Int) * 4 % 256 = (yn : Int) := by omega
          rw [← hxn] at hc
          have HB := hide hB
          have HR := hide hR
          have HX := hide hx
          have HY := hide hy
          have HYN := hide hyn
          have HQ := hide hq
          clear hB hR hx hy hyn hxn hyx hy8 hx8 hmn hl hq
          go_wp2
          go_roundw
          case rel =>
            have hS := (unhide HB).set q (bv y)
            have hS2 : Blk (wr.setCell ⟨w.heap.size, q, none⟩ (bv y)) w.heap.size 93 ((l.mapIdx (lowB (r + 1))).map bv) := by
              rw [← low_step l r (unhide HL) hlt, List.map_set, ← unhide HX, ← unhide HY, ← unhide HQ]; exact hS
            rw [show bv y = .int .u8 (yn : Int) by rw [unhide HYN]; rfl] at hS2
            exact ⟨r + 1, by omega, by rw [unhide HQ]; go_num, hS2, (unhide HR).other _ _ (by simp), gb_setCell hg _ _ (Or.inl (by simp))⟩
          case measure => have := unhide HQ; simp [intOf]; omega
        · obtain rfl : r = 3 := by omega
          rw [show ((4 + 4 * 3 : Nat) : Int) = 16 from rfl]
          rw [low_end l (unhide HL)] at hB
          obtain ⟨C, hC⟩ : ∃ C, C = clampL l := ⟨_, rfl⟩
          rw [← hC] at hB
          have hCl : ((C.map bv).toArray).size = 16 := by rw [hC]; simp [clampL, unhide HL]
          obtain ⟨W5, hW5⟩ : ∃ W5, W5 = wr.setRow (w.heap.size + 1) (C.map bv).toArray := ⟨_, rfl⟩
          have hS : Blk W5 (w.heap.size + 1) 93 (C.map bv) := by rw [hW5]; exact hR.row _
          have hG : w.grownBy W5 none := by rw [hW5]; exact gb_row hg _ (Or.inl (by omega))
          have HB := hide hB
          have HR := hide hR
          have HSZ := hide hCl
          have HW5 := hide hW5
          have HS := hide hS
          have HC := hide hC
          clear hB hR hCl hW5 hS hC
          go_wp2_with (first
            | (refine wpList_load_row rfl 93 _ rfl w.heap.size rfl _ _ _ _ (unhide HB) Tryd.underlying93 rfl ?_ ?_; (rw [unhide HSZ]; exact hi16))
            | (refine wpList_store_row rfl 93 _ _ rfl (w.heap.size + 1) _ rfl rfl _ _ (unhide HR) ?_ ?_ ?_ ?_; (rw [unhide HSZ]; exact hi16); (rw [unhide HSZ]; rfl); (exact all_oneCell_toArray (bv_one _)); rw [← unhide HW5]))
          have hS := unhide HS
          have hsz := unhide HSZ
          rw [unhide HC] at hS hsz
          refine bodyPost_ret (v := .agg ((clampL l).map bv).toArray) (results_cell_row (g := w.heap.size + 1) rfl _ _ _ _ _ _ ?_ hS Tryd.underlying93 rfl ?_) rfl ⟨rfl, hG⟩
          · rfl
          · rw [hsz]; exact hi16

end Go.Proofs.YtjckdgapefaokaaDoor
