/- What poly's Clamp and clamped answer: sixteen bytes with the bits of r that are let be, and their number. No condition but that they are sixteen. -/
import Derived.Test.YtjckdgapefaokaaDoorPNumB
import Derived.Test.YtjckdgapefaokaaDoorPNumD
import Derived.Test.YtjckdgapefaokaaDoorKEqual
namespace Go.Proofs.YtjckdgapefaokaaDoor
open Go.RowKit

theorem and15 (x : Nat) (h : x < 256) : bits .and .u8 (x : Int) 15 = ((x % 16 : Nat) : Int) := by
  have : ∀ k : Fin 256, bits .and .u8 (k.val : Int) 15 = ((k.val % 16 : Nat) : Int) := by decide +kernel
  exact this ⟨x, h⟩
theorem and252 (x : Nat) (h : x < 256) : bits .and .u8 (x : Int) 252 = ((x / 4 * 4 : Nat) : Int) := by
  have : ∀ k : Fin 256, bits .and .u8 (k.val : Int) 252 = ((k.val / 4 * 4 : Nat) : Int) := by decide +kernel
  exact this ⟨x, h⟩
def clamF (l : List UInt8) (i : Nat) : UInt8 := clampB i (l.getD i 0)
theorem clam_all (l : List UInt8) (h : l.length = 16) : (List.range 16).map (clamF l) = clampL l := by
  apply List.ext_getElem
  · simp [clampL, h]
  · intro i h1 h2
    have hi : i < l.length := by simpa [clampL] using h2
    simp [clampL, clamF, List.getD, hi]
theorem clam_none (l : List UInt8) (h : l.length = 16) : (List.range 16).map (fun i => l.getD i 0) = l := by
  apply List.ext_getElem
  · simp [h]
  · intro i h1 h2
    simp [List.getD, h2]

set_option maxRecDepth 100000 in
set_option maxHeartbeats 2000000 in
theorem pclamp_any (w : World) (l : List UInt8) (hl : l.length = 16) :
    Calls Tryd.prog 97 #[.agg (l.map bv).toArray] w fun e w' => e = .returned (.agg ((clampL l).map bv).toArray) ∧ w.grownBy w' none := by
  have hi16 : (Tryd.prog.info? 93).map (·.size) = some 16 := by kernel_rfl
  obtain ⟨A, hA⟩ : ∃ A : Array Value, A = (l.map bv).toArray := ⟨_, rfl⟩
  obtain ⟨Z, hZ⟩ : ∃ A : Array Value, A = (zero16L.map bv).toArray := ⟨_, rfl⟩
  have hz : ∀ w : World, (zeroValue 93).run Tryd.prog w = .ok (.agg Z) w := by rw [hZ]; exact zero16b
  obtain ⟨W1, hW1⟩ : ∃ W1, W1 = (w.alloc (.cells A 93)).alloc (.cells Z 93) := ⟨_, rfl⟩
  have hg : w.grownBy W1 none := by rw [hW1]; exact gb_alloc (gb_alloc (gb_refl _ _) _) _
  have hB1 : Blk W1 w.heap.size 93 ((stepL 16 0 (clamF l) (fun i => l.getD i 0)).map bv) := by
    rw [hW1, hA, stepL_none, clam_none l hl]; exact (Blk.new w 93 _).alloc _
  have hR1 : Blk W1 (w.heap.size + 1) 93 (zero16L.map bv) := by
    have := Blk.new (w.alloc (.cells A 93)) 93 (zero16L.map bv)
    rw [World.size_alloc, ← hZ] at this
    rw [hW1]; exact this
  rw [← hA]
  have HL := hide hl
  have HW1 := hide hW1
  have HB1 := hide hB1
  have HR1 := hide hR1
  clear hl hA hZ hW1 hB1 hR1
  go_enter Tryd.func97, Tryd.ntmps97
  go_wp2
  rw [← unhide HW1]
  go_loopw [4] (fun i wr => ∃ k : Nat, k ≤ 16 ∧ i = .int .i64 (k : Int) ∧ Blk wr w.heap.size 93 ((stepL 16 k (clamF l) (fun i => l.getD i 0)).map bv) ∧ Blk wr (w.heap.size + 1) 93 (zero16L.map bv) ∧ w.grownBy wr none) (fun i _ => 16 - (intOf i).toNat)
  case atStart => exact ⟨0, Nat.zero_le _, rfl, unhide HB1, unhide HR1, hg⟩
  case round =>
    clear HB1 HR1 hg HW1
    obtain ⟨k, hk, rfl, hB, hR, hg⟩ := hrel
    by_cases hlt : k < 16
    · obtain ⟨x, hx⟩ : ∃ x, x = (l.getD k 0).toNat := ⟨_, rfl⟩
      have hx8 : x < 256 := by rw [hx]; exact UInt8.toNat_lt _
      have hcb : wr.cell? ⟨w.heap.size, k, none⟩ = some (.int .u8 (x : Int)) := by
        rw [hB.cell, List.getElem?_map, stepL_at _ _ _ _ _ hlt, if_neg (by omega), hx]; rfl
      have hfb := hB.fz k
      have a15 := and15 x hx8
      have a252 := and252 x hx8
      obtain ⟨y, hy⟩ : ∃ y, y = (clamF l k).toNat := ⟨_, rfl⟩
      have hB2 : Blk (wr.setCell ⟨w.heap.size, k, none⟩ (.int .u8 (y : Int))) w.heap.size 93 ((stepL 16 (k + 1) (clamF l) (fun i => l.getD i 0)).map bv) := by
        rw [← stepL_set, List.map_set, hy]; exact hB.set k (bv (clamF l k))
      have hR2 : Blk (wr.setCell ⟨w.heap.size, k, none⟩ (.int .u8 (y : Int))) (w.heap.size + 1) 93 (zero16L.map bv) := hR.other _ _ (by simp)
      have hG2 : w.grownBy (wr.setCell ⟨w.heap.size, k, none⟩ (.int .u8 (y : Int))) none := gb_setCell hg _ _ (Or.inl (by simp))
      have HY := hide hy
      have HX := hide hx
      have HB2 := hide hB2
      have HR2 := hide hR2
      have HG2 := hide hG2
      clear hy hx hB2 hR2 hG2
      by_cases h3 : k % 4 = 3
      · have hyx : y = x % 16 := by
          rw [unhide HY, clamF, clampB, if_pos h3, b8_mod16, ← unhide HX]
        rw [← hyx] at a15
        clear hB hR hyx a252
        rcases (show k = 3 ∨ k = 7 ∨ k = 11 ∨ k = 15 by omega) with rfl | rfl | rfl | rfl
        · rw [show ((3 : Nat) : Int) = 3 from rfl]
          clear h3
          go_wp2
          go_roundw
          case rel => exact ⟨3 + 1, by omega, by go_num, unhide HB2, unhide HR2, unhide HG2⟩
          case measure => simp [intOf]
        · rw [show ((7 : Nat) : Int) = 7 from rfl]
          clear h3
          go_wp2
          go_roundw
          case rel => exact ⟨7 + 1, by omega, by go_num, unhide HB2, unhide HR2, unhide HG2⟩
          case measure => simp [intOf]
        · rw [show ((11 : Nat) : Int) = 11 from rfl]
          clear h3
          go_wp2
          go_roundw
          case rel => exact ⟨11 + 1, by omega, by go_num, unhide HB2, unhide HR2, unhide HG2⟩
          case measure => simp [intOf]
        · rw [show ((15 : Nat) : Int) = 15 from rfl]
          clear h3
          go_wp2
          go_roundw
          case rel => exact ⟨15 + 1, by omega, by go_num, unhide HB2, unhide HR2, unhide HG2⟩
          case measure => simp [intOf]
      · by_cases h0 : k % 4 = 0 ∧ 0 < k
        · have hyx : y = x / 4 * 4 := by
            rw [unhide HY, clamF, clampB, if_neg h3, if_pos h0, b8_low4, ← unhide HX]
          rw [← hyx] at a252
          clear hB hR hyx a15
          rcases (show k = 4 ∨ k = 8 ∨ k = 12 by omega) with rfl | rfl | rfl
          · rw [show ((4 : Nat) : Int) = 4 from rfl]
            clear h3
            go_wp2
            go_roundw
            case rel => exact ⟨4 + 1, by omega, by go_num, unhide HB2, unhide HR2, unhide HG2⟩
            case measure => simp [intOf]
          · rw [show ((8 : Nat) : Int) = 8 from rfl]
            clear h3
            go_wp2
            go_roundw
            case rel => exact ⟨8 + 1, by omega, by go_num, unhide HB2, unhide HR2, unhide HG2⟩
            case measure => simp [intOf]
          · rw [show ((12 : Nat) : Int) = 12 from rfl]
            clear h3
            go_wp2
            go_roundw
            case rel => exact ⟨12 + 1, by omega, by go_num, unhide HB2, unhide HR2, unhide HG2⟩
            case measure => simp [intOf]
        · have hyx : clamF l k = l.getD k 0 := by rw [clamF, clampB, if_neg h3, if_neg h0]
          have hB3 : Blk wr w.heap.size 93 ((stepL 16 (k + 1) (clamF l) (fun i => l.getD i 0)).map bv) := by
            have e : stepL 16 (k + 1) (clamF l) (fun i => l.getD i 0) = stepL 16 k (clamF l) (fun i => l.getD i 0) := by
              rw [← stepL_set]
              apply List.ext_getElem
              · simp
              · intro i h1 h2
                rw [List.getElem_set]
                by_cases e : k = i
                · subst e; rw [if_pos rfl, hyx]; simp [stepL]
                · rw [if_neg e]
            rw [e]; exact hB
          have n1 : ¬ (k : Int) = 3 := by omega
          have n2 : ¬ (k : Int) = 7 := by omega
          have n3 : ¬ (k : Int) = 11 := by omega
          have n4 : ¬ (k : Int) = 15 := by omega
          have n5 : ¬ (k : Int) = 4 := by omega
          have n6 : ¬ (k : Int) = 8 := by omega
          have n7 : ¬ (k : Int) = 12 := by omega
          have k0 : (0 : Int) ≤ (k : Int) := by omega
          have k1 : (k : Int) < 16 := by omega
          have HB3 := hide hB3
          have HR := hide hR
          clear hB hB3 hR hyx a15 a252 HB2 HR2 HG2 hcb hfb h3 h0 HX HY hx8
          go_wp2
          go_roundw
          case rel => exact ⟨k + 1, by omega, by go_num, unhide HB3, unhide HR, hg⟩
          case measure => simp [intOf]; omega
    · obtain rfl : k = 16 := by omega
      rw [stepL_all, clam_all l (unhide HL)] at hB
      rw [show ((16 : Nat) : Int) = 16 from rfl]
      obtain ⟨C, hC⟩ : ∃ C, C = clampL l := ⟨_, rfl⟩
      rw [← hC] at hB
      have hsz : ((C.map bv).toArray).size = 16 := by rw [hC]; simp [clampL_length, unhide HL]
      have hS := hR.row (C.map bv)
      have hG : w.grownBy (wr.setRow (w.heap.size + 1) (C.map bv).toArray) none := gb_row hg _ (Or.inl (by omega))
      have HB := hide hB
      have HR := hide hR
      have HSZ := hide hsz
      have HC := hide hC
      have HS := hide hS
      have HG := hide hG
      clear hB hR hsz hC hS hG
      go_wp2_with (first
        | (refine wpList_load_row rfl 93 _ rfl w.heap.size rfl _ _ _ _ (unhide HB) Tryd.underlying93 rfl ?_ ?_; (rw [unhide HSZ]; exact hi16))
        | (refine wpList_store_row rfl 93 _ _ rfl (w.heap.size + 1) _ rfl rfl _ _ (unhide HR) ?_ ?_ ?_ ?_; (rw [unhide HSZ]; exact hi16); (rw [unhide HSZ]; rfl); (exact all_oneCell_toArray (bv_one _))))
      refine bodyPost_ret (v := .agg (C.map bv).toArray) (results_cell_row (g := w.heap.size + 1) rfl _ _ _ _ _ _ ?_ (unhide HS) Tryd.underlying93 rfl ?_) rfl ⟨by rw [unhide HC], unhide HG⟩
      · rfl
      · rw [unhide HSZ]; exact hi16
end Go.Proofs.YtjckdgapefaokaaDoor

/- What poly's clamped answers: the clamped bytes' number, in limbs. No condition but that the bytes are sixteen. -/
namespace Go.Proofs.YtjckdgapefaokaaDoor
open Go.RowKit

theorem leN_lt16 (l : List UInt8) (h : l.length ≤ 16) : leN l < t130 := by
  have h1 := leN_lt l
  have h2 : (256 : Nat) ^ l.length ≤ 256 ^ 16 := Nat.pow_le_pow_right (by omega) h
  have h3 : (256 : Nat) ^ 16 < t130 := by decide
  omega

theorem step_new {w W1 w2 W3 : World} {z : List Value} {Y : Array Value} {C : List UInt8} (h3 : W3 = w2.alloc (.cells Y 93)) (hY : Y = (zero16L.map bv).toArray) (g2 : W1.grownBy w2 none) (hR : Blk W1 (w.heap.size + 1) 132 z) (hg : w.grownBy W1 none) :
    ∃ W4, W4 = W3.setRow w2.heap.size (C.map bv).toArray ∧ Blk W4 w2.heap.size 93 (C.map bv) ∧ Blk W4 (w.heap.size + 1) 132 z ∧ w.grownBy W4 none := by
  have h2 := hR.kept g2 (by simp)
  have l2 := h2.lt
  have hn : Blk W3 w2.heap.size 93 (zero16L.map bv) := by rw [h3, hY]; exact Blk.new w2 _ _
  subst h3
  exact ⟨_, rfl, hn.row _, (h2.alloc _).row_other _ _ (by omega), gb_row (gb_alloc (gb_trans hg g2 (fun _ e => by cases e)) _) _ (Or.inl (by omega))⟩

set_option maxRecDepth 100000 in
set_option maxHeartbeats 1000000 in
theorem clamped_any (w : World) (l : List UInt8) (hl : l.length = 16) :
    Calls Tryd.prog 72 #[.agg (l.map bv).toArray] w fun e w' => ∃ n, Lim n ∧ v26 n = leN (clampL l) ∧ e = .returned (num n) ∧ w.grownBy w' none := by
  have hi16 : (Tryd.prog.info? 93).map (·.size) = some 16 := by kernel_rfl
  obtain ⟨A, hA⟩ : ∃ A : Array Value, A = (l.map bv).toArray := ⟨_, rfl⟩
  have hAs : A.size = 16 := by rw [hA]; simp [hl]
  obtain ⟨Z, hZ⟩ : ∃ A : Array Value, A = (zero5L.map nv).toArray := ⟨_, rfl⟩
  have hz := zero5
  rw [← hZ] at hz
  obtain ⟨Y, hY⟩ : ∃ A : Array Value, A = (zero16L.map bv).toArray := ⟨_, rfl⟩
  have hy : ∀ w : World, (zeroValue 93).run Tryd.prog w = .ok (.agg Y) w := by rw [hY]; exact zero16b
  obtain ⟨W1, hW1⟩ : ∃ W1, W1 = (w.alloc (.cells A 93)).alloc (.cells Z 132) := ⟨_, rfl⟩
  have hg : w.grownBy W1 none := by rw [hW1]; exact gb_alloc (gb_alloc (gb_refl _ _) _) _
  have hB1 : W1.heap[w.heap.size]? = some (.cells A 93 (0, 0)) := by
    have := (Blk.new w 93 (l.map bv)).alloc (.cells Z 132)
    rw [hW1, hA]; exact this
  have hR1 : Blk W1 (w.heap.size + 1) 132 (zero5L.map nv) := by
    have := Blk.new (w.alloc (.cells A 93)) 132 (zero5L.map nv)
    rw [World.size_alloc, ← hZ] at this
    rw [hW1]; exact this
  obtain ⟨C, hC⟩ : ∃ C, C = clampL l := ⟨_, rfl⟩
  have hCl : C.length = 16 := by rw [hC, clampL_length, hl]
  have hsC : ((C.map bv).toArray).size = 16 := by simp [hCl]
  have hpc := pclamp_any W1 l hl
  rw [← hA, ← hC] at hpc
  rw [← hA, ← hC]
  have hsl : ∀ (b : Nat) (W : World), (Instr.sliceAt 93 (.pointer (some ⟨b, 0, none⟩)) none none none).run Tryd.prog W = .ok (.slice (some ⟨b, 0, none⟩) 16 16) W := fun b W => slice_whole5 93 5 16 Tryd.underlying93 size_byte b 0 (by omega) W
  have HW1 := hide hW1
  have HB1 := hide hB1
  have HR1 := hide hR1
  have HAS := hide hAs
  have HSC := hide hsC
  have HCL := hide hCl
  have HY := hide hY
  clear hl hA hAs hZ hY hW1 hB1 hR1 hC hCl hsC
  go_enter Tryd.func72, Tryd.ntmps72
  go_wp2_with (first
    | (rw [← unhide HW1]; refine wpList_load_row rfl 93 _ rfl w.heap.size rfl _ _ _ _ (unhide HB1) Tryd.underlying93 rfl ?_ ?_; (rw [unhide HAS]; exact hi16))
    | (go_at_call 97; refine hpc.mono ?_; rintro e w2 ⟨rfl, g2⟩; clear hpc; obtain ⟨W3, hW3⟩ : ∃ W3, W3 = w2.alloc (.cells Y 93) := ⟨_, rfl⟩; have HW3 := hide hW3; clear hW3)
    | (rw [← unhide HW3]; refine wpList_store_row rfl 93 _ _ rfl w2.heap.size _ rfl rfl _ _ (by rw [unhide HW3]; exact heap_alloc_new _ _) ?_ ?_ ?_ ?_; (rw [unhide HSC]; exact hi16); (rw [unhide HSC, unhide HY]; rfl); (exact all_oneCell_toArray (bv_one _)); obtain ⟨W4, hW4, hC4, hR4, hg4⟩ : ∃ W4, W4 = W3.setRow w2.heap.size (C.map bv).toArray ∧ Blk W4 w2.heap.size 93 (C.map bv) ∧ Blk W4 (w.heap.size + 1) 132 (zero5L.map nv) ∧ w.grownBy W4 none := step_new (unhide HW3) (unhide HY) g2 (unhide HR1) hg; rw [← hW4]; have HR4 := hide hR4; have hnum := numberOf_any W4 (some ⟨w2.heap.size, 0, none⟩) 16 C (blk_bytes hC4 16 (by rw [unhide HCL]; omega) (by decide)) (by rw [unhide HCL]; omega) (leN_lt16 C (by rw [unhide HCL]; omega)); rw [unhide HCL] at hnum; clear hW4 hC4 hR4)
    | (go_at_call 73; refine hnum.mono ?_; rintro e w5 ⟨n, nl, nval, rfl, g5⟩; clear hnum; have hR5 := (unhide HR4).kept g5 (by simp); have hsn := num_size n nl.1; have hin := info5n n nl.1; have HSN := hide hsn; have HIN := hide hin; have HNL := hide nl; have HNV := hide nval; clear hsn hin nl nval; (unfold num))
    | (refine wpList_store_row rfl 132 _ _ rfl (w.heap.size + 1) _ rfl rfl _ _ hR5 ?_ ?_ ?_ ?_; (exact unhide HIN); (rw [unhide HSN]; rfl); (exact all_oneCell_toArray (nv_one _))))
  have hS := hR5.row (n.map nv)
  refine bodyPost_ret (v := num n) (results_cell_row (g := w.heap.size + 1) rfl _ _ _ _ _ _ ?_ hS Tryd.underlying132 rfl (unhide HIN)) rfl ⟨n, unhide HNL, unhide HNV, rfl, ?_⟩
  · rfl
  · exact gb_row (gb_trans hg4 g5 (fun _ e => by cases e)) _ (Or.inl (by omega))

end Go.Proofs.YtjckdgapefaokaaDoor
