/- PolyKeys' walk: whatever the key and the text, the call returns true and nothing that was in memory has changed. -/
import Derived.Test.YtagdileacidnjaaWPSums
namespace Go.Proofs.Ytagdileacidnjaa
open Go.RowKit

set_option maxRecDepth 100000 in
set_option maxHeartbeats 4000000 in
theorem polyKeys_any (w : World) (k : List UInt8) (hk : k.length = 32) (ao : Option Addr) (cap : Nat) (l : List UInt8) (hb : Bts w ao cap l) :
    Calls Try.prog 4 #[.agg (k.map bv).toArray, .slice ao l.length cap] w fun e w' => e = .returned (.bool true) ∧ w.grownBy w' none := by
  have hi16 : (Try.prog.info? 24).map (·.size) = some 16 := by kernel_rfl
  have hi32 : (Try.prog.info? 22).map (·.size) = some 32 := by kernel_rfl
  have tr : ∀ {x y z : World}, x.grownBy y none → y.grownBy z none → x.grownBy z none := fun h k => gb_trans h k (fun _ e => by cases e)
  obtain ⟨l0, hl0⟩ : ∃ l0, l0 = l.take 2000 := ⟨_, rfl⟩
  have hb0 : Bts w ao cap l0 := by
    rw [hl0]
    by_cases hn : 2000 ≤ l.length
    · exact hb.take 2000 hn
    · rw [List.take_of_length_le (by omega)]; exact hb
  obtain ⟨L, hL⟩ : ∃ L, L = l0.length := ⟨_, rfl⟩
  have hL2 : L ≤ 2000 := by rw [hL, hl0]; simp; omega
  obtain ⟨hf, hhf⟩ : ∃ h, h = k.take 16 := ⟨_, rfl⟩
  have hfl : hf.length = 16 := by rw [hhf, List.length_take, hk]; rfl
  obtain ⟨Z, hZ⟩ : ∃ A : Array Value, A = ((List.replicate 16 (0 : UInt8)).map bv).toArray := ⟨_, rfl⟩
  have hz := zero16b
  rw [← hZ] at hz
  obtain ⟨W1, hW1⟩ : ∃ W1, W1 = w.alloc (.cells (k.map bv).toArray 22) := ⟨_, rfl⟩
  have hK1 : Blk W1 w.heap.size 22 (k.map bv) := by rw [hW1]; exact Blk.new w 22 _
  have hrg : (w.alloc (.cells (k.map bv).toArray 22)).rangeAt w.heap.size 0 (hf.map bv) := by rw [← hW1, hhf]; exact blk_head hK1 16
  have hs1 : W1.heap.size = w.heap.size + 1 := by rw [hW1]; simp
  have hN1 : Blk ((w.alloc (.cells (k.map bv).toArray 22)).alloc (.cells Z 24)) (w.heap.size + 1) 24 ((List.replicate 16 (0 : UInt8)).map bv) := by
    have := Blk.new W1 24 ((List.replicate 16 (0 : UInt8)).map bv)
    rw [hs1, ← hZ, hW1] at this
    exact this
  obtain ⟨W2, hW2⟩ : ∃ W2, W2 = ((w.alloc (.cells (k.map bv).toArray 22)).alloc (.cells Z 24)).setRow (w.heap.size + 1) (hf.map bv).toArray := ⟨_, rfl⟩
  have hg2 : w.grownBy W2 none := by rw [hW2]; exact gb_row (gb_alloc (gb_alloc (gb_refl _ _) _) _) _ (Or.inl (by omega))
  have hs2 : W2.heap.size = w.heap.size + 2 := by rw [hW2]; simp
  have hK2 : Blk W2 w.heap.size 22 (k.map bv) := by rw [hW2, ← hW1]; exact (hK1.alloc _).row_other _ _ (by omega)
  have hH2 : Blk W2 (w.heap.size + 1) 24 (hf.map bv) := by rw [hW2]; exact hN1.row _
  obtain ⟨s, hs⟩ : ∃ s, s = k.drop 16 := ⟨_, rfl⟩
  have hsl0 : s.length = 16 := by rw [hs, List.length_drop, hk]
  obtain ⟨Q0, hQ0⟩ : ∃ Q, Q = List.replicate 16 (0 : UInt8) ++ s := ⟨_, rfl⟩
  have hQ0l : Q0.length = 32 := by rw [hQ0, List.length_append, List.length_replicate, hsl0]
  have hQ0g : ∀ q, 16 ≤ q → q < 32 → Q0.getD q 0 = k.getD q 0 := fun q h1 h2 => by
    rw [List.getD, List.getD, hQ0, List.getElem?_append_right (by simpa using h1), hs, List.getElem?_drop]
    simp only [List.length_replicate]
    rw [show 16 + (q - 16) = q by omega]
  obtain ⟨Y, hY⟩ : ∃ A : Array Value, A = ((List.replicate 32 (0 : UInt8)).map bv).toArray := ⟨_, rfl⟩
  have hy := zero32b
  rw [← hY] at hy
  obtain ⟨W3, hW3⟩ : ∃ W3, W3 = W2.alloc (.cells Y 22) := ⟨_, rfl⟩
  have hK3 : Blk W3 w.heap.size 22 (k.map bv) := by rw [hW3]; exact hK2.alloc _
  have hH3 : Blk W3 (w.heap.size + 1) 24 (hf.map bv) := by rw [hW3]; exact hH2.alloc _
  have hZ3 : Blk W3 (w.heap.size + 2) 22 ((Q0.take (16 + 0) ++ List.replicate (32 - (16 + 0)) (0 : UInt8)).map bv) := by
    have e : Q0.take (16 + 0) ++ List.replicate (32 - (16 + 0)) (0 : UInt8) = List.replicate 32 0 := by
      rw [hQ0, List.take_append_of_le_length (by simp), List.take_of_length_le (by simp)]; rfl
    have := Blk.new W2 22 ((List.replicate 32 (0 : UInt8)).map bv)
    rw [hs2, ← hY, ← hW3] at this
    rw [e]; exact this
  have hg3 : w.grownBy W3 none := by rw [hW3]; exact gb_alloc hg2 _
  have hiK : (Try.prog.info? 22).map (·.size) = some (k.map bv).length := by rw [List.length_map, hk]; exact hi32
  have hiH : (Try.prog.info? 24).map (·.size) = some (hf.map bv).length := by rw [List.length_map, hfl]; exact hi16
  have hsh : ((hf.map bv).toArray).size = 16 := by simp [hfl]
  have slT : ∀ W, (Instr.sliceAt 22 (.pointer (some ⟨w.heap.size, 0, none⟩)) none (some (.int .i64 16)) none).run Try.prog W = .ok (.slice (some ⟨w.heap.size, 0, none⟩) 16 32) W := fun W => slice_arr_head 22 5 32 Try.underlying22 size_byte w.heap.size 16 (by omega) (by omega) W
  have hat : ∀ W, (Instr.arrayAt 24 (.slice (some ⟨w.heap.size, 0, none⟩) 16 32)).run Try.prog W = .ok (.pointer (some ⟨w.heap.size, 0, none⟩)) W := fun W => run_arrayAt W 24 5 16 _ 16 32 Try.underlying24 (by omega)
  have slF : ∀ W, (Instr.sliceAt 22 (.pointer (some ⟨w.heap.size, 0, none⟩)) (some (.int .i64 16)) none none).run Try.prog W = .ok (.slice (some ⟨w.heap.size, 16, none⟩) 16 16) W := fun W => slice_arr_tail 22 5 32 Try.underlying22 size_byte w.heap.size 16 (by omega) W
  have hat2 : ∀ W, (Instr.arrayAt 24 (.slice (some ⟨w.heap.size, 16, none⟩) 16 16)).run Try.prog W = .ok (.pointer (some ⟨w.heap.size, 16, none⟩)) W := fun W => run_arrayAt W 24 5 16 _ 16 16 Try.underlying24 (by omega)
  have HS2 := hide hs2
  have HW3 := hide hW3
  have HK3 := hide hK3
  have HH3 := hide hH3
  have HZ3 := hide hZ3
  have HG3 := hide hg3
  have HQ0 := hide hQ0g
  have HQ0L := hide hQ0l
  have HK := hide hk
  have HS := hide hs
  have HSL := hide hsl0
  have HQE := hide hQ0
  have HHF := hide hhf
  have HFL := hide hfl
  have HYE := hide hY
  have HZE := hide hZ
  have HB0 := hide hb0
  clear hs2 hW3 hK3 hH3 hZ3 hg3 hQ0g hQ0l hs hsl0 hQ0 hY
  have HG2 := hide hg2
  have HW2 := hide hW2
  have HN1 := hide hN1
  have HRG := hide hrg
  have HSH := hide hsh
  have hfit := hb.fits
  clear hg2 hW2 hN1 hrg hsh hK1 hW1 hs1 hK2 hH2 hZ hhf hfl hb0 hk
  by_cases hlen : 2000 < l.length
  · have hLe : L = 2000 := by rw [hL, hl0]; simp; omega
    have hsl : ∀ W, (Instr.slice 23 (.slice ao l.length cap) none (some (.int .i64 2000)) none).run Try.prog W = .ok (.slice ao L cap) W := fun W => by
      rw [hLe]; exact slice_to W _ _ Try.underlying23 size_byte ao l.length cap 2000 (by omega)
    obtain ⟨M, hM⟩ : ∃ M, M = l.length := ⟨_, rfl⟩
    have hg : (2000 : Int) < (M : Int) := by omega
    rw [← hM] at hsl ⊢
    have HL := hide hL
    clear hM hl0 hL hLe hb hlen hfit
    go_enter Try.func4, Try.ntmps4
    go_wp2_with (first
      | (refine wpList_load_mid rfl 24 _ rfl w.heap.size 0 rfl (hf.map bv) _ (unhide HRG) Try.underlying24 rfl hiH ?_)
      | (refine wpList_store_row rfl 24 _ _ rfl (w.heap.size + 1) _ rfl rfl _ _ (unhide HN1) ?_ ?_ ?_ ?_; (rw [unhide HSH]; exact hi16); (rw [unhide HSH]; rfl); (exact all_oneCell_toArray (bv_one _)); rw [← unhide HW2]))
    rw [unhide HS2, ← unhide HW3]
    go_loopw [7] (fun i wr => ∃ r : Nat, r ≤ 16 ∧ i = .int .i64 ((16 + r : Nat) : Int) ∧ Blk wr w.heap.size 22 (k.map bv) ∧ Blk wr (w.heap.size + 1) 24 (hf.map bv) ∧ Blk wr (w.heap.size + 2) 22 ((Q0.take (16 + r) ++ List.replicate (32 - (16 + r)) (0 : UInt8)).map bv) ∧ w.grownBy wr none) (fun i _ => 32 - (intOf i).toNat)
    case atStart => exact ⟨0, Nat.zero_le _, rfl, unhide HK3, unhide HH3, unhide HZ3, unhide HG3⟩
    case round =>
      obtain ⟨r, hr, rfl, hK, hH, hZ, hg⟩ := hrel
      obtain ⟨q, hq⟩ : ∃ q : Nat, q = 16 + r := ⟨_, rfl⟩
      rw [← hq] at hZ ⊢
      by_cases hlt : r < 16
      · have hq1 : (q : Int) < 32 := by omega
        have hq0 : (0 : Int) ≤ (q : Int) := by omega
        obtain ⟨x, hx⟩ : ∃ x, x = k.getD q 0 := ⟨_, rfl⟩
        have hx2 : Q0.getD q 0 = x := by rw [hx]; exact unhide HQ0 q (by omega) (by omega)
        have hc : wr.cell? ⟨w.heap.size, q, none⟩ = some (bv x) := by
          rw [hK.cell, List.getElem?_map, hx, List.getD, List.getElem?_eq_getElem (by rw [unhide HK]; omega)]; rfl
        have hcs : (wr.cell? ⟨w.heap.size + 2, q, none⟩).isSome = true ∧ wr.frozen? ⟨w.heap.size + 2, q, none⟩ = false := by
          have := hZ.there q 1 (by simp [unhide HQ0L]; omega) 0 (by omega)
          simpa using this
        obtain ⟨hcs, hcf⟩ := hcs
        obtain ⟨ov, hcs⟩ := Option.isSome_iff_exists.1 hcs
        have HK4 := hide hK
        have HH4 := hide hH
        have HZ4 := hide hZ
        have HX2 := hide hx2
        have HQQ := hide hq
        clear hK hH hZ hx hx2 hq
        unfold bv at hc
        go_wp2
        go_roundw
        case rel =>
          have hS := (unhide HZ4).set q (bv x)
          have hS2 : Blk (wr.setCell ⟨w.heap.size + 2, q, none⟩ (bv x)) (w.heap.size + 2) 22 ((Q0.take (q + 1) ++ List.replicate (32 - (q + 1)) (0 : UInt8)).map bv) := by
            rw [← fill_step Q0 q 32 (by rw [unhide HQ0L]; have := unhide HQQ; omega) (by have := unhide HQQ; omega), List.map_set, unhide HX2]; exact hS
          rw [show q + 1 = 16 + (r + 1) by rw [unhide HQQ]; omega] at hS2
          exact ⟨r + 1, by omega, by rw [unhide HQQ]; go_num, (unhide HK4).other _ _ (by simp <;> omega), (unhide HH4).other _ _ (by simp <;> omega), hS2, gb_setCell hg _ _ (Or.inl (by simp <;> omega))⟩
        case measure => have := unhide HQQ; simp [intOf]; omega
      · obtain rfl : r = 16 := by omega
        obtain rfl : q = 32 := by omega
        rw [show ((32 : Nat) : Int) = 32 from rfl]
        rw [List.take_of_length_le (by rw [unhide HQ0L]; exact Nat.le_refl _), Nat.sub_self, List.replicate_zero, List.append_nil] at hZ
        obtain ⟨U, hU⟩ : ∃ U, U = wr := ⟨_, rfl⟩
        rw [← hU] at hK hH hZ hg ⊢
        have hks : U.rangeAt w.heap.size 16 (s.map bv) := by
          have : Blk U w.heap.size 22 ((k.take 16).map bv ++ ((k.drop 16).map bv ++ [])) := by
            rw [List.append_nil, ← List.map_append, List.take_append_drop]; exact hK
          have h := this.range
          rw [show ((k.take 16).map bv).length = 16 by simp [unhide HK], ← unhide HS] at h
          exact h
        have hiS : (Try.prog.info? 24).map (·.size) = some (s.map bv).length := by rw [List.length_map, unhide HSL]; exact hi16
        have hss : ((s.map bv).toArray).size = 16 := by simp [unhide HSL]
        have hns : Blk (U.alloc (.cells Z 24)) U.heap.size 24 ((List.replicate 16 (0 : UInt8)).map bv) := by rw [unhide HZE]; exact Blk.new U 24 _
        obtain ⟨U2, hU2⟩ : ∃ U2, U2 = (U.alloc (.cells Z 24)).setRow U.heap.size (s.map bv).toArray := ⟨_, rfl⟩
        have l1 := hK.lt
        have l2 := hH.lt
        have l3 := hZ.lt
        have bS : Blk U2 U.heap.size 24 (s.map bv) := by rw [hU2]; exact hns.row _
        have bK : Blk U2 w.heap.size 22 (k.map bv) := by rw [hU2]; exact (hK.alloc _).row_other _ _ (by omega)
        have bH : Blk U2 (w.heap.size + 1) 24 (hf.map bv) := by rw [hU2]; exact (hH.alloc _).row_other _ _ (by omega)
        have bZ : Blk U2 (w.heap.size + 2) 22 (Q0.map bv) := by rw [hU2]; exact (hZ.alloc _).row_other _ _ (by omega)
        have gU2 : w.grownBy U2 none := by rw [hU2]; exact gb_row (gb_alloc hg _) _ (Or.inl (by omega))
        have hcl := pclamp_any U2 hf (unhide HFL)
        obtain ⟨C, hC⟩ : ∃ C, C = clampL hf := ⟨_, rfl⟩
        rw [← hC] at hcl
        have hCl : C.length = 16 := by rw [hC, clampL_length, unhide HFL]
        have hsc : ((C.map bv).toArray).size = 16 := by simp [hCl]
        have HKS := hide hks
        have HSS := hide hss
        have HNS := hide hns
        have HU2 := hide hU2
        have BS := hide bS
        have BK := hide bK
        have BH := hide bH
        have BZ := hide bZ
        have HC := hide hC
        have HCL := hide hCl
        have HSC := hide hsc
        clear hks hss hns hU2 bS bK bH bZ hC hCl hsc hU hK hH hZ hg l1 l2 hr hlt HK3 HH3 HZ3 HG3 HW3 HW2 HN1 HRG HS2
        go_wp2_with (first
          | (refine wpList_load_mid rfl 24 _ rfl w.heap.size 16 rfl (s.map bv) _ (unhide HKS) Try.underlying24 rfl hiS ?_)
          | (refine wpList_store_row rfl 24 _ _ rfl U.heap.size _ rfl rfl _ _ (unhide HNS) ?_ ?_ ?_ ?_; (rw [unhide HSS]; exact hi16); (rw [unhide HSS]; rfl); (exact all_oneCell_toArray (bv_one _)); rw [← unhide HU2])
          | (refine wpList_load_row rfl 24 _ rfl (w.heap.size + 1) rfl _ _ _ _ (unhide BH) Try.underlying24 rfl ?_ ?_; (rw [unhide HSH]; exact hi16))
          | (go_at_call 9; refine hcl.mono ?_; rintro e w5 ⟨rfl, g5⟩; have hnc : Blk (w5.alloc (.cells Z 24)) w5.heap.size 24 ((List.replicate 16 (0 : UInt8)).map bv) := (by rw [unhide HZE]; exact Blk.new w5 24 _))
          | (refine wpList_store_row rfl 24 _ _ rfl w5.heap.size _ rfl rfl _ _ hnc ?_ ?_ ?_ ?_; (rw [unhide HSC]; exact hi16); (rw [unhide HSC]; rfl); (exact all_oneCell_toArray (bv_one _))))
        obtain ⟨U3, hU3⟩ : ∃ U3, U3 = (w5.alloc (.cells Z 24)).setRow w5.heap.size (C.map bv).toArray := ⟨_, rfl⟩
        rw [← hU3]
        obtain ⟨U4, hU4⟩ : ∃ U4, U4 = U3.alloc (.cells Y 22) := ⟨_, rfl⟩
        rw [← hU4]
        obtain ⟨NC, hNC⟩ : ∃ N, N = w5.heap.size := ⟨_, rfl⟩
        obtain ⟨NS, hNS⟩ : ∃ N, N = U.heap.size := ⟨_, rfl⟩
        obtain ⟨Q, hQ⟩ : ∃ Q, Q = C ++ s := ⟨_, rfl⟩
        have hQl : Q.length = 32 := by rw [hQ, List.length_append, unhide HCL, unhide HSL]
        have hg5 := g5.size
        have lS := (unhide BS).lt
        have dS : Blk U3 NS 24 (s.map bv) := by rw [hU3, hNS]; exact (((unhide BS).kept g5 (by simp)).alloc _).row_other _ _ (by omega)
        have dK : Blk U3 w.heap.size 22 (k.map bv) := by rw [hU3]; exact (((unhide BK).kept g5 (by simp)).alloc _).row_other _ _ (by omega)
        have dZ : Blk U3 (w.heap.size + 2) 22 (Q0.map bv) := by rw [hU3]; exact (((unhide BZ).kept g5 (by simp)).alloc _).row_other _ _ (by omega)
        have dC : Blk U3 NC 24 (C.map bv) := by rw [hU3, hNC]; exact hnc.row _
        have s3 : U3.heap.size = NC + 1 := by rw [hU3, hNC]; simp
        have dQ : Blk U4 (NC + 1) 22 ((Q.take 0 ++ List.replicate (32 - 0) (0 : UInt8)).map bv) := by
          have := Blk.new U3 22 ((List.replicate 32 (0 : UInt8)).map bv)
          rw [s3, ← unhide HYE, ← hU4] at this
          exact this
        have gU4 : w.grownBy U4 none := by rw [hU4, hU3]; exact gb_alloc (gb_row (gb_alloc (tr gU2 g5) _) _ (Or.inl (by omega))) _
        have eS := dS.alloc (.cells Y 22)
        have eK := dK.alloc (.cells Y 22)
        have eZ := dZ.alloc (.cells Y 22)
        have eC := dC.alloc (.cells Y 22)
        rw [← hU4] at eS eK eZ eC
        have lNS : NS < NC := by omega
        have lNC : w.heap.size + 2 < NS := by omega
        rw [← hNC, ← hNS]
        have HQE2 := hide hQ
        have HQL := hide hQl
        have DQ := hide dQ
        have ES := hide eS
        have EK := hide eK
        have EZ := hide eZ
        have EC := hide eC
        clear hQ hQl dQ eS eK eZ eC dS dK dZ dC s3 lS hg5 hU3 hU4 hnc hNC hNS BS BK BH BZ HU2 HNS HKS l3 gU2 g5 hcl
        go_loopw [11] (fun i wr => ∃ r : Nat, r ≤ 32 ∧ i = .int .i64 r ∧ Blk wr w.heap.size 22 (k.map bv) ∧ Blk wr (w.heap.size + 2) 22 (Q0.map bv) ∧ Blk wr NS 24 (s.map bv) ∧ Blk wr NC 24 (C.map bv) ∧ Blk wr (NC + 1) 22 ((Q.take r ++ List.replicate (32 - r) (0 : UInt8)).map bv) ∧ w.grownBy wr none) (fun i _ => 32 - (intOf i).toNat)
        case atStart => exact ⟨0, Nat.zero_le _, rfl, unhide EK, unhide EZ, unhide ES, unhide EC, unhide DQ, gU4⟩
        case round =>
          clear EK EZ ES EC DQ gU4
          obtain ⟨r, hr, rfl, hK, hZ, hS, hC, hQ, hg⟩ := hrel
          by_cases hlt : r < 32
          · have hq1 : (r : Int) < 32 := by omega
            have hq0 : (0 : Int) ≤ (r : Int) := by omega
            obtain ⟨x, hx⟩ : ∃ x, x = k.getD r 0 := ⟨_, rfl⟩
            have hc : wr.cell? ⟨w.heap.size, r, none⟩ = some (bv x) := by
              rw [hK.cell, List.getElem?_map, hx, List.getD, List.getElem?_eq_getElem (by rw [unhide HK]; omega)]; rfl
            have hcs : (wr.cell? ⟨NC + 1, r, none⟩).isSome = true ∧ wr.frozen? ⟨NC + 1, r, none⟩ = false := by
              have := hQ.there r 1 (by simp [unhide HQL]; omega) 0 (by omega)
              simpa using this
            obtain ⟨hcs, hcf⟩ := hcs
            obtain ⟨ov, hcs⟩ := Option.isSome_iff_exists.1 hcs
            have hst := hQ.set r (bv (Q.getD r 0))
            rw [← List.map_set, fill_step Q r 32 (by rw [unhide HQL]; omega) hlt] at hst
            by_cases h16 : r < 16
            · have h16i : (r : Int) < 16 := by omega
              obtain ⟨y, hy⟩ : ∃ y, y = C.getD r 0 := ⟨_, rfl⟩
              have hyq : Q.getD r 0 = y := by rw [hy, List.getD, List.getD, unhide HQE2, List.getElem?_append_left (by rw [unhide HCL]; exact h16)]
              have hcC : wr.cell? ⟨NC, r, none⟩ = some (bv y) := by
                rw [hC.cell, List.getElem?_map, hy, List.getD, List.getElem?_eq_getElem (by rw [unhide HCL]; omega)]; rfl
              have hst2 : Blk ((wr.setCell ⟨NC + 1, r, none⟩ (bv x)).setCell ⟨NC + 1, r, none⟩ (bv y)) (NC + 1) 22 ((Q.take (r + 1) ++ List.replicate (32 - (r + 1)) (0 : UInt8)).map bv) := by
                have := (hQ.set r (bv x)).set r (bv y)
                rw [List.set_set, ← List.map_set, ← hyq, fill_step Q r 32 (by rw [unhide HQL]; omega) hlt, hyq] at this
                exact this
              have HK4 := hide hK
              have HZ4 := hide hZ
              have HS4 := hide hS
              have HC4 := hide hC
              have HST := hide hst2
              clear hK hZ hS hC hQ hx hy hyq hst hst2
              unfold bv at hc hcC
              go_wp2
              go_roundw
              case rel =>
                exact ⟨r + 1, by omega, by go_num, ((unhide HK4).other _ _ (by simp <;> omega)).other _ _ (by simp <;> omega), ((unhide HZ4).other _ _ (by simp <;> omega)).other _ _ (by simp <;> omega), ((unhide HS4).other _ _ (by simp <;> omega)).other _ _ (by simp <;> omega), ((unhide HC4).other _ _ (by simp <;> omega)).other _ _ (by simp <;> omega), unhide HST, gb_setCell (gb_setCell hg _ _ (Or.inl (by simp <;> omega))) _ _ (Or.inl (by simp <;> omega))⟩
              case measure => simp [intOf]; omega
            · have h16i : ¬ (r : Int) < 16 := by omega
              have hyq : Q.getD r 0 = x := by
                rw [hx, List.getD, List.getD, unhide HQE2, List.getElem?_append_right (by rw [unhide HCL]; omega), unhide HCL, unhide HS, List.getElem?_drop, show 16 + (r - 16) = r by omega]
              rw [hyq] at hst
              have HK4 := hide hK
              have HZ4 := hide hZ
              have HS4 := hide hS
              have HC4 := hide hC
              have HST := hide hst
              clear hK hZ hS hC hQ hx hyq hst
              unfold bv at hc
              go_wp2
              go_roundw
              case rel =>
                exact ⟨r + 1, by omega, by go_num, (unhide HK4).other _ _ (by simp <;> omega), (unhide HZ4).other _ _ (by simp <;> omega), (unhide HS4).other _ _ (by simp <;> omega), (unhide HC4).other _ _ (by simp <;> omega), unhide HST, gb_setCell hg _ _ (Or.inl (by simp <;> omega))⟩
              case measure => simp [intOf]; omega
          · obtain rfl : r = 32 := by omega
            rw [show ((32 : Nat) : Int) = 32 from rfl]
            rw [List.take_of_length_le (by rw [unhide HQL]; exact Nat.le_refl _), Nat.sub_self, List.replicate_zero, List.append_nil] at hQ
            obtain ⟨W6, hW6⟩ : ∃ U, U = wr := ⟨_, rfl⟩
            rw [← hW6] at hK hZ hS hC hQ hg ⊢
            have hg6 := hg
            have hrK := blk_range5 hK
            have hrZ := blk_range5 hZ
            have hrS := blk_range5 hS
            have hrC := blk_range5 hC
            have hrQ := blk_range5 hQ
            have hiZ : (Try.prog.info? 22).map (·.size) = some (Q0.map bv).length := by rw [List.length_map, unhide HQ0L]; exact hi32
            have hiQ : (Try.prog.info? 22).map (·.size) = some (Q.map bv).length := by rw [List.length_map, unhide HQL]; exact hi32
            have hiC : (Try.prog.info? 24).map (·.size) = some (C.map bv).length := by rw [List.length_map, unhide HCL]; exact hi16
            have hb6 := (unhide HB0).kept hg6 (fun _ e => by cases e)
            obtain ⟨T, hT⟩ : ∃ T, T = tagL k l0 := ⟨_, rfl⟩
            have heT := fun V => eql_same V T (by rw [hT]; exact tagL_length _ _)
            have heC := fun V => eql_same V C (unhide HCL)
            have heS := fun V => eql_same V s (unhide HSL)
            have cn : ∀ V, W6.grownBy V none → Calls Try.prog 7 #[.agg (k.map bv).toArray, .slice none 0 0] V fun e w' => e = .returned (.agg (s.map bv).toArray) ∧ W6.grownBy w' none := by
              intro V gV
              have h := psum_any V k (unhide HK) none 0 [] ⟨fun _ => ⟨rfl, rfl⟩, Nat.le_refl _, Nat.zero_le _, (fun _ h => by cases h), (fun _ h => by cases h)⟩ (Nat.zero_le _)
              rw [tag_nil k (unhide HK), ← unhide HS] at h
              exact h.mono fun e w' ⟨he, hgw⟩ => ⟨he, tr gV hgw⟩
            have sums : ∀ (K : List UInt8) (_ : K.length = 32) V, W6.grownBy V none → Calls Try.prog 7 #[.agg (K.map bv).toArray, .slice ao L cap] V fun e w' => e = .returned (.agg ((tagL K l0).map bv).toArray) ∧ W6.grownBy w' none := by
              intro K hKl V gV
              have h := psum_any V K hKl ao cap l0 (hb6.kept gV (fun _ e => by cases e)) (by rw [← unhide HL]; omega)
              rw [← unhide HL] at h
              exact h.mono fun e w' ⟨he, hgw⟩ => ⟨he, tr gV hgw⟩
            have cz : ∀ V, W6.grownBy V none → Calls Try.prog 7 #[.agg (Q0.map bv).toArray, .slice ao L cap] V fun e w' => e = .returned (.agg (s.map bv).toArray) ∧ W6.grownBy w' none := by
              intro V gV
              have h := sums Q0 (unhide HQ0L) V gV
              rw [tag_zero Q0 l0 (unhide HQ0L) (by rw [unhide HQE, List.take_append_of_le_length (by simp), List.take_of_length_le (by simp)])] at h
              rw [show Q0.drop 16 = s by rw [unhide HQE, List.drop_append_of_le_length (by simp), List.drop_of_length_le (by simp), List.nil_append]] at h
              exact h
            have ck : ∀ V, W6.grownBy V none → Calls Try.prog 7 #[.agg (k.map bv).toArray, .slice ao L cap] V fun e w' => e = .returned (.agg (T.map bv).toArray) ∧ W6.grownBy w' none := by
              intro V gV
              rw [hT]
              exact sums k (unhide HK) V gV
            have cq : ∀ V, W6.grownBy V none → Calls Try.prog 7 #[.agg (Q.map bv).toArray, .slice ao L cap] V fun e w' => e = .returned (.agg (T.map bv).toArray) ∧ W6.grownBy w' none := by
              intro V gV
              have h := sums Q (unhide HQL) V gV
              rw [show tagL Q l0 = T by rw [hT, unhide HQE2, unhide HC, unhide HHF, unhide HS]; exact tag_clamped k l0 (unhide HK)] at h
              exact h
            have cc : ∀ V, W6.grownBy V none → Calls Try.prog 9 #[.agg (C.map bv).toArray] V fun e w' => e = .returned (.agg (C.map bv).toArray) ∧ W6.grownBy w' none := by
              intro V gV
              have h := pclamp_any V C (unhide HCL)
              rw [show clampL C = C by rw [unhide HC]; exact clampL_twice _] at h
              exact h.mono fun e w' ⟨he, hgw⟩ => ⟨he, tr gV hgw⟩
            have c1 : ∀ V, W6.grownBy V none → Calls Try.prog 11 #[] V fun e w' => e = .returned (.bool true) ∧ W6.grownBy w' none := fun V gV => (pone_any V).mono fun e w' ⟨he, hgw⟩ => ⟨he, tr gV hgw⟩
            have h0 : W6.grownBy W6.drew none := gb_drew (gb_refl _ _)
            clear hW6 hK hZ hS hC hQ hg hT sums hb6 hr hlt
            go_wp2
            refine wp_region_noPanic ?_
            refine wp_region_held_drew (S := fun V => W6.grownBy V none) (by kernel_rfl) h0 (fun _ => ?_)
            refine wpAnyH_take (i := 0) (oi := { dst := some 50, op := Op.load 22 (Operand.tmp 2), type := _, pos := _, after := _, guard := _ }) (v := .agg (k.map bv).toArray) rfl (by kernel_rfl) (by kernel_rfl) (by kernel_rfl) (fun _ _ _ h => h) (yieldsIf_load_mid (by rfl) _ _ rfl _ _ rfl (k.map bv) _ (fun V hV => range_kept hrK hV (by simp)) Try.underlying22 rfl hiK) h0 ?_
            (try simp only [Act.put, List.setIfInBounds_toArray, List.set_cons_zero, List.set_cons_succ])
            refine wpAnyH_take (i := 2) (oi := { dst := some 52, op := Op.load 24 (Operand.tmp 8), type := _, pos := _, after := _, guard := _ }) (v := .agg (s.map bv).toArray) rfl (by kernel_rfl) (by kernel_rfl) (by kernel_rfl) (fun _ _ _ h => h) (yieldsIf_load_mid (by rfl) _ _ rfl _ _ rfl (s.map bv) _ (fun V hV => range_kept hrS hV (by simp)) Try.underlying24 rfl hiS) h0 ?_
            (try simp only [Act.put, List.setIfInBounds_toArray, List.set_cons_zero, List.set_cons_succ])
            refine wpAnyH_ready (rs := [1]) (by kernel_rfl) (by simp) ?_
            refine AllReadyH.cons (o := { dst := some 51, op := Op.call { callee := Callee.value (Operand.func 7), args := #[(Operand.tmp 50), Operand.const (Value.slice none 0 0)], argTypes := #[22, 23] }, type := _, pos := _, after := _, guard := _ }) rfl (fun K9 hK9 => ?_) AllReadyH.nil
            go_simp
            go_at_call 7
            refine (cn _ h0).mono ?_
            rintro e w3 ⟨rfl, g3⟩
            go_wp2_with fail
            refine hK9.out _ _ g3 (fun _ => ?_)
            clear hK9 K9
            (try simp only [Act.put, List.setIfInBounds_toArray, List.set_cons_zero, List.set_cons_succ])
            refine wpAnyH_take (i := 3) (oi := { dst := some 53, op := Op.binOp BinOp.eql 24 (Operand.tmp 51) (Operand.tmp 52) 24, type := _, pos := _, after := _, guard := _ }) (v := .bool true) rfl (by kernel_rfl) (by kernel_rfl) (by kernel_rfl) (fun _ _ _ h => h) (Or.inl ⟨by rfl, fun V (hV : W6.grownBy V none) => by go_simp⟩) g3 ?_
            (try simp only [Act.put, List.setIfInBounds_toArray, List.set_cons_zero, List.set_cons_succ])
            refine wpAnyH_take (i := 4) (oi := { dst := some 54, op := Op.move (Operand.tmp 53), type := _, pos := _, after := _, guard := _ }) (v := .bool true) rfl (by kernel_rfl) (by kernel_rfl) (by kernel_rfl) (fun _ _ _ h => h) (Or.inl ⟨by rfl, fun V (hV : W6.grownBy V none) => by go_simp⟩) g3 ?_
            (try simp only [Act.put, List.setIfInBounds_toArray, List.set_cons_zero, List.set_cons_succ])
            refine wpAnyH_take (i := 5) (oi := { dst := some 55, op := Op.load 22 (Operand.tmp 6), type := _, pos := _, after := _, guard := _ }) (v := .agg (Q0.map bv).toArray) rfl (by kernel_rfl) (by kernel_rfl) (by kernel_rfl) (fun _ _ _ h => h) (yieldsIf_load_mid (by rfl) _ _ rfl _ _ rfl (Q0.map bv) _ (fun V hV => range_kept hrZ hV (by simp)) Try.underlying22 rfl hiZ) g3 ?_
            (try simp only [Act.put, List.setIfInBounds_toArray, List.set_cons_zero, List.set_cons_succ])
            refine wpAnyH_take (i := 6) (oi := { dst := some 56, op := Op.move (Operand.tmp 1), type := _, pos := _, after := _, guard := _ }) (v := .slice ao L cap) rfl (by kernel_rfl) (by kernel_rfl) (by kernel_rfl) (fun _ _ _ h => h) (Or.inl ⟨by rfl, fun V (hV : W6.grownBy V none) => by go_simp⟩) g3 ?_
            (try simp only [Act.put, List.setIfInBounds_toArray, List.set_cons_zero, List.set_cons_succ])
            refine wpAnyH_take (i := 8) (oi := { dst := some 58, op := Op.load 24 (Operand.tmp 8), type := _, pos := _, after := _, guard := _ }) (v := .agg (s.map bv).toArray) rfl (by kernel_rfl) (by kernel_rfl) (by kernel_rfl) (fun _ _ _ h => h) (yieldsIf_load_mid (by rfl) _ _ rfl _ _ rfl (s.map bv) _ (fun V hV => range_kept hrS hV (by simp)) Try.underlying24 rfl hiS) g3 ?_
            (try simp only [Act.put, List.setIfInBounds_toArray, List.set_cons_zero, List.set_cons_succ])
            refine wpAnyH_ready (rs := [7]) (by kernel_rfl) (by simp) ?_
            refine AllReadyH.cons (o := { dst := some 57, op := Op.call { callee := Callee.value (Operand.func 7), args := #[(Operand.tmp 55), (Operand.tmp 56)], argTypes := #[22, 23] }, type := _, pos := _, after := _, guard := _ }) rfl (fun K9 hK9 => ?_) AllReadyH.nil
            go_simp
            go_at_call 7
            refine (cz _ g3).mono ?_
            rintro e w4 ⟨rfl, g4⟩
            go_wp2_with fail
            refine hK9.out _ _ g4 (fun _ => ?_)
            clear hK9 K9
            (try simp only [Act.put, List.setIfInBounds_toArray, List.set_cons_zero, List.set_cons_succ])
            refine wpAnyH_take (i := 9) (oi := { dst := some 59, op := Op.binOp BinOp.eql 24 (Operand.tmp 57) (Operand.tmp 58) 24, type := _, pos := _, after := _, guard := _ }) (v := .bool true) rfl (by kernel_rfl) (by kernel_rfl) (by kernel_rfl) (fun _ _ _ h => h) (Or.inl ⟨by rfl, fun V (hV : W6.grownBy V none) => by go_simp⟩) g4 ?_
            (try simp only [Act.put, List.setIfInBounds_toArray, List.set_cons_zero, List.set_cons_succ])
            refine wpAnyH_take (i := 10) (oi := { dst := some 60, op := Op.pick (Operand.tmp 54) (Operand.tmp 59) (Operand.const (Value.bool false)), type := _, pos := _, after := _, guard := _ }) (v := .bool true) rfl (by kernel_rfl) (by kernel_rfl) (by kernel_rfl) (fun _ _ _ h => h) (Or.inl ⟨by rfl, fun V (hV : W6.grownBy V none) => by go_simp⟩) g4 ?_
            (try simp only [Act.put, List.setIfInBounds_toArray, List.set_cons_zero, List.set_cons_succ])
            refine wpAnyH_take (i := 11) (oi := { dst := some 61, op := Op.move (Operand.tmp 60), type := _, pos := _, after := _, guard := _ }) (v := .bool true) rfl (by kernel_rfl) (by kernel_rfl) (by kernel_rfl) (fun _ _ _ h => h) (Or.inl ⟨by rfl, fun V (hV : W6.grownBy V none) => by go_simp⟩) g4 ?_
            (try simp only [Act.put, List.setIfInBounds_toArray, List.set_cons_zero, List.set_cons_succ])
            refine wpAnyH_take (i := 12) (oi := { dst := some 62, op := Op.load 24 (Operand.tmp 9), type := _, pos := _, after := _, guard := _ }) (v := .agg (C.map bv).toArray) rfl (by kernel_rfl) (by kernel_rfl) (by kernel_rfl) (fun _ _ _ h => h) (yieldsIf_load_mid (by rfl) _ _ rfl _ _ rfl (C.map bv) _ (fun V hV => range_kept hrC hV (by simp)) Try.underlying24 rfl hiC) g4 ?_
            (try simp only [Act.put, List.setIfInBounds_toArray, List.set_cons_zero, List.set_cons_succ])
            refine wpAnyH_take (i := 14) (oi := { dst := some 64, op := Op.load 24 (Operand.tmp 9), type := _, pos := _, after := _, guard := _ }) (v := .agg (C.map bv).toArray) rfl (by kernel_rfl) (by kernel_rfl) (by kernel_rfl) (fun _ _ _ h => h) (yieldsIf_load_mid (by rfl) _ _ rfl _ _ rfl (C.map bv) _ (fun V hV => range_kept hrC hV (by simp)) Try.underlying24 rfl hiC) g4 ?_
            (try simp only [Act.put, List.setIfInBounds_toArray, List.set_cons_zero, List.set_cons_succ])
            refine wpAnyH_ready (rs := [13]) (by kernel_rfl) (by simp) ?_
            refine AllReadyH.cons (o := { dst := some 63, op := Op.call { callee := Callee.value (Operand.func 9), args := #[(Operand.tmp 62)], argTypes := #[24] }, type := _, pos := _, after := _, guard := _ }) rfl (fun K9 hK9 => ?_) AllReadyH.nil
            go_simp
            go_at_call 9
            refine (cc _ g4).mono ?_
            rintro e w5 ⟨rfl, g5⟩
            go_wp2_with fail
            refine hK9.out _ _ g5 (fun _ => ?_)
            clear hK9 K9
            (try simp only [Act.put, List.setIfInBounds_toArray, List.set_cons_zero, List.set_cons_succ])
            refine wpAnyH_take (i := 15) (oi := { dst := some 65, op := Op.binOp BinOp.eql 24 (Operand.tmp 63) (Operand.tmp 64) 24, type := _, pos := _, after := _, guard := _ }) (v := .bool true) rfl (by kernel_rfl) (by kernel_rfl) (by kernel_rfl) (fun _ _ _ h => h) (Or.inl ⟨by rfl, fun V (hV : W6.grownBy V none) => by go_simp⟩) g5 ?_
            (try simp only [Act.put, List.setIfInBounds_toArray, List.set_cons_zero, List.set_cons_succ])
            refine wpAnyH_take (i := 16) (oi := { dst := some 66, op := Op.pick (Operand.tmp 61) (Operand.tmp 65) (Operand.const (Value.bool false)), type := _, pos := _, after := _, guard := _ }) (v := .bool true) rfl (by kernel_rfl) (by kernel_rfl) (by kernel_rfl) (fun _ _ _ h => h) (Or.inl ⟨by rfl, fun V (hV : W6.grownBy V none) => by go_simp⟩) g5 ?_
            (try simp only [Act.put, List.setIfInBounds_toArray, List.set_cons_zero, List.set_cons_succ])
            refine wpAnyH_take (i := 17) (oi := { dst := some 67, op := Op.move (Operand.tmp 66), type := _, pos := _, after := _, guard := _ }) (v := .bool true) rfl (by kernel_rfl) (by kernel_rfl) (by kernel_rfl) (fun _ _ _ h => h) (Or.inl ⟨by rfl, fun V (hV : W6.grownBy V none) => by go_simp⟩) g5 ?_
            (try simp only [Act.put, List.setIfInBounds_toArray, List.set_cons_zero, List.set_cons_succ])
            refine wpAnyH_take (i := 18) (oi := { dst := some 68, op := Op.load 22 (Operand.tmp 10), type := _, pos := _, after := _, guard := _ }) (v := .agg (Q.map bv).toArray) rfl (by kernel_rfl) (by kernel_rfl) (by kernel_rfl) (fun _ _ _ h => h) (yieldsIf_load_mid (by rfl) _ _ rfl _ _ rfl (Q.map bv) _ (fun V hV => range_kept hrQ hV (by simp)) Try.underlying22 rfl hiQ) g5 ?_
            (try simp only [Act.put, List.setIfInBounds_toArray, List.set_cons_zero, List.set_cons_succ])
            refine wpAnyH_take (i := 19) (oi := { dst := some 69, op := Op.move (Operand.tmp 1), type := _, pos := _, after := _, guard := _ }) (v := .slice ao L cap) rfl (by kernel_rfl) (by kernel_rfl) (by kernel_rfl) (fun _ _ _ h => h) (Or.inl ⟨by rfl, fun V (hV : W6.grownBy V none) => by go_simp⟩) g5 ?_
            (try simp only [Act.put, List.setIfInBounds_toArray, List.set_cons_zero, List.set_cons_succ])
            refine wpAnyH_take (i := 21) (oi := { dst := some 71, op := Op.load 22 (Operand.tmp 2), type := _, pos := _, after := _, guard := _ }) (v := .agg (k.map bv).toArray) rfl (by kernel_rfl) (by kernel_rfl) (by kernel_rfl) (fun _ _ _ h => h) (yieldsIf_load_mid (by rfl) _ _ rfl _ _ rfl (k.map bv) _ (fun V hV => range_kept hrK hV (by simp)) Try.underlying22 rfl hiK) g5 ?_
            (try simp only [Act.put, List.setIfInBounds_toArray, List.set_cons_zero, List.set_cons_succ])
            refine wpAnyH_take (i := 22) (oi := { dst := some 72, op := Op.move (Operand.tmp 1), type := _, pos := _, after := _, guard := _ }) (v := .slice ao L cap) rfl (by kernel_rfl) (by kernel_rfl) (by kernel_rfl) (fun _ _ _ h => h) (Or.inl ⟨by rfl, fun V (hV : W6.grownBy V none) => by go_simp⟩) g5 ?_
            (try simp only [Act.put, List.setIfInBounds_toArray, List.set_cons_zero, List.set_cons_succ])
            refine wpAnyH_ready (rs := [20]) (by kernel_rfl) (by simp) ?_
            refine AllReadyH.cons (o := { dst := some 70, op := Op.call { callee := Callee.value (Operand.func 7), args := #[(Operand.tmp 68), (Operand.tmp 69)], argTypes := #[22, 23] }, type := _, pos := _, after := _, guard := _ }) rfl (fun K9 hK9 => ?_) AllReadyH.nil
            go_simp
            go_at_call 7
            refine (cq _ g5).mono ?_
            rintro e w6 ⟨rfl, g6⟩
            go_wp2_with fail
            refine hK9.out _ _ g6 (fun _ => ?_)
            clear hK9 K9
            (try simp only [Act.put, List.setIfInBounds_toArray, List.set_cons_zero, List.set_cons_succ])
            refine wpAnyH_ready (rs := [23]) (by kernel_rfl) (by simp) ?_
            refine AllReadyH.cons (o := { dst := some 73, op := Op.call { callee := Callee.value (Operand.func 7), args := #[(Operand.tmp 71), (Operand.tmp 72)], argTypes := #[22, 23] }, type := _, pos := _, after := _, guard := _ }) rfl (fun K9 hK9 => ?_) AllReadyH.nil
            go_simp
            go_at_call 7
            refine (ck _ g6).mono ?_
            rintro e w7 ⟨rfl, g7⟩
            go_wp2_with fail
            refine hK9.out _ _ g7 (fun _ => ?_)
            clear hK9 K9
            (try simp only [Act.put, List.setIfInBounds_toArray, List.set_cons_zero, List.set_cons_succ])
            refine wpAnyH_take (i := 24) (oi := { dst := some 74, op := Op.binOp BinOp.eql 24 (Operand.tmp 70) (Operand.tmp 73) 24, type := _, pos := _, after := _, guard := _ }) (v := .bool true) rfl (by kernel_rfl) (by kernel_rfl) (by kernel_rfl) (fun _ _ _ h => h) (Or.inl ⟨by rfl, fun V (hV : W6.grownBy V none) => by go_simp⟩) g7 ?_
            (try simp only [Act.put, List.setIfInBounds_toArray, List.set_cons_zero, List.set_cons_succ])
            refine wpAnyH_take (i := 25) (oi := { dst := some 75, op := Op.pick (Operand.tmp 67) (Operand.tmp 74) (Operand.const (Value.bool false)), type := _, pos := _, after := _, guard := _ }) (v := .bool true) rfl (by kernel_rfl) (by kernel_rfl) (by kernel_rfl) (fun _ _ _ h => h) (Or.inl ⟨by rfl, fun V (hV : W6.grownBy V none) => by go_simp⟩) g7 ?_
            (try simp only [Act.put, List.setIfInBounds_toArray, List.set_cons_zero, List.set_cons_succ])
            refine wpAnyH_take (i := 26) (oi := { dst := some 76, op := Op.move (Operand.tmp 75), type := _, pos := _, after := _, guard := _ }) (v := .bool true) rfl (by kernel_rfl) (by kernel_rfl) (by kernel_rfl) (fun _ _ _ h => h) (Or.inl ⟨by rfl, fun V (hV : W6.grownBy V none) => by go_simp⟩) g7 ?_
            (try simp only [Act.put, List.setIfInBounds_toArray, List.set_cons_zero, List.set_cons_succ])
            refine wpAnyH_ready (rs := [27]) (by kernel_rfl) (by simp) ?_
            refine AllReadyH.cons (o := { dst := some 77, op := Op.call { callee := Callee.value (Operand.func 11), args := #[], argTypes := #[] }, type := _, pos := _, after := _, guard := _ }) rfl (fun K9 hK9 => ?_) AllReadyH.nil
            go_simp
            go_at_call 11
            refine (c1 _ g7).mono ?_
            rintro e w8 ⟨rfl, g8⟩
            go_wp2_with fail
            refine hK9.out _ _ g8 (fun _ => ?_)
            clear hK9 K9
            (try simp only [Act.put, List.setIfInBounds_toArray, List.set_cons_zero, List.set_cons_succ])
            refine wpAnyH_take (i := 28) (oi := { dst := some 78, op := Op.pick (Operand.tmp 76) (Operand.tmp 77) (Operand.const (Value.bool false)), type := _, pos := _, after := _, guard := _ }) (v := .bool true) rfl (by kernel_rfl) (by kernel_rfl) (by kernel_rfl) (fun _ _ _ h => h) (Or.inl ⟨by rfl, fun V (hV : W6.grownBy V none) => by go_simp⟩) g8 ?_
            (try simp only [Act.put, List.setIfInBounds_toArray, List.set_cons_zero, List.set_cons_succ])
            refine wpAnyH_take (i := 29) (oi := { dst := some 4, op := Op.assign (Operand.tmp 78), type := _, pos := _, after := _, guard := _ }) (v := .bool true) rfl (by kernel_rfl) (by kernel_rfl) (by kernel_rfl) (fun _ _ _ h => h) (Or.inl ⟨by rfl, fun V (hV : W6.grownBy V none) => by go_simp⟩) g8 ?_
            (try simp only [Act.put, List.setIfInBounds_toArray, List.set_cons_zero, List.set_cons_succ])
            refine wpAnyH_done (by kernel_rfl) ?_ _
            refine NoPanic.normal ?_
            go_wp2
            go_ret
            exact ⟨rfl, tr hg6 g8⟩
  · rw [show l.length = L by rw [hL, hl0, List.take_of_length_le (by omega)]]
    have hg : ¬ (2000 : Int) < (L : Int) := by omega
    have HL := hide hL
    clear hl0 hL hb hlen hfit
    go_enter Try.func4, Try.ntmps4
    go_wp2_with (first
      | (refine wpList_load_mid rfl 24 _ rfl w.heap.size 0 rfl (hf.map bv) _ (unhide HRG) Try.underlying24 rfl hiH ?_)
      | (refine wpList_store_row rfl 24 _ _ rfl (w.heap.size + 1) _ rfl rfl _ _ (unhide HN1) ?_ ?_ ?_ ?_; (rw [unhide HSH]; exact hi16); (rw [unhide HSH]; rfl); (exact all_oneCell_toArray (bv_one _)); rw [← unhide HW2]))
    rw [unhide HS2, ← unhide HW3]
    go_loopw [7] (fun i wr => ∃ r : Nat, r ≤ 16 ∧ i = .int .i64 ((16 + r : Nat) : Int) ∧ Blk wr w.heap.size 22 (k.map bv) ∧ Blk wr (w.heap.size + 1) 24 (hf.map bv) ∧ Blk wr (w.heap.size + 2) 22 ((Q0.take (16 + r) ++ List.replicate (32 - (16 + r)) (0 : UInt8)).map bv) ∧ w.grownBy wr none) (fun i _ => 32 - (intOf i).toNat)
    case atStart => exact ⟨0, Nat.zero_le _, rfl, unhide HK3, unhide HH3, unhide HZ3, unhide HG3⟩
    case round =>
      obtain ⟨r, hr, rfl, hK, hH, hZ, hg⟩ := hrel
      obtain ⟨q, hq⟩ : ∃ q : Nat, q = 16 + r := ⟨_, rfl⟩
      rw [← hq] at hZ ⊢
      by_cases hlt : r < 16
      · have hq1 : (q : Int) < 32 := by omega
        have hq0 : (0 : Int) ≤ (q : Int) := by omega
        obtain ⟨x, hx⟩ : ∃ x, x = k.getD q 0 := ⟨_, rfl⟩
        have hx2 : Q0.getD q 0 = x := by rw [hx]; exact unhide HQ0 q (by omega) (by omega)
        have hc : wr.cell? ⟨w.heap.size, q, none⟩ = some (bv x) := by
          rw [hK.cell, List.getElem?_map, hx, List.getD, List.getElem?_eq_getElem (by rw [unhide HK]; omega)]; rfl
        have hcs : (wr.cell? ⟨w.heap.size + 2, q, none⟩).isSome = true ∧ wr.frozen? ⟨w.heap.size + 2, q, none⟩ = false := by
          have := hZ.there q 1 (by simp [unhide HQ0L]; omega) 0 (by omega)
          simpa using this
        obtain ⟨hcs, hcf⟩ := hcs
        obtain ⟨ov, hcs⟩ := Option.isSome_iff_exists.1 hcs
        have HK4 := hide hK
        have HH4 := hide hH
        have HZ4 := hide hZ
        have HX2 := hide hx2
        have HQQ := hide hq
        clear hK hH hZ hx hx2 hq
        unfold bv at hc
        go_wp2
        go_roundw
        case rel =>
          have hS := (unhide HZ4).set q (bv x)
          have hS2 : Blk (wr.setCell ⟨w.heap.size + 2, q, none⟩ (bv x)) (w.heap.size + 2) 22 ((Q0.take (q + 1) ++ List.replicate (32 - (q + 1)) (0 : UInt8)).map bv) := by
            rw [← fill_step Q0 q 32 (by rw [unhide HQ0L]; have := unhide HQQ; omega) (by have := unhide HQQ; omega), List.map_set, unhide HX2]; exact hS
          rw [show q + 1 = 16 + (r + 1) by rw [unhide HQQ]; omega] at hS2
          exact ⟨r + 1, by omega, by rw [unhide HQQ]; go_num, (unhide HK4).other _ _ (by simp <;> omega), (unhide HH4).other _ _ (by simp <;> omega), hS2, gb_setCell hg _ _ (Or.inl (by simp <;> omega))⟩
        case measure => have := unhide HQQ; simp [intOf]; omega
      · obtain rfl : r = 16 := by omega
        obtain rfl : q = 32 := by omega
        rw [show ((32 : Nat) : Int) = 32 from rfl]
        rw [List.take_of_length_le (by rw [unhide HQ0L]; exact Nat.le_refl _), Nat.sub_self, List.replicate_zero, List.append_nil] at hZ
        obtain ⟨U, hU⟩ : ∃ U, U = wr := ⟨_, rfl⟩
        rw [← hU] at hK hH hZ hg ⊢
        have hks : U.rangeAt w.heap.size 16 (s.map bv) := by
          have : Blk U w.heap.size 22 ((k.take 16).map bv ++ ((k.drop 16).map bv ++ [])) := by
            rw [List.append_nil, ← List.map_append, List.take_append_drop]; exact hK
          have h := this.range
          rw [show ((k.take 16).map bv).length = 16 by simp [unhide HK], ← unhide HS] at h
          exact h
        have hiS : (Try.prog.info? 24).map (·.size) = some (s.map bv).length := by rw [List.length_map, unhide HSL]; exact hi16
        have hss : ((s.map bv).toArray).size = 16 := by simp [unhide HSL]
        have hns : Blk (U.alloc (.cells Z 24)) U.heap.size 24 ((List.replicate 16 (0 : UInt8)).map bv) := by rw [unhide HZE]; exact Blk.new U 24 _
        obtain ⟨U2, hU2⟩ : ∃ U2, U2 = (U.alloc (.cells Z 24)).setRow U.heap.size (s.map bv).toArray := ⟨_, rfl⟩
        have l1 := hK.lt
        have l2 := hH.lt
        have l3 := hZ.lt
        have bS : Blk U2 U.heap.size 24 (s.map bv) := by rw [hU2]; exact hns.row _
        have bK : Blk U2 w.heap.size 22 (k.map bv) := by rw [hU2]; exact (hK.alloc _).row_other _ _ (by omega)
        have bH : Blk U2 (w.heap.size + 1) 24 (hf.map bv) := by rw [hU2]; exact (hH.alloc _).row_other _ _ (by omega)
        have bZ : Blk U2 (w.heap.size + 2) 22 (Q0.map bv) := by rw [hU2]; exact (hZ.alloc _).row_other _ _ (by omega)
        have gU2 : w.grownBy U2 none := by rw [hU2]; exact gb_row (gb_alloc hg _) _ (Or.inl (by omega))
        have hcl := pclamp_any U2 hf (unhide HFL)
        obtain ⟨C, hC⟩ : ∃ C, C = clampL hf := ⟨_, rfl⟩
        rw [← hC] at hcl
        have hCl : C.length = 16 := by rw [hC, clampL_length, unhide HFL]
        have hsc : ((C.map bv).toArray).size = 16 := by simp [hCl]
        have HKS := hide hks
        have HSS := hide hss
        have HNS := hide hns
        have HU2 := hide hU2
        have BS := hide bS
        have BK := hide bK
        have BH := hide bH
        have BZ := hide bZ
        have HC := hide hC
        have HCL := hide hCl
        have HSC := hide hsc
        clear hks hss hns hU2 bS bK bH bZ hC hCl hsc hU hK hH hZ hg l1 l2 hr hlt HK3 HH3 HZ3 HG3 HW3 HW2 HN1 HRG HS2
        go_wp2_with (first
          | (refine wpList_load_mid rfl 24 _ rfl w.heap.size 16 rfl (s.map bv) _ (unhide HKS) Try.underlying24 rfl hiS ?_)
          | (refine wpList_store_row rfl 24 _ _ rfl U.heap.size _ rfl rfl _ _ (unhide HNS) ?_ ?_ ?_ ?_; (rw [unhide HSS]; exact hi16); (rw [unhide HSS]; rfl); (exact all_oneCell_toArray (bv_one _)); rw [← unhide HU2])
          | (refine wpList_load_row rfl 24 _ rfl (w.heap.size + 1) rfl _ _ _ _ (unhide BH) Try.underlying24 rfl ?_ ?_; (rw [unhide HSH]; exact hi16))
          | (go_at_call 9; refine hcl.mono ?_; rintro e w5 ⟨rfl, g5⟩; have hnc : Blk (w5.alloc (.cells Z 24)) w5.heap.size 24 ((List.replicate 16 (0 : UInt8)).map bv) := (by rw [unhide HZE]; exact Blk.new w5 24 _))
          | (refine wpList_store_row rfl 24 _ _ rfl w5.heap.size _ rfl rfl _ _ hnc ?_ ?_ ?_ ?_; (rw [unhide HSC]; exact hi16); (rw [unhide HSC]; rfl); (exact all_oneCell_toArray (bv_one _))))
        obtain ⟨U3, hU3⟩ : ∃ U3, U3 = (w5.alloc (.cells Z 24)).setRow w5.heap.size (C.map bv).toArray := ⟨_, rfl⟩
        rw [← hU3]
        obtain ⟨U4, hU4⟩ : ∃ U4, U4 = U3.alloc (.cells Y 22) := ⟨_, rfl⟩
        rw [← hU4]
        obtain ⟨NC, hNC⟩ : ∃ N, N = w5.heap.size := ⟨_, rfl⟩
        obtain ⟨NS, hNS⟩ : ∃ N, N = U.heap.size := ⟨_, rfl⟩
        obtain ⟨Q, hQ⟩ : ∃ Q, Q = C ++ s := ⟨_, rfl⟩
        have hQl : Q.length = 32 := by rw [hQ, List.length_append, unhide HCL, unhide HSL]
        have hg5 := g5.size
        have lS := (unhide BS).lt
        have dS : Blk U3 NS 24 (s.map bv) := by rw [hU3, hNS]; exact (((unhide BS).kept g5 (by simp)).alloc _).row_other _ _ (by omega)
        have dK : Blk U3 w.heap.size 22 (k.map bv) := by rw [hU3]; exact (((unhide BK).kept g5 (by simp)).alloc _).row_other _ _ (by omega)
        have dZ : Blk U3 (w.heap.size + 2) 22 (Q0.map bv) := by rw [hU3]; exact (((unhide BZ).kept g5 (by simp)).alloc _).row_other _ _ (by omega)
        have dC : Blk U3 NC 24 (C.map bv) := by rw [hU3, hNC]; exact hnc.row _
        have s3 : U3.heap.size = NC + 1 := by rw [hU3, hNC]; simp
        have dQ : Blk U4 (NC + 1) 22 ((Q.take 0 ++ List.replicate (32 - 0) (0 : UInt8)).map bv) := by
          have := Blk.new U3 22 ((List.replicate 32 (0 : UInt8)).map bv)
          rw [s3, ← unhide HYE, ← hU4] at this
          exact this
        have gU4 : w.grownBy U4 none := by rw [hU4, hU3]; exact gb_alloc (gb_row (gb_alloc (tr gU2 g5) _) _ (Or.inl (by omega))) _
        have eS := dS.alloc (.cells Y 22)
        have eK := dK.alloc (.cells Y 22)
        have eZ := dZ.alloc (.cells Y 22)
        have eC := dC.alloc (.cells Y 22)
        rw [← hU4] at eS eK eZ eC
        have lNS : NS < NC := by omega
        have lNC : w.heap.size + 2 < NS := by omega
        rw [← hNC, ← hNS]
        have HQE2 := hide hQ
        have HQL := hide hQl
        have DQ := hide dQ
        have ES := hide eS
        have EK := hide eK
        have EZ := hide eZ
        have EC := hide eC
        clear hQ hQl dQ eS eK eZ eC dS dK dZ dC s3 lS hg5 hU3 hU4 hnc hNC hNS BS BK BH BZ HU2 HNS HKS l3 gU2 g5 hcl
        go_loopw [11] (fun i wr => ∃ r : Nat, r ≤ 32 ∧ i = .int .i64 r ∧ Blk wr w.heap.size 22 (k.map bv) ∧ Blk wr (w.heap.size + 2) 22 (Q0.map bv) ∧ Blk wr NS 24 (s.map bv) ∧ Blk wr NC 24 (C.map bv) ∧ Blk wr (NC + 1) 22 ((Q.take r ++ List.replicate (32 - r) (0 : UInt8)).map bv) ∧ w.grownBy wr none) (fun i _ => 32 - (intOf i).toNat)
        case atStart => exact ⟨0, Nat.zero_le _, rfl, unhide EK, unhide EZ, unhide ES, unhide EC, unhide DQ, gU4⟩
        case round =>
          clear EK EZ ES EC DQ gU4
          obtain ⟨r, hr, rfl, hK, hZ, hS, hC, hQ, hg⟩ := hrel
          by_cases hlt : r < 32
          · have hq1 : (r : Int) < 32 := by omega
            have hq0 : (0 : Int) ≤ (r : Int) := by omega
            obtain ⟨x, hx⟩ : ∃ x, x = k.getD r 0 := ⟨_, rfl⟩
            have hc : wr.cell? ⟨w.heap.size, r, none⟩ = some (bv x) := by
              rw [hK.cell, List.getElem?_map, hx, List.getD, List.getElem?_eq_getElem (by rw [unhide HK]; omega)]; rfl
            have hcs : (wr.cell? ⟨NC + 1, r, none⟩).isSome = true ∧ wr.frozen? ⟨NC + 1, r, none⟩ = false := by
              have := hQ.there r 1 (by simp [unhide HQL]; omega) 0 (by omega)
              simpa using this
            obtain ⟨hcs, hcf⟩ := hcs
            obtain ⟨ov, hcs⟩ := Option.isSome_iff_exists.1 hcs
            have hst := hQ.set r (bv (Q.getD r 0))
            rw [← List.map_set, fill_step Q r 32 (by rw [unhide HQL]; omega) hlt] at hst
            by_cases h16 : r < 16
            · have h16i : (r : Int) < 16 := by omega
              obtain ⟨y, hy⟩ : ∃ y, y = C.getD r 0 := ⟨_, rfl⟩
              have hyq : Q.getD r 0 = y := by rw [hy, List.getD, List.getD, unhide HQE2, List.getElem?_append_left (by rw [unhide HCL]; exact h16)]
              have hcC : wr.cell? ⟨NC, r, none⟩ = some (bv y) := by
                rw [hC.cell, List.getElem?_map, hy, List.getD, List.getElem?_eq_getElem (by rw [unhide HCL]; omega)]; rfl
              have hst2 : Blk ((wr.setCell ⟨NC + 1, r, none⟩ (bv x)).setCell ⟨NC + 1, r, none⟩ (bv y)) (NC + 1) 22 ((Q.take (r + 1) ++ List.replicate (32 - (r + 1)) (0 : UInt8)).map bv) := by
                have := (hQ.set r (bv x)).set r (bv y)
                rw [List.set_set, ← List.map_set, ← hyq, fill_step Q r 32 (by rw [unhide HQL]; omega) hlt, hyq] at this
                exact this
              have HK4 := hide hK
              have HZ4 := hide hZ
              have HS4 := hide hS
              have HC4 := hide hC
              have HST := hide hst2
              clear hK hZ hS hC hQ hx hy hyq hst hst2
              unfold bv at hc hcC
              go_wp2
              go_roundw
              case rel =>
                exact ⟨r + 1, by omega, by go_num, ((unhide HK4).other _ _ (by simp <;> omega)).other _ _ (by simp <;> omega), ((unhide HZ4).other _ _ (by simp <;> omega)).other _ _ (by simp <;> omega), ((unhide HS4).other _ _ (by simp <;> omega)).other _ _ (by simp <;> omega), ((unhide HC4).other _ _ (by simp <;> omega)).other _ _ (by simp <;> omega), unhide HST, gb_setCell (gb_setCell hg _ _ (Or.inl (by simp <;> omega))) _ _ (Or.inl (by simp <;> omega))⟩
              case measure => simp [intOf]; omega
            · have h16i : ¬ (r : Int) < 16 := by omega
              have hyq : Q.getD r 0 = x := by
                rw [hx, List.getD, List.getD, unhide HQE2, List.getElem?_append_right (by rw [unhide HCL]; omega), unhide HCL, unhide HS, List.getElem?_drop, show 16 + (r - 16) = r by omega]
              rw [hyq] at hst
              have HK4 := hide hK
              have HZ4 := hide hZ
              have HS4 := hide hS
              have HC4 := hide hC
              have HST := hide hst
              clear hK hZ hS hC hQ hx hyq hst
              unfold bv at hc
              go_wp2
              go_roundw
              case rel =>
                exact ⟨r + 1, by omega, by go_num, (unhide HK4).other _ _ (by simp <;> omega), (unhide HZ4).other _ _ (by simp <;> omega), (unhide HS4).other _ _ (by simp <;> omega), (unhide HC4).other _ _ (by simp <;> omega), unhide HST, gb_setCell hg _ _ (Or.inl (by simp <;> omega))⟩
              case measure => simp [intOf]; omega
          · obtain rfl : r = 32 := by omega
            rw [show ((32 : Nat) : Int) = 32 from rfl]
            rw [List.take_of_length_le (by rw [unhide HQL]; exact Nat.le_refl _), Nat.sub_self, List.replicate_zero, List.append_nil] at hQ
            obtain ⟨W6, hW6⟩ : ∃ U, U = wr := ⟨_, rfl⟩
            rw [← hW6] at hK hZ hS hC hQ hg ⊢
            have hg6 := hg
            have hrK := blk_range5 hK
            have hrZ := blk_range5 hZ
            have hrS := blk_range5 hS
            have hrC := blk_range5 hC
            have hrQ := blk_range5 hQ
            have hiZ : (Try.prog.info? 22).map (·.size) = some (Q0.map bv).length := by rw [List.length_map, unhide HQ0L]; exact hi32
            have hiQ : (Try.prog.info? 22).map (·.size) = some (Q.map bv).length := by rw [List.length_map, unhide HQL]; exact hi32
            have hiC : (Try.prog.info? 24).map (·.size) = some (C.map bv).length := by rw [List.length_map, unhide HCL]; exact hi16
            have hb6 := (unhide HB0).kept hg6 (fun _ e => by cases e)
            obtain ⟨T, hT⟩ : ∃ T, T = tagL k l0 := ⟨_, rfl⟩
            have heT := fun V => eql_same V T (by rw [hT]; exact tagL_length _ _)
            have heC := fun V => eql_same V C (unhide HCL)
            have heS := fun V => eql_same V s (unhide HSL)
            have cn : ∀ V, W6.grownBy V none → Calls Try.prog 7 #[.agg (k.map bv).toArray, .slice none 0 0] V fun e w' => e = .returned (.agg (s.map bv).toArray) ∧ W6.grownBy w' none := by
              intro V gV
              have h := psum_any V k (unhide HK) none 0 [] ⟨fun _ => ⟨rfl, rfl⟩, Nat.le_refl _, Nat.zero_le _, (fun _ h => by cases h), (fun _ h => by cases h)⟩ (Nat.zero_le _)
              rw [tag_nil k (unhide HK), ← unhide HS] at h
              exact h.mono fun e w' ⟨he, hgw⟩ => ⟨he, tr gV hgw⟩
            have sums : ∀ (K : List UInt8) (_ : K.length = 32) V, W6.grownBy V none → Calls Try.prog 7 #[.agg (K.map bv).toArray, .slice ao L cap] V fun e w' => e = .returned (.agg ((tagL K l0).map bv).toArray) ∧ W6.grownBy w' none := by
              intro K hKl V gV
              have h := psum_any V K hKl ao cap l0 (hb6.kept gV (fun _ e => by cases e)) (by rw [← unhide HL]; omega)
              rw [← unhide HL] at h
              exact h.mono fun e w' ⟨he, hgw⟩ => ⟨he, tr gV hgw⟩
            have cz : ∀ V, W6.grownBy V none → Calls Try.prog 7 #[.agg (Q0.map bv).toArray, .slice ao L cap] V fun e w' => e = .returned (.agg (s.map bv).toArray) ∧ W6.grownBy w' none := by
              intro V gV
              have h := sums Q0 (unhide HQ0L) V gV
              rw [tag_zero Q0 l0 (unhide HQ0L) (by rw [unhide HQE, List.take_append_of_le_length (by simp), List.take_of_length_le (by simp)])] at h
              rw [show Q0.drop 16 = s by rw [unhide HQE, List.drop_append_of_le_length (by simp), List.drop_of_length_le (by simp), List.nil_append]] at h
              exact h
            have ck : ∀ V, W6.grownBy V none → Calls Try.prog 7 #[.agg (k.map bv).toArray, .slice ao L cap] V fun e w' => e = .returned (.agg (T.map bv).toArray) ∧ W6.grownBy w' none := by
              intro V gV
              rw [hT]
              exact sums k (unhide HK) V gV
            have cq : ∀ V, W6.grownBy V none → Calls Try.prog 7 #[.agg (Q.map bv).toArray, .slice ao L cap] V fun e w' => e = .returned (.agg (T.map bv).toArray) ∧ W6.grownBy w' none := by
              intro V gV
              have h := sums Q (unhide HQL) V gV
              rw [show tagL Q l0 = T by rw [hT, unhide HQE2, unhide HC, unhide HHF, unhide HS]; exact tag_clamped k l0 (unhide HK)] at h
              exact h
            have cc : ∀ V, W6.grownBy V none → Calls Try.prog 9 #[.agg (C.map bv).toArray] V fun e w' => e = .returned (.agg (C.map bv).toArray) ∧ W6.grownBy w' none := by
              intro V gV
              have h := pclamp_any V C (unhide HCL)
              rw [show clampL C = C by rw [unhide HC]; exact clampL_twice _] at h
              exact h.mono fun e w' ⟨he, hgw⟩ => ⟨he, tr gV hgw⟩
            have c1 : ∀ V, W6.grownBy V none → Calls Try.prog 11 #[] V fun e w' => e = .returned (.bool true) ∧ W6.grownBy w' none := fun V gV => (pone_any V).mono fun e w' ⟨he, hgw⟩ => ⟨he, tr gV hgw⟩
            have h0 : W6.grownBy W6.drew none := gb_drew (gb_refl _ _)
            clear hW6 hK hZ hS hC hQ hg hT sums hb6 hr hlt
            go_wp2
            refine wp_region_noPanic ?_
            refine wp_region_held_drew (S := fun V => W6.grownBy V none) (by kernel_rfl) h0 (fun _ => ?_)
            refine wpAnyH_take (i := 0) (oi := { dst := some 50, op := Op.load 22 (Operand.tmp 2), type := _, pos := _, after := _, guard := _ }) (v := .agg (k.map bv).toArray) rfl (by kernel_rfl) (by kernel_rfl) (by kernel_rfl) (fun _ _ _ h => h) (yieldsIf_load_mid (by rfl) _ _ rfl _ _ rfl (k.map bv) _ (fun V hV => range_kept hrK hV (by simp)) Try.underlying22 rfl hiK) h0 ?_
            (try simp only [Act.put, List.setIfInBounds_toArray, List.set_cons_zero, List.set_cons_succ])
            refine wpAnyH_take (i := 2) (oi := { dst := some 52, op := Op.load 24 (Operand.tmp 8), type := _, pos := _, after := _, guard := _ }) (v := .agg (s.map bv).toArray) rfl (by kernel_rfl) (by kernel_rfl) (by kernel_rfl) (fun _ _ _ h => h) (yieldsIf_load_mid (by rfl) _ _ rfl _ _ rfl (s.map bv) _ (fun V hV => range_kept hrS hV (by simp)) Try.underlying24 rfl hiS) h0 ?_
            (try simp only [Act.put, List.setIfInBounds_toArray, List.set_cons_zero, List.set_cons_succ])
            refine wpAnyH_ready (rs := [1]) (by kernel_rfl) (by simp) ?_
            refine AllReadyH.cons (o := { dst := some 51, op := Op.call { callee := Callee.value (Operand.func 7), args := #[(Operand.tmp 50), Operand.const (Value.slice none 0 0)], argTypes := #[22, 23] }, type := _, pos := _, after := _, guard := _ }) rfl (fun K9 hK9 => ?_) AllReadyH.nil
            go_simp
            go_at_call 7
            refine (cn _ h0).mono ?_
            rintro e w3 ⟨rfl, g3⟩
            go_wp2_with fail
            refine hK9.out _ _ g3 (fun _ => ?_)
            clear hK9 K9
            (try simp only [Act.put, List.setIfInBounds_toArray, List.set_cons_zero, List.set_cons_succ])
            refine wpAnyH_take (i := 3) (oi := { dst := some 53, op := Op.binOp BinOp.eql 24 (Operand.tmp 51) (Operand.tmp 52) 24, type := _, pos := _, after := _, guard := _ }) (v := .bool true) rfl (by kernel_rfl) (by kernel_rfl) (by kernel_rfl) (fun _ _ _ h => h) (Or.inl ⟨by rfl, fun V (hV : W6.grownBy V none) => by go_simp⟩) g3 ?_
            (try simp only [Act.put, List.setIfInBounds_toArray, List.set_cons_zero, List.set_cons_succ])
            refine wpAnyH_take (i := 4) (oi := { dst := some 54, op := Op.move (Operand.tmp 53), type := _, pos := _, after := _, guard := _ }) (v := .bool true) rfl (by kernel_rfl) (by kernel_rfl) (by kernel_rfl) (fun _ _ _ h => h) (Or.inl ⟨by rfl, fun V (hV : W6.grownBy V none) => by go_simp⟩) g3 ?_
            (try simp only [Act.put, List.setIfInBounds_toArray, List.set_cons_zero, List.set_cons_succ])
            refine wpAnyH_take (i := 5) (oi := { dst := some 55, op := Op.load 22 (Operand.tmp 6), type := _, pos := _, after := _, guard := _ }) (v := .agg (Q0.map bv).toArray) rfl (by kernel_rfl) (by kernel_rfl) (by kernel_rfl) (fun _ _ _ h => h) (yieldsIf_load_mid (by rfl) _ _ rfl _ _ rfl (Q0.map bv) _ (fun V hV => range_kept hrZ hV (by simp)) Try.underlying22 rfl hiZ) g3 ?_
            (try simp only [Act.put, List.setIfInBounds_toArray, List.set_cons_zero, List.set_cons_succ])
            refine wpAnyH_take (i := 6) (oi := { dst := some 56, op := Op.move (Operand.tmp 1), type := _, pos := _, after := _, guard := _ }) (v := .slice ao L cap) rfl (by kernel_rfl) (by kernel_rfl) (by kernel_rfl) (fun _ _ _ h => h) (Or.inl ⟨by rfl, fun V (hV : W6.grownBy V none) => by go_simp⟩) g3 ?_
            (try simp only [Act.put, List.setIfInBounds_toArray, List.set_cons_zero, List.set_cons_succ])
            refine wpAnyH_take (i := 8) (oi := { dst := some 58, op := Op.load 24 (Operand.tmp 8), type := _, pos := _, after := _, guard := _ }) (v := .agg (s.map bv).toArray) rfl (by kernel_rfl) (by kernel_rfl) (by kernel_rfl) (fun _ _ _ h => h) (yieldsIf_load_mid (by rfl) _ _ rfl _ _ rfl (s.map bv) _ (fun V hV => range_kept hrS hV (by simp)) Try.underlying24 rfl hiS) g3 ?_
            (try simp only [Act.put, List.setIfInBounds_toArray, List.set_cons_zero, List.set_cons_succ])
            refine wpAnyH_ready (rs := [7]) (by kernel_rfl) (by simp) ?_
            refine AllReadyH.cons (o := { dst := some 57, op := Op.call { callee := Callee.value (Operand.func 7), args := #[(Operand.tmp 55), (Operand.tmp 56)], argTypes := #[22, 23] }, type := _, pos := _, after := _, guard := _ }) rfl (fun K9 hK9 => ?_) AllReadyH.nil
            go_simp
            go_at_call 7
            refine (cz _ g3).mono ?_
            rintro e w4 ⟨rfl, g4⟩
            go_wp2_with fail
            refine hK9.out _ _ g4 (fun _ => ?_)
            clear hK9 K9
            (try simp only [Act.put, List.setIfInBounds_toArray, List.set_cons_zero, List.set_cons_succ])
            refine wpAnyH_take (i := 9) (oi := { dst := some 59, op := Op.binOp BinOp.eql 24 (Operand.tmp 57) (Operand.tmp 58) 24, type := _, pos := _, after := _, guard := _ }) (v := .bool true) rfl (by kernel_rfl) (by kernel_rfl) (by kernel_rfl) (fun _ _ _ h => h) (Or.inl ⟨by rfl, fun V (hV : W6.grownBy V none) => by go_simp⟩) g4 ?_
            (try simp only [Act.put, List.setIfInBounds_toArray, List.set_cons_zero, List.set_cons_succ])
            refine wpAnyH_take (i := 10) (oi := { dst := some 60, op := Op.pick (Operand.tmp 54) (Operand.tmp 59) (Operand.const (Value.bool false)), type := _, pos := _, after := _, guard := _ }) (v := .bool true) rfl (by kernel_rfl) (by kernel_rfl) (by kernel_rfl) (fun _ _ _ h => h) (Or.inl ⟨by rfl, fun V (hV : W6.grownBy V none) => by go_simp⟩) g4 ?_
            (try simp only [Act.put, List.setIfInBounds_toArray, List.set_cons_zero, List.set_cons_succ])
            refine wpAnyH_take (i := 11) (oi := { dst := some 61, op := Op.move (Operand.tmp 60), type := _, pos := _, after := _, guard := _ }) (v := .bool true) rfl (by kernel_rfl) (by kernel_rfl) (by kernel_rfl) (fun _ _ _ h => h) (Or.inl ⟨by rfl, fun V (hV : W6.grownBy V none) => by go_simp⟩) g4 ?_
            (try simp only [Act.put, List.setIfInBounds_toArray, List.set_cons_zero, List.set_cons_succ])
            refine wpAnyH_take (i := 12) (oi := { dst := some 62, op := Op.load 24 (Operand.tmp 9), type := _, pos := _, after := _, guard := _ }) (v := .agg (C.map bv).toArray) rfl (by kernel_rfl) (by kernel_rfl) (by kernel_rfl) (fun _ _ _ h => h) (yieldsIf_load_mid (by rfl) _ _ rfl _ _ rfl (C.map bv) _ (fun V hV => range_kept hrC hV (by simp)) Try.underlying24 rfl hiC) g4 ?_
            (try simp only [Act.put, List.setIfInBounds_toArray, List.set_cons_zero, List.set_cons_succ])
            refine wpAnyH_take (i := 14) (oi := { dst := some 64, op := Op.load 24 (Operand.tmp 9), type := _, pos := _, after := _, guard := _ }) (v := .agg (C.map bv).toArray) rfl (by kernel_rfl) (by kernel_rfl) (by kernel_rfl) (fun _ _ _ h => h) (yieldsIf_load_mid (by rfl) _ _ rfl _ _ rfl (C.map bv) _ (fun V hV => range_kept hrC hV (by simp)) Try.underlying24 rfl hiC) g4 ?_
            (try simp only [Act.put, List.setIfInBounds_toArray, List.set_cons_zero, List.set_cons_succ])
            refine wpAnyH_ready (rs := [13]) (by kernel_rfl) (by simp) ?_
            refine AllReadyH.cons (o := { dst := some 63, op := Op.call { callee := Callee.value (Operand.func 9), args := #[(Operand.tmp 62)], argTypes := #[24] }, type := _, pos := _, after := _, guard := _ }) rfl (fun K9 hK9 => ?_) AllReadyH.nil
            go_simp
            go_at_call 9
            refine (cc _ g4).mono ?_
            rintro e w5 ⟨rfl, g5⟩
            go_wp2_with fail
            refine hK9.out _ _ g5 (fun _ => ?_)
            clear hK9 K9
            (try simp only [Act.put, List.setIfInBounds_toArray, List.set_cons_zero, List.set_cons_succ])
            refine wpAnyH_take (i := 15) (oi := { dst := some 65, op := Op.binOp BinOp.eql 24 (Operand.tmp 63) (Operand.tmp 64) 24, type := _, pos := _, after := _, guard := _ }) (v := .bool true) rfl (by kernel_rfl) (by kernel_rfl) (by kernel_rfl) (fun _ _ _ h => h) (Or.inl ⟨by rfl, fun V (hV : W6.grownBy V none) => by go_simp⟩) g5 ?_
            (try simp only [Act.put, List.setIfInBounds_toArray, List.set_cons_zero, List.set_cons_succ])
            refine wpAnyH_take (i := 16) (oi := { dst := some 66, op := Op.pick (Operand.tmp 61) (Operand.tmp 65) (Operand.const (Value.bool false)), type := _, pos := _, after := _, guard := _ }) (v := .bool true) rfl (by kernel_rfl) (by kernel_rfl) (by kernel_rfl) (fun _ _ _ h => h) (Or.inl ⟨by rfl, fun V (hV : W6.grownBy V none) => by go_simp⟩) g5 ?_
            (try simp only [Act.put, List.setIfInBounds_toArray, List.set_cons_zero, List.set_cons_succ])
            refine wpAnyH_take (i := 17) (oi := { dst := some 67, op := Op.move (Operand.tmp 66), type := _, pos := _, after := _, guard := _ }) (v := .bool true) rfl (by kernel_rfl) (by kernel_rfl) (by kernel_rfl) (fun _ _ _ h => h) (Or.inl ⟨by rfl, fun V (hV : W6.grownBy V none) => by go_simp⟩) g5 ?_
            (try simp only [Act.put, List.setIfInBounds_toArray, List.set_cons_zero, List.set_cons_succ])
            refine wpAnyH_take (i := 18) (oi := { dst := some 68, op := Op.load 22 (Operand.tmp 10), type := _, pos := _, after := _, guard := _ }) (v := .agg (Q.map bv).toArray) rfl (by kernel_rfl) (by kernel_rfl) (by kernel_rfl) (fun _ _ _ h => h) (yieldsIf_load_mid (by rfl) _ _ rfl _ _ rfl (Q.map bv) _ (fun V hV => range_kept hrQ hV (by simp)) Try.underlying22 rfl hiQ) g5 ?_
            (try simp only [Act.put, List.setIfInBounds_toArray, List.set_cons_zero, List.set_cons_succ])
            refine wpAnyH_take (i := 19) (oi := { dst := some 69, op := Op.move (Operand.tmp 1), type := _, pos := _, after := _, guard := _ }) (v := .slice ao L cap) rfl (by kernel_rfl) (by kernel_rfl) (by kernel_rfl) (fun _ _ _ h => h) (Or.inl ⟨by rfl, fun V (hV : W6.grownBy V none) => by go_simp⟩) g5 ?_
            (try simp only [Act.put, List.setIfInBounds_toArray, List.set_cons_zero, List.set_cons_succ])
            refine wpAnyH_take (i := 21) (oi := { dst := some 71, op := Op.load 22 (Operand.tmp 2), type := _, pos := _, after := _, guard := _ }) (v := .agg (k.map bv).toArray) rfl (by kernel_rfl) (by kernel_rfl) (by kernel_rfl) (fun _ _ _ h => h) (yieldsIf_load_mid (by rfl) _ _ rfl _ _ rfl (k.map bv) _ (fun V hV => range_kept hrK hV (by simp)) Try.underlying22 rfl hiK) g5 ?_
            (try simp only [Act.put, List.setIfInBounds_toArray, List.set_cons_zero, List.set_cons_succ])
            refine wpAnyH_take (i := 22) (oi := { dst := some 72, op := Op.move (Operand.tmp 1), type := _, pos := _, after := _, guard := _ }) (v := .slice ao L cap) rfl (by kernel_rfl) (by kernel_rfl) (by kernel_rfl) (fun _ _ _ h => h) (Or.inl ⟨by rfl, fun V (hV : W6.grownBy V none) => by go_simp⟩) g5 ?_
            (try simp only [Act.put, List.setIfInBounds_toArray, List.set_cons_zero, List.set_cons_succ])
            refine wpAnyH_ready (rs := [20]) (by kernel_rfl) (by simp) ?_
            refine AllReadyH.cons (o := { dst := some 70, op := Op.call { callee := Callee.value (Operand.func 7), args := #[(Operand.tmp 68), (Operand.tmp 69)], argTypes := #[22, 23] }, type := _, pos := _, after := _, guard := _ }) rfl (fun K9 hK9 => ?_) AllReadyH.nil
            go_simp
            go_at_call 7
            refine (cq _ g5).mono ?_
            rintro e w6 ⟨rfl, g6⟩
            go_wp2_with fail
            refine hK9.out _ _ g6 (fun _ => ?_)
            clear hK9 K9
            (try simp only [Act.put, List.setIfInBounds_toArray, List.set_cons_zero, List.set_cons_succ])
            refine wpAnyH_ready (rs := [23]) (by kernel_rfl) (by simp) ?_
            refine AllReadyH.cons (o := { dst := some 73, op := Op.call { callee := Callee.value (Operand.func 7), args := #[(Operand.tmp 71), (Operand.tmp 72)], argTypes := #[22, 23] }, type := _, pos := _, after := _, guard := _ }) rfl (fun K9 hK9 => ?_) AllReadyH.nil
            go_simp
            go_at_call 7
            refine (ck _ g6).mono ?_
            rintro e w7 ⟨rfl, g7⟩
            go_wp2_with fail
            refine hK9.out _ _ g7 (fun _ => ?_)
            clear hK9 K9
            (try simp only [Act.put, List.setIfInBounds_toArray, List.set_cons_zero, List.set_cons_succ])
            refine wpAnyH_take (i := 24) (oi := { dst := some 74, op := Op.binOp BinOp.eql 24 (Operand.tmp 70) (Operand.tmp 73) 24, type := _, pos := _, after := _, guard := _ }) (v := .bool true) rfl (by kernel_rfl) (by kernel_rfl) (by kernel_rfl) (fun _ _ _ h => h) (Or.inl ⟨by rfl, fun V (hV : W6.grownBy V none) => by go_simp⟩) g7 ?_
            (try simp only [Act.put, List.setIfInBounds_toArray, List.set_cons_zero, List.set_cons_succ])
            refine wpAnyH_take (i := 25) (oi := { dst := some 75, op := Op.pick (Operand.tmp 67) (Operand.tmp 74) (Operand.const (Value.bool false)), type := _, pos := _, after := _, guard := _ }) (v := .bool true) rfl (by kernel_rfl) (by kernel_rfl) (by kernel_rfl) (fun _ _ _ h => h) (Or.inl ⟨by rfl, fun V (hV : W6.grownBy V none) => by go_simp⟩) g7 ?_
            (try simp only [Act.put, List.setIfInBounds_toArray, List.set_cons_zero, List.set_cons_succ])
            refine wpAnyH_take (i := 26) (oi := { dst := some 76, op := Op.move (Operand.tmp 75), type := _, pos := _, after := _, guard := _ }) (v := .bool true) rfl (by kernel_rfl) (by kernel_rfl) (by kernel_rfl) (fun _ _ _ h => h) (Or.inl ⟨by rfl, fun V (hV : W6.grownBy V none) => by go_simp⟩) g7 ?_
            (try simp only [Act.put, List.setIfInBounds_toArray, List.set_cons_zero, List.set_cons_succ])
            refine wpAnyH_ready (rs := [27]) (by kernel_rfl) (by simp) ?_
            refine AllReadyH.cons (o := { dst := some 77, op := Op.call { callee := Callee.value (Operand.func 11), args := #[], argTypes := #[] }, type := _, pos := _, after := _, guard := _ }) rfl (fun K9 hK9 => ?_) AllReadyH.nil
            go_simp
            go_at_call 11
            refine (c1 _ g7).mono ?_
            rintro e w8 ⟨rfl, g8⟩
            go_wp2_with fail
            refine hK9.out _ _ g8 (fun _ => ?_)
            clear hK9 K9
            (try simp only [Act.put, List.setIfInBounds_toArray, List.set_cons_zero, List.set_cons_succ])
            refine wpAnyH_take (i := 28) (oi := { dst := some 78, op := Op.pick (Operand.tmp 76) (Operand.tmp 77) (Operand.const (Value.bool false)), type := _, pos := _, after := _, guard := _ }) (v := .bool true) rfl (by kernel_rfl) (by kernel_rfl) (by kernel_rfl) (fun _ _ _ h => h) (Or.inl ⟨by rfl, fun V (hV : W6.grownBy V none) => by go_simp⟩) g8 ?_
            (try simp only [Act.put, List.setIfInBounds_toArray, List.set_cons_zero, List.set_cons_succ])
            refine wpAnyH_take (i := 29) (oi := { dst := some 4, op := Op.assign (Operand.tmp 78), type := _, pos := _, after := _, guard := _ }) (v := .bool true) rfl (by kernel_rfl) (by kernel_rfl) (by kernel_rfl) (fun _ _ _ h => h) (Or.inl ⟨by rfl, fun V (hV : W6.grownBy V none) => by go_simp⟩) g8 ?_
            (try simp only [Act.put, List.setIfInBounds_toArray, List.set_cons_zero, List.set_cons_succ])
            refine wpAnyH_done (by kernel_rfl) ?_ _
            refine NoPanic.normal ?_
            go_wp2
            go_ret
            exact ⟨rfl, tr hg6 g8⟩

end Go.Proofs.Ytagdileacidnjaa
