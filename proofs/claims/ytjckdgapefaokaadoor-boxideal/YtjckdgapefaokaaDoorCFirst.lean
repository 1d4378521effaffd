/- What chacha's laidOut answers: the words that a block begins with. Where the table holds what the program's text lays in it, of a key of 32 bytes and a nonce of 12. -/
import Derived.Test.YtjckdgapefaokaaDoorCLaid
namespace Go.Proofs.YtjckdgapefaokaaDoor
open Go.RowKit

set_option maxRecDepth 100000 in
set_option maxHeartbeats 2000000 in
theorem laidOut_any (w : World) (k n : List UInt8) (c : W) (hk : k.length = 32) (hn : n.length = 12) (hT : CTab w) :
    Calls Tryd.prog 69 #[.agg (k.map bv).toArray, .agg (n.map bv).toArray, .int .u32 (wz c)] w fun e w' => e = .returned (.agg ((firstL k n c).map wv).toArray) ∧ w.grownBy w' none := by
  have hi16 : (Tryd.prog.info? 126).map (·.size) = some 16 := by kernel_rfl
  obtain ⟨KA, hKA⟩ : ∃ A : Array Value, A = (k.map bv).toArray := ⟨_, rfl⟩
  obtain ⟨NA, hNA⟩ : ∃ A : Array Value, A = (n.map bv).toArray := ⟨_, rfl⟩
  obtain ⟨Z, hZ⟩ : ∃ A : Array Value, A = ((List.replicate 16 (0 : W)).map wv).toArray := ⟨_, rfl⟩
  have hz := zero16w
  rw [← hZ] at hz
  rw [← hKA, ← hNA]
  obtain ⟨F, hF⟩ : ∃ F, F = firstL k n c := ⟨_, rfl⟩
  have hFl : F.length = 16 := by rw [hF]; exact firstL_length _ _ _
  obtain ⟨W1, hW1⟩ : ∃ W1, W1 = (((w.alloc (.cells KA 37)).alloc (.cells NA 64)).alloc (.cells Z 126)).alloc (.cells Z 126) := ⟨_, rfl⟩
  have hg1 : w.grownBy W1 none := by rw [hW1]; exact gb_alloc (gb_alloc (gb_alloc (gb_alloc (gb_refl _ _) _) _) _) _
  have hK1 : Blk W1 w.heap.size 37 (k.map bv) := by
    rw [hW1, hKA]; exact (((Blk.new w 37 (k.map bv)).alloc _).alloc _).alloc _
  have hN1 : Blk W1 (w.heap.size + 1) 64 (n.map bv) := by
    have := Blk.new (w.alloc (.cells KA 37)) 64 (n.map bv)
    rw [World.size_alloc] at this
    rw [hW1, hNA]; exact (this.alloc _).alloc _
  have hR1 : Blk W1 (w.heap.size + 2) 126 ((List.replicate 16 (0 : W)).map wv) := by
    have := Blk.new ((w.alloc (.cells KA 37)).alloc (.cells NA 64)) 126 ((List.replicate 16 (0 : W)).map wv)
    rw [World.size_alloc, World.size_alloc] at this
    rw [hW1, hZ]; exact this.alloc _
  have hB1 : Blk W1 (w.heap.size + 3) 126 ((F.take 0 ++ List.replicate (16 - 0) 0).map wv) := by
    have := Blk.new (((w.alloc (.cells KA 37)).alloc (.cells NA 64)).alloc (.cells Z 126)) 126 ((List.replicate 16 (0 : W)).map wv)
    rw [World.size_alloc, World.size_alloc, World.size_alloc] at this
    rw [List.take_zero, List.nil_append, hW1]
    conv => arg 1; arg 2; rw [hZ]
    exact this
  obtain ⟨tq, fq, hq⟩ := (hT.kept0 hg1).fw
  have HKA := hide hKA
  have HNA := hide hNA
  have HZ := hide hZ
  have HF := hide hF
  have HFL := hide hFl
  have HW1 := hide hW1
  have HK := hide hk
  have HN := hide hn
  have HQ := hide hq
  have HT := hide hT
  have HK1 := hide hK1
  have HN1 := hide hN1
  have HR1 := hide hR1
  have HB1 := hide hB1
  clear hKA hNA hZ hF hFl hW1 hk hn hq hT hK1 hN1 hR1 hB1
  go_enter Tryd.func69, Tryd.ntmps69
  go_wp2_with (rw [← unhide HW1]; refine wpList_load_row rfl 158 _ rfl 2 rfl _ _ _ _ (unhide HQ) Tryd.underlying158 rfl (by kernel_rfl) ?_)
  go_loopw [13] (fun i wr => ∃ r : Nat, r ≤ 4 ∧ i = .int .i64 r ∧ Blk wr (w.heap.size + 3) 126 ((F.take (r) ++ List.replicate (16 - (r)) 0).map wv) ∧ Blk wr (w.heap.size + 2) 126 ((List.replicate 16 (0 : W)).map wv) ∧ Blk wr w.heap.size 37 (k.map bv) ∧ Blk wr (w.heap.size + 1) 64 (n.map bv) ∧ w.grownBy wr none) (fun i _ => 4 - (intOf i).toNat)
  case atStart => exact ⟨0, Nat.zero_le _, rfl, unhide HB1, unhide HR1, unhide HK1, unhide HN1, hg1⟩
  case round =>
    clear HB1 HR1 HK1 HN1
    obtain ⟨r, hr, rfl, hB, hR, hKb, hNb, hg⟩ := hrel
    by_cases hlt : r < 4
    · obtain ⟨x, hx⟩ : ∃ x, x = Fw.getD r 0 := ⟨_, rfl⟩
      have hidx := index_row 158 92 4 (Fw.map wv) r (.int .u32 (wz x)) Tryd.underlying158 size_word agg_word hlt (by
        have hl2 : r < Fw.length := hlt
        rw [List.getElem?_map, List.getElem?_eq_getElem hl2, hx, show Fw.getD r 0 = Fw[r] by simp [List.getD, hl2]]; rfl)
      have hcs : (wr.cell? ⟨w.heap.size + 3, r, none⟩).isSome = true ∧ wr.frozen? ⟨w.heap.size + 3, r, none⟩ = false := by
        have := hB.there (r) 1 (by simp [unhide HFL]; omega) 0 (by omega)
        simpa using this
      obtain ⟨hcs, hcf⟩ := hcs
      obtain ⟨ov, hcs⟩ := Option.isSome_iff_exists.1 hcs
      have hq0 : (0 : Int) ≤ (r : Int) := by omega
      have hq1 : (r : Int) < 4 := by omega
      have hq2 : (r : Int) < 16 := by omega
      have HX := hide hx
      have HB := hide hB
      have HR := hide hR
      have HKb := hide hKb
      have HNb := hide hNb
      clear hx hB hR hKb hNb
      go_wp2
      go_roundw
      case rel =>
        have hS := (unhide HB).set (r) (wv x)
        rw [unhide HF, first_step k n c (r) (by omega) x (by rw [firstL_lo k n c r hlt, unhide HX]), ← unhide HF] at hS
        exact ⟨r + 1, by omega, by go_num, hS, (unhide HR).other _ _ (by simp <;> omega), (unhide HKb).other _ _ (by simp <;> omega), (unhide HNb).other _ _ (by simp <;> omega), gb_setCell hg _ _ (Or.inl (by simp <;> omega))⟩
      case measure => simp [intOf]; omega
    · obtain rfl : r = 4 := by omega
      rw [show ((4 : Nat) : Int) = 4 from rfl]
      have HB := hide hB
      have HR := hide hR
      have HKb := hide hKb
      have HNb := hide hNb
      clear hB hR hKb hNb
      go_wp2
      go_loopw [21] (fun i wr => ∃ r : Nat, r ≤ 8 ∧ i = .int .i64 r ∧ Blk wr (w.heap.size + 3) 126 ((F.take (4 + r) ++ List.replicate (16 - (4 + r)) 0).map wv) ∧ Blk wr (w.heap.size + 2) 126 ((List.replicate 16 (0 : W)).map wv) ∧ Blk wr w.heap.size 37 (k.map bv) ∧ Blk wr (w.heap.size + 1) 64 (n.map bv) ∧ w.grownBy wr none) (fun i _ => 8 - (intOf i).toNat)
      case atStart => exact ⟨0, Nat.zero_le _, rfl, unhide HB, unhide HR, unhide HKb, unhide HNb, hg⟩
      case round =>
        clear HB HR HKb HNb hg
        obtain ⟨r, hr, rfl, hB, hR, hKb, hNb, hg⟩ := hrel
        by_cases hlt : r < 8
        · have hsl := slice_arr_from 37 5 32 Tryd.underlying37 size_byte w.heap.size 0 (4 * r) ((r : Int) * 4) (by omega) (by omega)
          rw [Nat.zero_add] at hsl
          have hwo := wordOf_any wr w.heap.size (4 * r) (32 - 4 * r) (32 - 4 * r) (by omega) _ _ _ _ (hKb.byte (4 * r) (by rw [unhide HK]; omega)) (hKb.byte (4 * r + 1) (by rw [unhide HK]; omega)) (hKb.byte (4 * r + 2) (by rw [unhide HK]; omega)) (hKb.byte (4 * r + 3) (by rw [unhide HK]; omega))
          rw [show leOf (k.getD (4 * r) 0) (k.getD (4 * r + 1) 0) (k.getD (4 * r + 2) 0) (k.getD (4 * r + 3) 0) = leAt k r from rfl] at hwo
          obtain ⟨x, hx⟩ : ∃ x, x = leAt k r := ⟨_, rfl⟩
          rw [← hx] at hwo
          obtain ⟨q, hq⟩ : ∃ q : Nat, q = 4 + r := ⟨_, rfl⟩
          obtain ⟨sp, hsp⟩ : ∃ sp : Nat, sp = 4 * r := ⟨_, rfl⟩
          obtain ⟨sn, hsn⟩ : ∃ sn : Nat, sn = 32 - 4 * r := ⟨_, rfl⟩
          rw [← hsp, show 32 - sp = sn by omega] at hsl hwo
          rw [← hq] at hB
          have hq0 : (0 : Int) ≤ (r : Int) := by omega
          have hq1 : (r : Int) < 8 := by omega
          have hw4 : IntKind.i64.wrap (4 + (r : Int)) = (q : Int) := by rw [IntKind.wrap_i64]; omega
          have b0 : (0 : Int) ≤ (q : Int) := by omega
          have b1 : (q : Int) < 16 := by omega
          have HX := hide hx
          have HQQ := hide hq
          have HB := hide hB
          have HR := hide hR
          have HKb := hide hKb
          have HNb := hide hNb
          clear hx hB hR hKb hNb hq hsp hsn
          go_wp2_with fail
          refine hwo.mono ?_
          rintro e w2 ⟨rfl, g2⟩
          have hB := (unhide HB).kept g2 (by simp)
          have hg2 := gb_trans hg g2 (fun _ e => by cases e)
          have hsz := g2.size
          have hqq := unhide HQQ
          have hcs : (w2.cell? ⟨w.heap.size + 3, q, none⟩).isSome = true ∧ w2.frozen? ⟨w.heap.size + 3, q, none⟩ = false := by
            have := hB.there (q) 1 (by simp [unhide HFL]; omega) 0 (by omega)
            simpa using this
          obtain ⟨hcs, hcf⟩ := hcs
          obtain ⟨ov, hcs⟩ := Option.isSome_iff_exists.1 hcs
          have HB2 := hide hB
          have HZ2 := hide hsz
          have HQ3 := hide hqq
          clear hB hsz hqq
          go_wp2
          go_roundw
          case rel =>
            have hS := (unhide HB2).set q (wv x)
            rw [unhide HF, first_step k n c q (by have := unhide HQ3; omega) x (by rw [unhide HQ3, firstL_key k n c r hlt, unhide HX]), ← unhide HF] at hS
            rw [unhide HQ3, show 4 + r + 1 = 4 + (r + 1) by omega] at hS
            rw [unhide HQ3]
            refine ⟨r + 1, by omega, by go_num, hS, ((unhide HR).kept g2 (by simp)).other _ _ (by simp <;> omega), ((unhide HKb).kept g2 (by simp)).other _ _ (by simp <;> omega), ((unhide HNb).kept g2 (by simp)).other _ _ (by simp <;> omega), gb_setCell hg2 _ _ (Or.inl (by simp <;> omega))⟩
          case measure => simp [intOf]; omega
        · obtain rfl : r = 8 := by omega
          rw [show ((8 : Nat) : Int) = 8 from rfl]
          rw [show 4 + 8 = 12 from rfl] at hB
          have hcs : (wr.cell? ⟨w.heap.size + 3, 12, none⟩).isSome = true ∧ wr.frozen? ⟨w.heap.size + 3, 12, none⟩ = false := by
            have := hB.there 12 1 (by simp [unhide HFL]) 0 (by omega)
            simpa using this
          obtain ⟨hcs, hcf⟩ := hcs
          obtain ⟨ov, hcs⟩ := Option.isSome_iff_exists.1 hcs
          have hS := hB.set 12 (wv c)
          rw [unhide HF, first_step k n c 12 (by omega) c (firstL_count k n c), ← unhide HF] at hS
          have hR2 := hR.other ⟨w.heap.size + 3, 12, none⟩ (wv c) (by simp)
          have hK2 := hKb.other ⟨w.heap.size + 3, 12, none⟩ (wv c) (by simp)
          have hN2 := hNb.other ⟨w.heap.size + 3, 12, none⟩ (wv c) (by simp)
          have hg2 : w.grownBy (wr.setCell ⟨w.heap.size + 3, 12, none⟩ (wv c)) none := gb_setCell hg _ _ (Or.inl (by simp <;> omega))
          have HB := hide hS
          have HR := hide hR2
          have HKb := hide hK2
          have HNb := hide hN2
          clear hB hR hKb hNb hS hR2 hK2 hN2
          go_wp2
          go_loopw [34] (fun i wr => ∃ r : Nat, r ≤ 3 ∧ i = .int .i64 r ∧ Blk wr (w.heap.size + 3) 126 ((F.take (13 + r) ++ List.replicate (16 - (13 + r)) 0).map wv) ∧ Blk wr (w.heap.size + 2) 126 ((List.replicate 16 (0 : W)).map wv) ∧ Blk wr w.heap.size 37 (k.map bv) ∧ Blk wr (w.heap.size + 1) 64 (n.map bv) ∧ w.grownBy wr none) (fun i _ => 3 - (intOf i).toNat)
          case atStart => exact ⟨0, Nat.zero_le _, rfl, unhide HB, unhide HR, unhide HKb, unhide HNb, hg2⟩
          case round =>
            clear HB HR HKb HNb hg hg2 hcs hcf
            obtain ⟨r, hr, rfl, hB, hR, hKb, hNb, hg⟩ := hrel
            by_cases hlt : r < 3
            · have hsl := slice_arr_from 64 5 12 Tryd.underlying64 size_byte (w.heap.size + 1) 0 (4 * r) ((r : Int) * 4) (by omega) (by omega)
              rw [Nat.zero_add] at hsl
              have hwo := wordOf_any wr (w.heap.size + 1) (4 * r) (12 - 4 * r) (12 - 4 * r) (by omega) _ _ _ _ (hNb.byte (4 * r) (by rw [unhide HN]; omega)) (hNb.byte (4 * r + 1) (by rw [unhide HN]; omega)) (hNb.byte (4 * r + 2) (by rw [unhide HN]; omega)) (hNb.byte (4 * r + 3) (by rw [unhide HN]; omega))
              rw [show leOf (n.getD (4 * r) 0) (n.getD (4 * r + 1) 0) (n.getD (4 * r + 2) 0) (n.getD (4 * r + 3) 0) = leAt n r from rfl] at hwo
              obtain ⟨x, hx⟩ : ∃ x, x = leAt n r := ⟨_, rfl⟩
              rw [← hx] at hwo
              obtain ⟨q, hq⟩ : ∃ q : Nat, q = 13 + r := ⟨_, rfl⟩
              obtain ⟨sp, hsp⟩ : ∃ sp : Nat, sp = 4 * r := ⟨_, rfl⟩
              obtain ⟨sn, hsn⟩ : ∃ sn : Nat, sn = 12 - 4 * r := ⟨_, rfl⟩
              rw [← hsp, show 12 - sp = sn by omega] at hsl hwo
              rw [← hq] at hB
              have hq0 : (0 : Int) ≤ (r : Int) := by omega
              have hq1 : (r : Int) < 3 := by omega
              have hw4 : IntKind.i64.wrap (13 + (r : Int)) = (q : Int) := by rw [IntKind.wrap_i64]; omega
              have b0 : (0 : Int) ≤ (q : Int) := by omega
              have b1 : (q : Int) < 16 := by omega
              have HX := hide hx
              have HQQ := hide hq
              have HB := hide hB
              have HR := hide hR
              have HKb := hide hKb
              have HNb := hide hNb
              clear hx hB hR hKb hNb hq hsp hsn
              go_wp2_with fail
              refine hwo.mono ?_
              rintro e w2 ⟨rfl, g2⟩
              have hB := (unhide HB).kept g2 (by simp)
              have hg2 := gb_trans hg g2 (fun _ e => by cases e)
              have hsz := g2.size
              have hqq := unhide HQQ
              have hcs : (w2.cell? ⟨w.heap.size + 3, q, none⟩).isSome = true ∧ w2.frozen? ⟨w.heap.size + 3, q, none⟩ = false := by
                have := hB.there (q) 1 (by simp [unhide HFL]; omega) 0 (by omega)
                simpa using this
              obtain ⟨hcs, hcf⟩ := hcs
              obtain ⟨ov, hcs⟩ := Option.isSome_iff_exists.1 hcs
              have HB2 := hide hB
              have HQ3 := hide hqq
              clear hB hsz hqq
              go_wp2
              go_roundw
              case rel =>
                have hS := (unhide HB2).set q (wv x)
                rw [unhide HF, first_step k n c q (by have := unhide HQ3; omega) x (by rw [unhide HQ3, firstL_nonce k n c r hlt, unhide HX]), ← unhide HF] at hS
                rw [unhide HQ3, show 13 + r + 1 = 13 + (r + 1) by omega] at hS
                rw [unhide HQ3]
                refine ⟨r + 1, by omega, by go_num, hS, ((unhide HR).kept g2 (by simp)).other _ _ (by simp <;> omega), ((unhide HKb).kept g2 (by simp)).other _ _ (by simp <;> omega), ((unhide HNb).kept g2 (by simp)).other _ _ (by simp <;> omega), gb_setCell hg2 _ _ (Or.inl (by simp <;> omega))⟩
              case measure => simp [intOf]; omega
            · obtain rfl : r = 3 := by omega
              rw [show ((3 : Nat) : Int) = 3 from rfl]
              rw [show 13 + 3 = 16 from rfl, show 16 - 16 = 0 from rfl, List.replicate_zero, List.append_nil, List.take_of_length_le (by rw [unhide HFL]; exact Nat.le_refl _)] at hB
              have hsz : ((F.map wv).toArray).size = 16 := by simp [unhide HFL]
              have HSZ := hide hsz
              clear hsz
              go_wp2_with (first | (refine wpList_load_row rfl 126 _ rfl (w.heap.size + 3) rfl _ _ _ _ hB Tryd.underlying126 rfl ?_ ?_; (rw [unhide HSZ]; exact hi16)) | (refine wpList_store_row rfl 126 _ _ rfl (w.heap.size + 2) _ rfl rfl _ _ hR ?_ ?_ ?_ ?_; (rw [unhide HSZ]; exact hi16); (rw [unhide HSZ]; rfl); (exact all_oneCell_toArray (wv_one _))))
              have hS := hR.row (F.map wv)
              have hG : w.grownBy (wr.setRow (w.heap.size + 2) (F.map wv).toArray) none := gb_row hg _ (Or.inl (by omega))
              refine bodyPost_ret (v := .agg (F.map wv).toArray) (results_cell_row (g := w.heap.size + 2) rfl _ _ _ _ _ _ ?_ hS Tryd.underlying126 rfl ?_) rfl ⟨?_, hG⟩
              · rfl
              · rw [unhide HSZ]; exact hi16
              · rw [unhide HF]

end Go.Proofs.YtjckdgapefaokaaDoor
