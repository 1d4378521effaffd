/- What kdf's sumBehind answers: the sum of a block and of texts, one behind the other. Of texts of fewer than 2 to the 58 bytes together. -/
import Derived.Test.YtikdpifacokfpaaDoorKBlock
namespace Go.Proofs.YtikdpifacokfpaaDoor
open Go.RowKit

set_option maxRecDepth 100000 in
set_option maxHeartbeats 1000000 in
theorem sumBehind_any (w : World) (B : List UInt8) (hB : B.length = 64) (ao : Option Addr) (c : Nat) (L : List (List UInt8)) (hL : Lst w ao c L) (hT : Tabs w) (hlen : L.flatten.length < 288230376151711744) :
    Calls Tryd.prog 35 #[.agg (B.map bv).toArray, .slice ao L.length c] w fun e w' => e = .returned (.agg ((shaL (B ++ L.flatten)).map bv).toArray) ∧ w.grownBy w' none := by
  have hi32 : (Tryd.prog.info? 22).map (·.size) = some 32 := by kernel_rfl
  obtain ⟨Y, hY⟩ : ∃ Y : Array Value, Y = ((List.replicate 32 (0 : UInt8)).map bv).toArray := ⟨_, rfl⟩
  have hyv := zero32
  rw [← hY] at hyv
  obtain ⟨A, hA⟩ : ∃ A : Array Value, A = (B.map bv).toArray := ⟨_, rfl⟩
  obtain ⟨q, hq⟩ : ∃ q, q = L.length := ⟨_, rfl⟩
  have hqc : q ≤ c := by have := hL.fits; omega
  have hqm : q ≤ maxLen := by have := hL.most; omega
  unfold maxLen at hqm
  obtain ⟨W1, hW1⟩ : ∃ W1, W1 = (w.alloc (.cells A 27)).alloc (.cells Y 22) := ⟨_, rfl⟩
  have hg1 : w.grownBy W1 none := by rw [hW1]; exact gb_alloc (gb_alloc (gb_refl _ _) _) _
  have hA1 : Blk W1 w.heap.size 27 (B.map bv) := by
    rw [hW1, hA]; exact (Blk.new w 27 (B.map bv)).alloc _
  have hR1 : Blk W1 (w.heap.size + 1) 22 ((List.replicate 32 (0 : UInt8)).map bv) := by
    have := Blk.new (w.alloc (.cells A 27)) 22 ((List.replicate 32 (0 : UInt8)).map bv)
    rw [World.size_alloc] at this
    rw [hW1, hY]; exact this
  have hsz1 : W1.heap.size = w.heap.size + 2 := by rw [hW1]; simp
  have hn := newh_any W1
  rw [hsz1] at hn
  have hsl := slice_arr_all 27 5 64 Tryd.underlying27 size_byte w.heap.size 0 (by omega)
  have hmf : ∀ (fn : Fn) (first cap : Array Value) (w : World), (Instr.makeFunc fn first cap).run Tryd.prog w = .ok (.func fn first cap) w := fun _ _ _ _ => rfl
  rw [← hA, ← hq]
  have HQ := hide hq
  have HW1 := hide hW1
  have HB := hide hB
  have HA1 := hide hA1
  have HR1 := hide hR1
  have HT := hide hT
  have HL := hide hL
  have HLEN := hide hlen
  have hbound : B.length + L.flatten.length < 576460752303423488 := by omega
  have HBD := hide hbound
  clear hA hY hq hB hW1 hA1 hR1 hT hL hlen hbound
  go_enter Tryd.func35, Tryd.ntmps35
  go_wp2_with fail
  rw [← unhide HW1]
  refine hn.mono ?_
  rintro e w2 ⟨rfl, hH2, g2⟩
  have G2 : w.grownBy w2 none := gb_trans hg1 g2 (fun _ e => by cases e)
  have hb2 : Bts w2 (some ⟨w.heap.size, 0, none⟩) 64 B := by
    have h1 := (unhide HA1).kept g2 (by simp)
    have : Blk w2 w.heap.size 27 ([] ++ (B.map bv ++ [])) := by simpa using h1
    exact bts_blk this 64 (by rw [unhide HB]; exact Nat.le_refl _) (by unfold maxLen; omega)
  have hwr := write_any w2 (w.heap.size + 2) 81 [] [] _ _ [] hH2 ((unhide HT).kept0 G2) ((unhide HT).glb (by omega)) _ 64 B hb2 (fun _ ad e => by cases e; simp) (by simp; have := unhide HBD; omega)
  rw [List.nil_append, show ([] : List Value).length = 0 from rfl, unhide HB] at hwr
  have hR2 := (unhide HR1).kept g2 (by simp)
  clear hn hH2 g2 hb2 hg1
  go_wp2_with fail
  refine hwr.mono ?_
  rintro e w3 ⟨rfl, ⟨wo3, re3, hH3⟩, g3⟩
  have G3 : w.grownBy w3 none := gb_trans G2 g3 (fun y e => by cases e; exact Or.inl (by omega))
  have hR3 := hR2.kept g3 (by simp)
  clear hwr g3 hR2 G2
  go_wp2
  go_loopw [17] (fun i wr => ∃ (k : Nat) (words : List W) (rest : List UInt8), k ≤ q ∧ i = .int .i64 k ∧ HAt wr (w.heap.size + 2) 81 [] [] words rest (B ++ (L.take k).flatten) ∧ Blk wr (w.heap.size + 1) 22 ((List.replicate 32 (0 : UInt8)).map bv) ∧ w.grownBy wr none) (fun i _ => q - (intOf i).toNat)
  case atStart => exact ⟨0, wo3, re3, Nat.zero_le _, rfl, by simpa using hH3, hR3, G3⟩
  case round =>
    clear hH3 hR3 G3
    obtain ⟨k, words, rest, hk, rfl, hH, hR, hg⟩ := hrel
    by_cases hlt : k < q
    · have hkL : k < L.length := by have := unhide HQ; omega
      obtain ⟨ad, rfl⟩ : ∃ ad, ao = some ad := by
        cases ao with
        | none => have := (unhide HL).zip rfl; omega
        | some ad => exact ⟨ad, rfl⟩
      obtain ⟨ai, ci, hc, hbi⟩ := (unhide HL).cell ad rfl k hkL
      have hs := (unhide HL).shape ad rfl (by omega)
      obtain ⟨b, o, s⟩ := ad
      simp only at hs hc
      subst hs
      have hcr := hg.cell hc (by simp)
      have hbr := hbi.kept hg (fun x e => by cases e)
      have hfl := flat_len_le L (k + 1)
      rw [flat_take hkL, List.length_append] at hfl
      have hwr := write_any wr (w.heap.size + 2) 81 [] [] words rest _ hH ((unhide HT).kept0 hg) ((unhide HT).glb (by omega)) ai ci L[k] hbr (hbi.offNew (by omega)) (by rw [List.length_append]; have := unhide HBD; omega)
      rw [show ([] : List Value).length = 0 from rfl, List.append_assoc, ← flat_take hkL] at hwr
      obtain ⟨xl, hxl⟩ : ∃ xl, xl = (L[k]).length := ⟨_, rfl⟩
      rw [← hxl] at hcr hwr
      have HR := hide hR
      have hq0 : (0 : Int) ≤ (k : Int) := by omega
      clear hH hc hbi hbr hfl hxl hR
      go_wp2_with (go_at_call 44; refine hwr.mono ?_; rintro e w2 ⟨rfl, ⟨wo, re, hH2⟩, g2⟩)
      go_roundw
      case rel => exact ⟨k + 1, wo, re, by omega, by go_num, hH2, (unhide HR).kept g2 (by simp), gb_trans hg g2 (fun y e => by cases e; exact Or.inl (by omega))⟩
      case measure => simp [intOf]; omega
    · obtain rfl : k = q := by omega
      rw [show L.take k = L by rw [unhide HQ, List.take_length]] at hH
      have hsm := sum_any wr (w.heap.size + 2) 81 [] [] words rest _ hH ((unhide HT).kept0 hg) (by rw [List.length_append]; exact unhide HBD)
      rw [show ([] : List Value).length = 0 from rfl] at hsm
      obtain ⟨sl, hsl⟩ : ∃ sl, sl = shaL (B ++ L.flatten) := ⟨_, rfl⟩
      rw [← hsl] at hsm
      have hl32 : sl.length = 32 := by rw [hsl]; exact shaL_length _
      have hsz : ((sl.map bv).toArray).size = 32 := by simp [hl32]
      have HSZ := hide hsz
      have HSL := hide hsl
      clear hsz hl32 hsl hH
      go_wp2_with (first | (go_at_call 45; refine hsm.mono ?_; rintro e w2 ⟨rfl, g2⟩; have hR2 := hR.kept g2 (by simp)) | (refine wpList_store_row rfl 22 _ _ rfl (w.heap.size + 1) _ rfl rfl _ _ hR2 ?_ ?_ ?_ ?_; (rw [unhide HSZ]; exact hi32); (rw [unhide HSZ]; rfl); (exact all_oneCell_toArray (bv_one _))))
      have hS := hR2.row (sl.map bv)
      have hG : w.grownBy (w2.setRow (w.heap.size + 1) (sl.map bv).toArray) none := gb_row (gb_trans hg g2 (fun y e => by cases e)) _ (Or.inl (by omega))
      refine bodyPost_ret (v := .agg (sl.map bv).toArray) (results_cell_row (g := w.heap.size + 1) rfl _ _ _ _ _ _ ?_ hS Tryd.underlying22 rfl ?_) rfl ⟨?_, hG⟩
      · rfl
      · rw [unhide HSZ]; exact hi32
      · rw [unhide HSL]

end Go.Proofs.YtikdpifacokfpaaDoor
