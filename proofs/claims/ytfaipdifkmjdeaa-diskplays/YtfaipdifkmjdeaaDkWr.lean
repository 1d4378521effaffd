/- What disk's Write answers. Of a disk with at most 1000000 writes under way. -/
import Derived.Test.YtfaipdifkmjdeaaDkBs
import Derived.Test.YtfaipdifkmjdeaaMCpy
import Derived.Test.YtfaipdifkmjdeaaMNts
namespace Go.Proofs.Ytfaipdifkmjdeaa
open Go.RowKit

theorem padS_eq {b : List UInt8} : secC (padS b) = (b ++ List.replicate (256 - b.length) 0).map bv := rfl

set_option maxRecDepth 100000 in
set_option maxHeartbeats 4000000 in
theorem dwrite_any (u : Nat) (w : World) (F : List Nat) (d : Nat) (D : Dsk) (h : DiskAt u w F d D) (i : Int) (ao : Option Addr) (bc : Nat) (b : List UInt8) (hb : Bts w ao bc b) (hU : D.U.length ≤ 1000000) :
    Calls Try.prog 11 #[.pointer (some ⟨d, 0, none⟩), .int .i64 i, .slice ao b.length bc] w fun e w' => e = .returned (.int .i64 (wrD D i b).2) ∧ Left u w w' F d (wrD D i b).1 := by
  obtain ⟨s, c, m, X, ov, K, h⟩ := h
  have c1 := dstopped_any u w F d s c m X ov K D h
  have hstay : Left u w w F d D := ⟨F, h.at, Fr.refl _ _, fun x hx => Or.inl hx⟩
  by_cases hd : D.down = true
  · have e1 : wrD D i b = (D, 17) := by unfold wrD; rw [if_pos hd]
    rw [e1]
    rw [if_pos hd] at c1
    have HS := hide hstay
    clear hstay hd e1 h hb hU
    go_enter Try.func11, Try.ntmps11
    go_wp2_with (go_at_call 28; refine c1.mono ?_; rintro e w2 ⟨rfl, e2⟩; subst w2; clear c1)
    go_ret
    exact ⟨rfl, unhide HS⟩
  rw [if_neg hd] at c1
  have c2 := dhas_any w d s _ c h.c0 i
  by_cases hi : hasD D i = true
  case neg =>
    have e1 : wrD D i b = (D, 2) := by unfold wrD; rw [if_neg hd, if_neg (fun e => hi e.1)]
    rw [e1]
    have hi2 : decide (0 ≤ i ∧ i < (D.safe.length : Int)) = false := by simpa [hasD] using hi
    rw [hi2] at c2
    have HS := hide hstay
    clear hstay hd e1 h hb hU hi hi2
    go_enter Try.func11, Try.ntmps11
    go_wp2_with (first
      | (go_at_call 28; refine c1.mono ?_; rintro e w2 ⟨rfl, e2⟩; subst w2; clear c1)
      | (go_at_call 29; refine c2.mono ?_; rintro e w2 ⟨rfl, e2⟩; subst w2; clear c2))
    go_ret
    exact ⟨rfl, unhide HS⟩
  have hi2 : decide (0 ≤ i ∧ i < (D.safe.length : Int)) = true := by simpa [hasD] using hi
  rw [hi2] at c2
  by_cases hl : b.length ≤ 256
  case neg =>
    have e1 : wrD D i b = (D, 2) := by unfold wrD; rw [if_neg hd, if_neg (fun e => hl e.2)]
    rw [e1]
    have HS := hide hstay
    obtain ⟨n, hn⟩ : ∃ n, n = b.length := ⟨_, rfl⟩
    rw [← hn] at hl ⊢
    have hl2 : (256 : Int) < (n : Int) := by omega
    have hl3 : 256 < n := by omega
    clear hstay hd e1 h hb hU hi hi2 hn hl
    go_enter Try.func11, Try.ntmps11
    go_wp2_with (first
      | (go_at_call 28; refine c1.mono ?_; rintro e w2 ⟨rfl, e2⟩; subst w2; clear c1)
      | (go_at_call 29; refine c2.mono ?_; rintro e w2 ⟨rfl, e2⟩; subst w2; clear c2))
    go_ret
    exact ⟨rfl, unhide HS⟩
  obtain ⟨hj, hij⟩ := hasD_nat hi
  obtain ⟨j, hjj⟩ : ∃ j, j = i.toNat := ⟨_, rfl⟩
  have e1 : wrD D i b = cntD { D with U := D.U ++ [(j, padS b)] } := by unfold wrD; rw [if_neg hd, if_pos ⟨hi, hl⟩, hjj]
  rw [e1]
  rw [← hjj] at hj hij
  have hok := h.ok.add hj hl
  subst hij
  have HOK := hide hok
  -- the sector's variable, filled
  obtain ⟨Z, hZ, hzv⟩ : ∃ Z : Array Value, Z = (secC zsec).toArray ∧ ∀ w, (zeroValue 70).run Try.prog w = .ok (.agg Z) w := ⟨_, rfl, zero_sec⟩
  obtain ⟨W1, hW1⟩ : ∃ W, W = w.alloc (.cells Z 70) := ⟨_, rfl⟩
  have hB1 : Blk W1 w.heap.size 70 ((List.replicate 256 (0 : UInt8)).map bv) := by rw [hW1, hZ]; exact Blk.new w 70 _
  have g1 : w.grownBy W1 none := by rw [hW1]; exact gb_alloc (gb_refl _ _) _
  have hb1 := hb.kept g1 (fun _ e => by cases e)
  have hss := slice_sec w.heap.size W1
  have hcp := copy_bts W1 w.heap.size 0 256 256 ao bc b hb1 (fun j hj => by
    have := hB1.there 0 256 (by simp) j (by omega)
    simpa using this)
  rw [Nat.min_eq_left hl, List.take_length] at hcp
  have hB2 := hB1.filled b hl
  rw [← padS_eq] at hB2
  obtain ⟨W2, hW2⟩ : ∃ W, W = W1.setCells w.heap.size 0 (b.map bv) := ⟨_, rfl⟩
  rw [← hW2] at hcp hB2
  have g2 : w.grownBy W2 none := by rw [hW2]; exact gb_setCells (Or.inl (Nat.le_refl _)) _ _ g1
  obtain ⟨EB, hEB⟩ : ∃ EB, EB = secC (padS b) := ⟨_, rfl⟩
  have hEl : EB.length = 256 := by rw [hEB, secC_len, padS_len hl]
  have hEo : ∀ u ∈ EB, u.oneCell' = true := by rw [hEB]; exact secC_one _
  have hiE : (Try.prog.info? 70).map (·.size) = some EB.length := by rw [hEl]; exact info_secs
  rw [← hEB] at hB2
  obtain ⟨O, hO⟩ : ∃ O, O = D.U.map (·.1) := ⟨_, rfl⟩
  have hOl : O.length ≤ 1000000 := by rw [hO]; simpa using hU
  have hG := h.g
  rw [← hO] at hG
  -- the order
  obtain ⟨W3, hW3, hB3, g3⟩ := box_new W2 3 [keyN j]
  have G3 := tn g2 g3
  have hG3 := hG.nn G3
  have hE3 := hB2.kept g3 (by simp)
  obtain ⟨k, hk⟩ : ∃ k, k = O.length := ⟨_, rfl⟩
  have ho3 := hG3.ord
  rw [← hk] at ho3 hOl
  have hbase3 : u ≤ W3.heap.size := by have := hG3.low _ hG3.inD; omega
  obtain ⟨q, hq⟩ : ∃ q, q = w.heap.size := ⟨_, rfl⟩
  have hqF : ∀ x ∈ F, x < q := fun x hx => by rw [hq]; exact (h.low x hx).2
  have hc0 := h.c0
  have hc1 : W2.cell? ⟨d, 1, none⟩ = some ov := by rw [(hG.nn g2).blk.cell]; rfl
  have HIND := hide h.inD
  obtain ⟨n, hn⟩ : ∃ n, n = b.length := ⟨_, rfl⟩
  have hl2 : ¬ (256 : Int) < (n : Int) := by omega
  have hl3 : ¬ 256 < n := by omega
  rw [← hn] at hcp ⊢
  rw [← hq] at hss hcp hB2 hE3
  have hord : ∀ g cap w5, w5.ownsRow u 3 1 (.slice (some ⟨g, 0, none⟩) (k + 1) cap) (k + 1) (O.map keyN ++ [keyN j]) → W3.grownBy w5 ov.ownBlock → (ov.ownBlock = some g ∨ g = W3.heap.size) → g < w5.heap.size →
      (∃ y, w5.cell? ⟨d, 1, none⟩ = some y) ∧ w5.frozen? ⟨d, 1, none⟩ = false ∧ DiskG u (w5.setCell ⟨d, 1, none⟩ (.slice (some ⟨g, 0, none⟩) (k + 1) cap)) (g :: F) d s c m X (.slice (some ⟨g, 0, none⟩) (k + 1) cap) K D.safe (O ++ [j]) D.U D.left D.down ∧
      Fr w (w5.setCell ⟨d, 1, none⟩ (.slice (some ⟨g, 0, none⟩) (k + 1) cap)) F ∧ (g ∈ F ∨ w.heap.size ≤ g) ∧ Blk (w5.setCell ⟨d, 1, none⟩ (.slice (some ⟨g, 0, none⟩) (k + 1) cap)) q 70 EB ∧ g ≠ q ∧ w.heap.size ≤ w5.heap.size := by
    intro g cap w5 ho5 g5 hg5 hlt5
    have n1 : some d ≠ ov.ownBlock := own_apart_t hG3.ord hG3.blk (by decide)
    have B5 := hG3.blk.kept g5 n1
    rw [hk] at ho5 ⊢
    obtain ⟨q1, q2, q3⟩ := hG3.ordered ho5 g5 hg5 hlt5
    refine ⟨⟨_, B5.cell 1⟩, B5.fz 1, q1, (Fr.none G3 F).trans q2 (fun x hx => Or.inl hx), q3.imp id (fun e => Nat.le_trans G3.size e), ?_, ?_, Nat.le_trans G3.size g5.size⟩
    · refine (hE3.kept g5 (fun e => ?_)).other _ _ (fun e => ?_)
      · have := hqF q (hG.inO q e.symm)
        omega
      · have e' : d = q := e
        have := hqF d hG.inD
        omega
    · rintro rfl
      rcases hg5 with e | e
      · have := hqF g (hG.inO g e)
        omega
      · have := hE3.lt
        omega
  have HORD := hide hord
  have HO3 := hide ho3
  have HB3 := hide hB3
  have HW1 := hide hW1
  have HW3 := hide (show W3 = W2.alloc (.cells #[.int .i64 (j : Int)] 3) from hW3)
  have HIE := hide hiE
  have HEL := hide hEl
  have HEO := hide hEo
  have HQF := hide hqF
  have HK := hide hk
  have HO := hide hO
  have HQ := hide hq
  have HUU := hide hU
  have HEB := hide hEB
  clear hord ho3 hB3 hW1 hW3 hiE hEl hEo hqF hk hO hq hEB hn hl hi hi2 hd e1 hjj hok hj hb hb1 hB1 hB2 hZ hW2 g1 g2 g3 G3 hG hG3 hE3 h hstay hU
  go_enter Try.func11, Try.ntmps11
  go_upto_region 8 with (first
    | (go_at_call 28; refine c1.mono ?_; rintro e w2 ⟨rfl, e2⟩; subst w2; clear c1)
    | (go_at_call 29; refine c2.mono ?_; rintro e w2 ⟨rfl, e2⟩; subst w2; clear c2)
    | (rw [← unhide HW1, ← unhide HQ]))
  go_upto_region 9 with (rw [← unhide HW3]; refine wpList_append_lint rfl _ _ rfl u ov k (O.map keyN) rfl (unhide HO3) W2.heap.size j (unhide HB3) rfl hOl hbase3 ?_; intro g cap w5 ho5 g5 hg5 hlt5; have HH := hide (unhide HORD g cap w5 ho5 g5 hg5 hlt5); obtain ⟨⟨y5, hy5⟩, hf5, -⟩ := unhide HH; clear ho5 g5 hg5 hlt5; try simp only [Act.put, pq1, pq2, pq3])
  obtain ⟨-, -, hG6, hF6, hN6, hE6, hgq, hsz5⟩ := unhide HH
  obtain ⟨W6, hW6⟩ : ∃ W, W = w5.setCell ⟨d, 1, none⟩ (.slice (some ⟨g, 0, none⟩) (k + 1) cap) := ⟨_, rfl⟩
  rw [← hW6] at hG6 hF6 hE6 ⊢
  obtain ⟨W6d, hW6d⟩ : ∃ W, W = W6.drew := ⟨_, rfl⟩
  have gd : W6.grownBy W6d none := by rw [hW6d]; exact gb_drew (gb_refl _ _)
  have hG6d := hG6.nn gd
  have hE6d := hE6.kept gd (by simp)
  obtain ⟨W7, hW7, hB7, g7⟩ := box_new W6d 70 EB
  have hG7 := hG6d.nn g7
  have hE7 := hE6d.kept g7 (by simp)
  have hbs := bs_sec EB (unhide HEL) W6d
  rw [← hW7] at hbs
  obtain ⟨v0, hv0⟩ : ∃ v, v = (getI K j).getD (.slice none 0 0) := ⟨_, rfl⟩
  have hlk6 := hG6d.und.map.look 59 58 Try.underlying59 (.slice none 0 0) (zero_secs W6d) j false
  have hlk7 := hG7.und.map.look 59 58 Try.underlying59 (.slice none 0 0) (zero_secs W7) j false
  unfold keyN at hlk6 hlk7
  simp only [Bool.false_eq_true, if_false] at hlk6 hlk7
  rw [← hv0] at hlk6 hlk7
  have hV7 := hG7.rowOwn j
  rw [← hv0] at hV7
  obtain ⟨n0, hn0⟩ : ∃ n, n = (rowsU D.U j).length := ⟨_, rfl⟩
  obtain ⟨xs0, hxs0⟩ : ∃ xs, xs = (rowsU D.U j).flatMap secC := ⟨_, rfl⟩
  rw [← hn0, ← hxs0] at hV7
  have hN0 : n0 ≤ 1000000 := by rw [hn0]; exact Nat.le_trans (rowsU_len _ _) (unhide HUU)
  have hU7 : u ≤ W7.heap.size := by have := hG7.low _ hG7.inD; omega
  have hS6 : W6d.cell? ⟨d, 2, none⟩ = some (.map (some m)) ∧ W6d.rangeAt q 0 EB := ⟨by rw [hG6d.blk.cell]; rfl, blk_all hE6d⟩
  have hS7 : W7.cell? ⟨d, 2, none⟩ = some (.map (some m)) ∧ W7.rangeAt q 0 EB := ⟨by rw [hG7.blk.cell]; rfl, blk_all hE7⟩
  have hqg : ∀ x ∈ g :: F, x ≠ q := fun x hx e => by
    rcases List.mem_cons.1 hx with rfl | hx
    · exact hgq e
    · have := unhide HQF x hx
      omega
  have hap : ∀ g8 cap8 w8, w8.ownsRow u 70 256 (.slice (some ⟨g8, 0, none⟩) (n0 + 1) cap8) (n0 + 1) (xs0 ++ EB) → W7.grownBy w8 v0.ownBlock → (v0.ownBlock = some g8 ∨ g8 = W7.heap.size) → g8 < w8.heap.size →
      ∃ w9, (Instr.mapUpdate 59 (.map (some m)) (.int .i64 (j : Int)) (.slice (some ⟨g8, 0, none⟩) (n0 + 1) cap8)).run Try.prog w8 = .ok () w9 ∧
        (w8.cell? ⟨d, 2, none⟩ = some (.map (some m)) ∧ w8.rangeAt q 0 EB) ∧ (w9.cell? ⟨d, 2, none⟩ = some (.map (some m)) ∧ w9.rangeAt q 0 EB) ∧
        ∃ F9 X9 ov9 K9 c9, DiskM u w9 F9 d s c9 m X9 ov9 K9 { D with U := D.U ++ [(j, padS b)] } ∧ Fr w w9 F ∧ ∀ x ∈ F9, x ∈ F ∨ w.heap.size ≤ x := by
    intro g8 cap8 w8 ho8 g8g hg8 hlt8
    have nr : ∀ x, v0.ownBlock = some x → x ∈ g :: F ∧ x ≠ s ∧ x ≠ d ∧ x ≠ m := fun x hx => hG7.rowOff j (by rw [← hv0]; exact hx)
    have M8 := hG7.und.map.kept g8g (fun e => (nr m e.symm).2.2.2 rfl)
    obtain ⟨w9, hrun9, hM9, g9, -⟩ := M8.store 59 58 Try.underlying59 j (.slice (some ⟨g8, 0, none⟩) (n0 + 1) cap8)
    have hE8 := hE7.kept g8g (fun e => hqg q (nr q e.symm).1 rfl)
    have B8 := hG7.blk.kept g8g (fun e => (nr d e.symm).2.2.1 rfl)
    have hE9 := hE8.kept g9 (fun e => M8.blk hE8 (by cases e; rfl))
    have B9 := B8.kept g9 (fun e => M8.blk B8 (by cases e; rfl))
    refine ⟨w9, hrun9, ⟨by rw [B8.cell]; rfl, blk_all hE8⟩, ⟨by rw [B9.cell]; rfl, blk_all hE9⟩, ?_⟩
    rw [hv0] at g8g hg8
    obtain ⟨hG9, hF9, hN9⟩ := hG7.under (t := padS b) (by rw [List.flatMap_append, ← hxs0]; have := unhide HEB; simpa [this] using ho8) hn0 g8g hg8 hlt8 hM9 g9
    have hOO : O ++ [j] = (D.U ++ [(j, padS b)]).map (·.1) := by rw [List.map_append, ← unhide HO]; rfl
    rw [hOO] at hG9
    refine ⟨g8 :: g :: F, X, _, _, c, DiskG.m (D := { D with U := D.U ++ [(j, padS b)] }) hG9 (unhide HOK), ?_, ?_⟩
    · refine (hF6.trans (Fr.none (tn gd g7) F) (fun x hx => Or.inl hx)).trans hF9 (fun x hx => ?_)
      rcases List.mem_cons.1 hx with rfl | hx
      · exact hN6
      · exact Or.inl hx
    · intro x hx
      have h76 : w.heap.size ≤ W7.heap.size := Nat.le_trans hF6.size (tn gd g7).size
      rcases List.mem_cons.1 hx with rfl | hx
      · rcases hN9 with h1 | h1
        · rcases List.mem_cons.1 h1 with rfl | h1
          · exact hN6
          · exact Or.inl h1
        · exact Or.inr (Nat.le_trans h76 h1)
      · rcases List.mem_cons.1 hx with rfl | hx
        · exact hN6
        · exact Or.inl hx
  have HAP := hide hap
  have HS6 := hide hS6
  have HS7 := hide hS7
  have HW6d := hide hW6d
  have HV7 := hide hV7
  have HB7 := hide hB7
  have HN0 := hide hN0
  have HU7 := hide hU7
  have HBS := hide hbs
  have HNN := hide hn0
  clear hap hS6 hS7 hW6d hV7 hB7 hN0 hU7 hbs hn0 hxs0 hv0 hqg hE7 hG7 g7 hW7 hE6d hG6d gd hW6 hG6 hF6 hN6 hE6 hgq hsz5 hy5 hf5 HH HORD HO3 HB3 HQF
  refine wp_region_noPanic ?_
  refine wp_region_held_drew (S := fun V => V.cell? ⟨d, 2, none⟩ = some (.map (some m)) ∧ V.rangeAt q 0 EB) (by kernel_rfl) (by rw [← unhide HW6d]; exact unhide HS6) (fun _ => ?_)
  rw [← unhide HW6d]
  refine wpAnyH_take (i := 0) (oi := ⟨some 36, .move (.tmp 0), _, _, _, _⟩) (v := (.pointer (some ⟨d, 0, none⟩))) rfl (by kernel_rfl) (by kernel_rfl) (by kernel_rfl) (fun _ _ _ h => h) (Or.inl ⟨by rfl, fun V (hV : V.cell? ⟨d, 2, none⟩ = some (.map (some m)) ∧ V.rangeAt q 0 EB) => by go_simp⟩) (unhide HS6) ?_
  (try simp only [Act.put, pq1, pq2, pq3])
  refine wpAnyH_take (i := 1) (oi := ⟨some 37, .nilCheck (.tmp 36), _, _, _, _⟩) (v := (.pointer (some ⟨d, 0, none⟩))) rfl (by kernel_rfl) (by kernel_rfl) (by kernel_rfl) (fun _ _ _ h => h) (Or.inl ⟨by rfl, fun V (hV : V.cell? ⟨d, 2, none⟩ = some (.map (some m)) ∧ V.rangeAt q 0 EB) => by go_simp⟩) (unhide HS6) ?_
  (try simp only [Act.put, pq1, pq2, pq3])
  refine wpAnyH_take (i := 2) (oi := ⟨some 38, .fieldAddr 61 (.tmp 37) 2, _, _, _, _⟩) (v := (.pointer (some ⟨d, 2, none⟩))) rfl (by kernel_rfl) (by kernel_rfl) (by kernel_rfl) (fun _ _ _ h => h) (Or.inl ⟨by rfl, fun V (hV : V.cell? ⟨d, 2, none⟩ = some (.map (some m)) ∧ V.rangeAt q 0 EB) => by go_simp⟩) (unhide HS6) ?_
  (try simp only [Act.put, pq1, pq2, pq3])
  refine wpAnyH_take (i := 3) (oi := ⟨some 39, .load 59 (.tmp 38), _, _, _, _⟩) (v := (.map (some m))) rfl (by kernel_rfl) (by kernel_rfl) (by kernel_rfl) (fun _ _ _ h => h) (Or.inl ⟨by rfl, fun V (hV : V.cell? ⟨d, 2, none⟩ = some (.map (some m)) ∧ V.rangeAt q 0 EB) => by (have hv1 := hV.1; go_simp)⟩) (unhide HS6) ?_
  (try simp only [Act.put, pq1, pq2, pq3])
  refine wpAnyH_take (i := 4) (oi := ⟨some 40, .move (.tmp 1), _, _, _, _⟩) (v := (.int .i64 (j : Int))) rfl (by kernel_rfl) (by kernel_rfl) (by kernel_rfl) (fun _ _ _ h => h) (Or.inl ⟨by rfl, fun V (hV : V.cell? ⟨d, 2, none⟩ = some (.map (some m)) ∧ V.rangeAt q 0 EB) => by go_simp⟩) (unhide HS6) ?_
  (try simp only [Act.put, pq1, pq2, pq3])
  refine wpAnyH_take (i := 5) (oi := ⟨some 41, .move (.tmp 0), _, _, _, _⟩) (v := (.pointer (some ⟨d, 0, none⟩))) rfl (by kernel_rfl) (by kernel_rfl) (by kernel_rfl) (fun _ _ _ h => h) (Or.inl ⟨by rfl, fun V (hV : V.cell? ⟨d, 2, none⟩ = some (.map (some m)) ∧ V.rangeAt q 0 EB) => by go_simp⟩) (unhide HS6) ?_
  (try simp only [Act.put, pq1, pq2, pq3])
  refine wpAnyH_take (i := 6) (oi := ⟨some 42, .nilCheck (.tmp 41), _, _, _, _⟩) (v := (.pointer (some ⟨d, 0, none⟩))) rfl (by kernel_rfl) (by kernel_rfl) (by kernel_rfl) (fun _ _ _ h => h) (Or.inl ⟨by rfl, fun V (hV : V.cell? ⟨d, 2, none⟩ = some (.map (some m)) ∧ V.rangeAt q 0 EB) => by go_simp⟩) (unhide HS6) ?_
  (try simp only [Act.put, pq1, pq2, pq3])
  refine wpAnyH_take (i := 7) (oi := ⟨some 43, .fieldAddr 61 (.tmp 42) 2, _, _, _, _⟩) (v := (.pointer (some ⟨d, 2, none⟩))) rfl (by kernel_rfl) (by kernel_rfl) (by kernel_rfl) (fun _ _ _ h => h) (Or.inl ⟨by rfl, fun V (hV : V.cell? ⟨d, 2, none⟩ = some (.map (some m)) ∧ V.rangeAt q 0 EB) => by go_simp⟩) (unhide HS6) ?_
  (try simp only [Act.put, pq1, pq2, pq3])
  refine wpAnyH_take (i := 8) (oi := ⟨some 44, .load 59 (.tmp 43), _, _, _, _⟩) (v := (.map (some m))) rfl (by kernel_rfl) (by kernel_rfl) (by kernel_rfl) (fun _ _ _ h => h) (Or.inl ⟨by rfl, fun V (hV : V.cell? ⟨d, 2, none⟩ = some (.map (some m)) ∧ V.rangeAt q 0 EB) => by (have hv1 := hV.1; go_simp)⟩) (unhide HS6) ?_
  (try simp only [Act.put, pq1, pq2, pq3])
  refine wpAnyH_take (i := 9) (oi := ⟨some 45, .move (.tmp 1), _, _, _, _⟩) (v := (.int .i64 (j : Int))) rfl (by kernel_rfl) (by kernel_rfl) (by kernel_rfl) (fun _ _ _ h => h) (Or.inl ⟨by rfl, fun V (hV : V.cell? ⟨d, 2, none⟩ = some (.map (some m)) ∧ V.rangeAt q 0 EB) => by go_simp⟩) (unhide HS6) ?_
  (try simp only [Act.put, pq1, pq2, pq3])
  refine wpAnyH_take (i := 11) (oi := ⟨some 47, .load 70 (.tmp 8), _, _, _, _⟩) (v := (.agg EB.toArray)) rfl (by kernel_rfl) (by kernel_rfl) (by kernel_rfl) (fun _ _ _ h => h) (yieldsIf_load_mid (by rfl) _ _ rfl _ _ rfl EB _ (fun V hV => hV.2) Try.underlying70 rfl (unhide HIE)) (unhide HS6) ?_
  (try simp only [Act.put, pq1, pq2, pq3])
  refine wpAnyH_ready (rs := [10, 12]) (by kernel_rfl) (by simp) ?_
  refine AllReadyH.cons (o := ⟨some 46, .lookup 59 (.tmp 44) (.tmp 45) false, _, _, _, _⟩) rfl (fun K9 hK9 => ?_) (AllReadyH.cons (o := ⟨some 48, .buildSlice 58 1 #[(0, (.tmp 47))], _, _, _, _⟩) rfl (fun K9 hK9 => ?_) AllReadyH.nil)
  · go_simp
    refine hK9.out _ _ (unhide HS6) (fun _ => ?_)
    clear hK9 K9
    (try simp only [Act.put, pq1, pq2, pq3])
    refine wpAnyH_ready (rs := [12]) (by kernel_rfl) (by simp) ?_
    refine AllReadyH.cons (o := ⟨some 48, .buildSlice 58 1 #[(0, (.tmp 47))], _, _, _, _⟩) rfl (fun K9 hK9 => ?_) AllReadyH.nil
    refine step_build1 (by rfl) 58 (.tmp 47) rfl (.agg EB.toArray) _ rfl (unhide HBS) ?_
    refine hK9.out _ _ (unhide HS7) (fun _ => ?_)
    clear hK9 K9
    (try simp only [Act.put, pq1, pq2, pq3])
    refine wpAnyH_ready (rs := [13]) (by kernel_rfl) (by simp) ?_
    refine AllReadyH.cons (o := ⟨some 49, .call { callee := .builtin .append, args := #[(.tmp 46), (.tmp 48)], argTypes := #[58, 58] }, _, _, _, _⟩) rfl (fun K9 hK9 => ?_) AllReadyH.nil
    refine step_append_sec (by rfl) _ _ rfl u v0 n0 xs0 rfl (unhide HV7) W6d.heap.size EB (unhide HB7) (unhide HEL) (unhide HEO) rfl (unhide HN0) (unhide HU7) ?_
    intro g8 cap8 w8 ho8 g8g hg8 hlt8
    obtain ⟨w9, hrun9, hS8, hS9, hfin9⟩ := unhide HAP g8 cap8 w8 ho8 g8g hg8 hlt8
    have HFIN := hide hfin9
    have HS8 := hide hS8
    have HS9 := hide hS9
    clear ho8 g8g hg8 hlt8 hS8 hS9 hfin9
    refine hK9.out _ _ (unhide HS8) (fun _ => ?_)
    clear hK9 K9
    (try simp only [Act.put, pq1, pq2, pq3])
    refine wpAnyH_ready (rs := [14]) (by kernel_rfl) (by simp) ?_
    refine AllReadyH.cons (o := ⟨none, .mapUpdate 59 (.tmp 39) (.tmp 40) (.tmp 49), _, _, _, _⟩) rfl (fun K9 hK9 => ?_) AllReadyH.nil
    go_simp
    refine hK9.out _ _ (unhide HS9) (fun _ => ?_)
    clear hK9 K9
    (try simp only [Act.put, pq1, pq2, pq3])
    refine wpAnyH_done (by kernel_rfl) ?_ _
    refine NoPanic.normal ?_
    obtain ⟨F9, X9, ov9, K9, c9, hM9, hF9, hN9⟩ := unhide HFIN
    have cn := dcount_any u w9 F9 d s c9 m X9 ov9 K9 _ hM9
    have HF9 := hide hF9
    have HN9 := hide hN9
    clear hM9 hrun9 hF9 hN9
    go_wp2_with (go_at_call 30; refine cn.mono ?_; rintro e w10 ⟨rfl, hM10, g10⟩; have HM10 := hide hM10; have HG10 := hide g10; clear cn hM10 g10)
    go_ret
    exact ⟨rfl, F9, (unhide HM10).at, (unhide HF9).then (unhide HG10) (fun x e => by cases e; exact Or.inl (unhide HIND)), unhide HN9⟩
  · refine step_build1 (by rfl) 58 (.tmp 47) rfl (.agg EB.toArray) _ rfl (unhide HBS) ?_
    refine hK9.out _ _ (unhide HS7) (fun _ => ?_)
    clear hK9 K9
    (try simp only [Act.put, pq1, pq2, pq3])
    refine wpAnyH_ready (rs := [10]) (by kernel_rfl) (by simp) ?_
    refine AllReadyH.cons (o := ⟨some 46, .lookup 59 (.tmp 44) (.tmp 45) false, _, _, _, _⟩) rfl (fun K9 hK9 => ?_) AllReadyH.nil
    go_simp
    refine hK9.out _ _ (unhide HS7) (fun _ => ?_)
    clear hK9 K9
    (try simp only [Act.put, pq1, pq2, pq3])
    refine wpAnyH_ready (rs := [13]) (by kernel_rfl) (by simp) ?_
    refine AllReadyH.cons (o := ⟨some 49, .call { callee := .builtin .append, args := #[(.tmp 46), (.tmp 48)], argTypes := #[58, 58] }, _, _, _, _⟩) rfl (fun K9 hK9 => ?_) AllReadyH.nil
    refine step_append_sec (by rfl) _ _ rfl u v0 n0 xs0 rfl (unhide HV7) W6d.heap.size EB (unhide HB7) (unhide HEL) (unhide HEO) rfl (unhide HN0) (unhide HU7) ?_
    intro g8 cap8 w8 ho8 g8g hg8 hlt8
    obtain ⟨w9, hrun9, hS8, hS9, hfin9⟩ := unhide HAP g8 cap8 w8 ho8 g8g hg8 hlt8
    have HFIN := hide hfin9
    have HS8 := hide hS8
    have HS9 := hide hS9
    clear ho8 g8g hg8 hlt8 hS8 hS9 hfin9
    refine hK9.out _ _ (unhide HS8) (fun _ => ?_)
    clear hK9 K9
    (try simp only [Act.put, pq1, pq2, pq3])
    refine wpAnyH_ready (rs := [14]) (by kernel_rfl) (by simp) ?_
    refine AllReadyH.cons (o := ⟨none, .mapUpdate 59 (.tmp 39) (.tmp 40) (.tmp 49), _, _, _, _⟩) rfl (fun K9 hK9 => ?_) AllReadyH.nil
    go_simp
    refine hK9.out _ _ (unhide HS9) (fun _ => ?_)
    clear hK9 K9
    (try simp only [Act.put, pq1, pq2, pq3])
    refine wpAnyH_done (by kernel_rfl) ?_ _
    refine NoPanic.normal ?_
    obtain ⟨F9, X9, ov9, K9, c9, hM9, hF9, hN9⟩ := unhide HFIN
    have cn := dcount_any u w9 F9 d s c9 m X9 ov9 K9 _ hM9
    have HF9 := hide hF9
    have HN9 := hide hN9
    clear hM9 hrun9 hF9 hN9
    go_wp2_with (go_at_call 30; refine cn.mono ?_; rintro e w10 ⟨rfl, hM10, g10⟩; have HM10 := hide hM10; have HG10 := hide g10; clear cn hM10 g10)
    go_ret
    exact ⟨rfl, F9, (unhide HM10).at, (unhide HF9).then (unhide HG10) (fun x e => by cases e; exact Or.inl (unhide HIND)), unhide HN9⟩

end Go.Proofs.Ytfaipdifkmjdeaa
