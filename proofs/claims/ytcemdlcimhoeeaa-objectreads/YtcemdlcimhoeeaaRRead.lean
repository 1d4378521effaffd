/- What the document's Check, Put and Read (package coffretref10) answer. Of data of at most 100000 bytes. -/
import Derived.Test.YtcemdlcimhoeeaaRChangeOf
import Derived.Test.YtcemdlcimhoeeaaOPut
namespace Go.Proofs.Ytcemdlcimhoeeaa
open Go.RowKit

theorem rt_check2 (d : List UInt8) (h : d.length ≤ 16384) : checkL 2 d = (rtT 2 d).1 := by
  have h1 : ¬ 16384 < d.length := by omega
  by_cases hq : ofTree (readT d) = (0, d) <;> simp [checkL, h1, rtT, treeOf, hq, errO]
theorem rt_check3 (d : List UInt8) (h : d.length ≤ 16384) : checkL 3 d = (rtC 3 d).1 := by
  have h1 : ¬ 16384 < d.length := by omega
  by_cases hq : ofChg (readC d) = (0, d) <;> simp [checkL, h1, rtC, chgOf, hq, errO]
theorem rt_check4 (d : List UInt8) (h : d.length ≤ 16384) : checkL 4 d = (rtM 4 d).1 := by
  have h1 : ¬ 16384 < d.length := by omega
  by_cases hq : ofMrk (readM d) = (0, d) <;> simp [checkL, h1, rtM, mrkOf, hq, errO]

set_option maxRecDepth 100000 in
set_option maxHeartbeats 2000000 in
theorem rcheck_any (w : World) (k : Int) (d : List UInt8) (hd : d.length ≤ 100000) : Calls Try.prog 44 #[.agg #[.int .i64 k, .string (str d)]] w fun e w' => e = .returned (.int .i64 (checkL k d)) ∧ w.grownBy w' none := by
  have hsz := str_size d
  obtain ⟨W0, hW0, hB0, g0⟩ : ∃ W, W = w.alloc (.cells #[.int .i64 k, .string (str d)] 40) ∧ Blk W w.heap.size 40 [.int .i64 k, .string (str d)] ∧ w.grownBy W none := box_new w _ _
  have c0 := hB0.cell 0
  have c1 := hB0.cell 1
  simp only [List.getElem?_cons_zero, List.getElem?_cons_succ] at c0 c1
  have ct := rtreeOf_any W0 k d hd
  have cc := rchangeOf_any W0 k d hd
  have cm := rmarkOf_any W0 k d hd
  obtain ⟨SD, hSD⟩ : ∃ S, S = str d := ⟨_, rfl⟩
  obtain ⟨n, hn⟩ : ∃ n, n = d.length := ⟨_, rfl⟩
  rw [← hSD, ← hn] at hsz
  rw [← hSD] at c1 ct cc cm hW0 ⊢
  obtain ⟨Y, hY⟩ : ∃ y, y = checkL k d := ⟨_, rfl⟩
  rw [← hY]
  have HW := hide hW0
  have HG := hide g0
  clear hW0 hB0 g0 hSD
  by_cases hk1 : k < 1
  · have hr : Y = 2 := by rw [hY]; unfold checkL; rw [if_pos (Or.inl hk1)]
    subst hr
    clear hY ct cc cm hn hd
    go_enter Try.func44, Try.ntmps44
    go_wp2_with (rw [← unhide HW])
    go_ret
    exact ⟨rfl, unhide HG⟩
  · by_cases hk4 : 4 < k
    · have hr : Y = 2 := by rw [hY]; unfold checkL; rw [if_pos (Or.inr hk4)]
      subst hr
      clear hY ct cc cm hn hd
      go_enter Try.func44, Try.ntmps44
      go_wp2_with (rw [← unhide HW])
      go_ret
      exact ⟨rfl, unhide HG⟩
    · by_cases hbig : 16384 < d.length
      · have hr : Y = 3 := by rw [hY]; unfold checkL; rw [if_neg (by omega), if_pos hbig]
        have hb2 : (16384 : Int) < (n : Int) := by omega
        subst hr
        clear hY ct cc cm hn hd hbig
        go_enter Try.func44, Try.ntmps44
        go_wp2_with (rw [← unhide HW])
        go_ret
        exact ⟨rfl, unhide HG⟩
      · have hb2 : ¬ (16384 : Int) < (n : Int) := by omega
        have h5 : k = 1 ∨ k = 2 ∨ k = 3 ∨ k = 4 := by omega
        have hd6 : d.length ≤ 16384 := by omega
        rcases h5 with rfl | rfl | rfl | rfl
        · have hr : Y = 0 := by rw [hY]; unfold checkL; rw [if_neg (by omega), if_neg hbig]; rfl
          subst hr
          clear hY ct cc cm hn hd hbig
          go_enter Try.func44, Try.ntmps44
          go_wp2_with (rw [← unhide HW])
          go_ret
          exact ⟨rfl, unhide HG⟩
        · rw [rt_check2 d hd6] at hY
          have HY := hide hY
          clear cc cm hn hd hbig hY hd6
          go_enter Try.func44, Try.ntmps44
          go_wp2_with (rw [← unhide HW])
          refine ct.mono ?_
          rintro e w2 ⟨v, y, rfl, hy, _, g2⟩
          rw [← unhide HY] at hy
          subst hy
          clear ct c0 c1
          go_wp2
          go_ret
          exact ⟨rfl, tn (unhide HG) g2⟩
        · rw [rt_check3 d hd6] at hY
          have HY := hide hY
          clear ct cm hn hd hbig hY hd6
          go_enter Try.func44, Try.ntmps44
          go_wp2_with (rw [← unhide HW])
          refine cc.mono ?_
          rintro e w2 ⟨po, pc, y, rfl, hy, _, g2⟩
          rw [← unhide HY] at hy
          subst hy
          clear cc c0 c1
          go_wp2
          go_ret
          exact ⟨rfl, tn (unhide HG) g2⟩
        · rw [rt_check4 d hd6] at hY
          rw [← hY] at cm
          clear ct cc hn hd hbig hY hd6
          go_enter Try.func44, Try.ntmps44
          go_wp2_with (rw [← unhide HW])
          refine cm.mono ?_
          rintro e w2 ⟨rfl, g2⟩
          clear cm c0 c1
          go_wp2
          go_ret
          exact ⟨rfl, tn (unhide HG) g2⟩

set_option maxRecDepth 100000 in
theorem roput_any (w : World) (k : Int) (d : List UInt8) (hd : d.length ≤ 100000) : Calls Try.prog 20 #[.agg #[.int .i64 k, .string (str d)]] w fun e w' => e = .returned (.string (str (putL k d))) ∧ w.grownBy w' none := by
  obtain ⟨SD, hSD⟩ : ∃ S, S = str d := ⟨_, rfl⟩
  obtain ⟨W0, hW0, hB0, g0⟩ : ∃ W1, W1 = w.alloc (.cells #[.int .i64 k, .string SD] 40) ∧ Blk W1 w.heap.size 40 [.int .i64 k, .string SD] ∧ w.grownBy W1 none := box_new w _ _
  obtain ⟨W1, hW1, hb1, g1⟩ := bts_b W0 (UInt8.ofInt k)
  have hcv := wrap_b k
  have hc2 := conv_str hb1
  have cs := rsized_any W1 [UInt8.ofInt k] d (by simp; omega)
  have hput : putL k d = [UInt8.ofInt k] ++ layS d := rfl
  rw [← hput] at cs
  have hs0 : W0.heap.size = w.heap.size + 1 := by rw [hW0]; simp
  rw [hs0, show ([UInt8.ofInt k] : List UInt8).length = 1 from rfl] at hc2
  obtain ⟨TB, hTB⟩ : ∃ T, T = str [UInt8.ofInt k] := ⟨_, rfl⟩
  obtain ⟨TP, hTP⟩ : ∃ T, T = str (putL k d) := ⟨_, rfl⟩
  rw [← hTB] at hc2 cs
  rw [← hTP] at cs
  rw [← hSD] at cs
  rw [← hTP, ← hSD]
  obtain ⟨z, hz⟩ : ∃ z : Int, z = (((UInt8.ofInt k).toNat : Nat) : Int) := ⟨_, rfl⟩
  rw [← hz] at hcv hW1
  have hW : W1 = (w.alloc (.cells #[.int .i64 k, .string SD] 40)).alloc (.cells #[.int .u8 z] 5) := by rw [hW1, hW0]
  have c1 := (hB0.kept g1 (by simp)).cell 1
  simp only [List.getElem?_cons_zero, List.getElem?_cons_succ] at c1
  have HW := hide hW
  have G1 := tn g0 g1
  clear hW hW1 hW0 hz hTB hTP hSD hput hb1 hB0 g0 g1 hs0 hd
  go_enter Try.func20, Try.ntmps20
  go_wp2_with (rw [← unhide HW])
  refine cs.mono ?_
  rintro e w2 ⟨rfl, g2⟩
  clear cs c1 hc2
  go_wp2
  go_ret
  exact ⟨rfl, tn G1 g2⟩

end Go.Proofs.Ytcemdlcimhoeeaa

/- What the document's Read (package coffretref10) answers. Of at most 100000 bytes. -/
namespace Go.Proofs.Ytcemdlcimhoeeaa
open Go.RowKit

set_option maxRecDepth 100000 in
set_option maxHeartbeats 4000000 in
theorem rread_any (w : World) (b : List UInt8) (hl : b.length ≤ 100000) : Calls Try.prog 18 #[.string (str b)] w fun e w' => e = .returned (.tuple #[.agg #[.int .i64 (rdL b).2.1, .string (str (rdL b).2.2)], .int .i64 (rdL b).1]) ∧ w.grownBy w' none := by
  have hR : rdL b = (if doneS (sizedS (numS b 0 1).2.1 (numS b 0 1).2.2).2.1 (sizedS (numS b 0 1).2.1 (numS b 0 1).2.2).2.2 = 0 ∧ checkL ((numS b 0 1).1 : Int) (sizedS (numS b 0 1).2.1 (numS b 0 1).2.2).1 = 0 then (0, ((numS b 0 1).1 : Int), (sizedS (numS b 0 1).2.1 (numS b 0 1).2.2).1) else (11, 0, [])) := rfl
  have hv256 := numS_lt1 b 0
  have hl1 := numS_len b 0 1
  have c1a := fun V => rnum_any V b 0 1 (by omega)
  obtain ⟨⟨v1, l1, e1⟩, h1⟩ : ∃ a, numS b 0 1 = a := ⟨_, rfl⟩
  rw [h1] at hR hv256 hl1
  simp only at hR hv256 hl1
  have hdl := sizedS_le l1 e1
  have hl2 := sizedS_len l1 e1
  have c2a := fun V => rsz_any V l1 e1 (by omega)
  obtain ⟨⟨x, l2, e2⟩, h2⟩ : ∃ a, sizedS l1 e1 = a := ⟨_, rfl⟩
  rw [h2] at hR hdl hl2
  simp only at hR hdl hl2
  simp only [h1] at c1a
  simp only [h2] at c2a
  obtain ⟨r, hr⟩ : ∃ r, r = rdL b := ⟨_, rfl⟩
  rw [← hr] at hR ⊢
  obtain ⟨D, hD⟩ : ∃ D, D = doneS l2 e2 := ⟨_, rfl⟩
  obtain ⟨C, hC⟩ : ∃ C, C = checkL (v1 : Int) x := ⟨_, rfl⟩
  have c3 : ∀ V, Calls Try.prog 43 #[.agg #[.string (str l2), .int .i64 e2]] V fun r w' => r = .returned (.int .i64 D) ∧ V.grownBy w' none := fun V => by rw [hD]; exact rdone_any V l2 e2 (by omega)
  have c4 : ∀ V, Calls Try.prog 44 #[.agg #[.int .i64 (v1 : Int), .string (str x)]] V fun r w' => r = .returned (.int .i64 C) ∧ V.grownBy w' none := fun V => by rw [hC]; exact rcheck_any V v1 x (by omega)
  rw [← hD, ← hC] at hR
  have hcv : IntKind.i64.wrap ((v1 : Nat) : Int) = ((v1 : Nat) : Int) := by rw [IntKind.wrap_i64]; omega
  obtain ⟨SB, hSB⟩ : ∃ S, S = str b := ⟨_, rfl⟩
  obtain ⟨T1, hT1⟩ : ∃ T, T = str l1 := ⟨_, rfl⟩
  obtain ⟨T2, hT2⟩ : ∃ T, T = str l2 := ⟨_, rfl⟩
  obtain ⟨TX, hTX⟩ : ∃ T, T = str x := ⟨_, rfl⟩
  rw [← hSB, ← hT1] at c1a
  rw [← hT1, ← hT2, ← hTX] at c2a
  rw [← hT2] at c3
  rw [← hTX] at c4
  rw [← hSB]
  obtain ⟨S0, hS0⟩ : ∃ S, S = str [] := ⟨_, rfl⟩
  have hzv := zero_robj
  rw [← hS0] at hzv
  obtain ⟨E1, hE1, rE, gE⟩ : ∃ W, W = w.alloc (.cells #[.int .i64 0, .string S0] 40) ∧ Blk W w.heap.size 40 [.int .i64 0, .string S0] ∧ w.grownBy W none := box_new w _ _
  have HE1 := hide hE1
  have HR := hide hR
  have HTX := hide hTX
  have HS0 := hide hS0
  clear hR hr h1 h2 hD hC hSB hT1 hT2 hTX hS0 hE1 hl1 hdl hl2 hl
  go_enter Try.func18, Try.ntmps18
  go_wp2_with (rw [← unhide HE1])
  refine (c1a _).mono ?_
  rintro e w2 ⟨rfl, g2⟩
  have r2 := rE.kept g2 (by simp)
  have hs2 : w.heap.size < w2.heap.size := r2.lt
  obtain ⟨W3, hW3, p3, g3⟩ := box_new w2 87 [.string T1, .int .i64 e1]
  have q0 := p3.cell 0
  have q1 := p3.cell 1
  simp only [List.getElem?_cons_zero, List.getElem?_cons_succ] at q0 q1
  have HW3 := hide hW3
  have r3 := r2.kept g3 (by simp)
  have G3 := tn (tn gE g2) g3
  clear c1a hW3 r2 rE gE g2 g3
  go_wp2_with (rw [← unhide HW3])
  refine (c2a _).mono ?_
  rintro e w4 ⟨rfl, g4⟩
  have p4 := p3.kept g4 (by simp)
  have r4 := r3.kept g4 (by simp)
  have G4 := tn G3 g4
  have a0 := p4.cell 0
  have a1 := p4.cell 1
  have za0 := p4.fz 0
  have za1 := p4.fz 1
  simp only [List.getElem?_cons_zero, List.getElem?_cons_succ] at a0 a1
  obtain ⟨W5, hW5⟩ : ∃ W, W = (w4.setCell ⟨w2.heap.size, 0, none⟩ (.string T2)).setCell ⟨w2.heap.size, 1, none⟩ (.int .i64 e2) := ⟨_, rfl⟩
  have p5 : Blk W5 w2.heap.size 87 [.string T2, .int .i64 e2] := by rw [hW5]; exact (p4.set 0 _).set 1 _
  have r5 : Blk W5 w.heap.size 40 [.int .i64 0, .string S0] := by rw [hW5]; exact (r4.other _ _ (by simp; omega)).other _ _ (by simp; omega)
  have G5 : w.grownBy W5 none := by rw [hW5]; exact gb_setCell (gb_setCell G4 _ _ (Or.inl (by simp; omega))) _ _ (Or.inl (by simp; omega))
  obtain ⟨W6, hW6, o6, g6⟩ : ∃ W, W = W5.alloc (.cells #[.int .i64 (v1 : Int), .string TX] 40) ∧ Blk W W5.heap.size 40 [.int .i64 (v1 : Int), .string TX] ∧ W5.grownBy W none := box_new W5 _ _
  have p6 := p5.kept g6 (by simp)
  have r6 := r5.kept g6 (by simp)
  have G6 := tn G5 g6
  have k0 := p6.cell 0
  have k1 := p6.cell 1
  simp only [List.getElem?_cons_zero, List.getElem?_cons_succ] at k0 k1
  have HW5 := hide hW5
  have HW6 := hide hW6
  have HO6 := hide o6
  have HR6 := hide r6
  have HG6 := hide G6
  clear c2a q0 q1 p3 r3 G3 p4 r4 G4 hW5 hW6 p5 r5 G5 p6 r6 G6 o6 g6 g4 HW3
  go_wp2_with (first | (rw [← unhide HW6]) | (rw [← unhide HW5]))
  refine (c3 _).mono ?_
  rintro e w7 ⟨rfl, g7⟩
  have o7 := (unhide HO6).kept g7 (by simp)
  have r7 := (unhide HR6).kept g7 (by simp)
  have G7 := tn (unhide HG6) g7
  have d0 := o7.cell 0
  have d1 := o7.cell 1
  simp only [List.getElem?_cons_zero, List.getElem?_cons_succ] at d0 d1
  clear c3 a0 a1 za0 za1 k0 k1 HW5 HW6
  by_cases hD0 : D = 0
  · subst hD0
    have c4w := c4 w7
    have HO7 := hide o7
    have HR7 := hide r7
    have HG7 := hide G7
    clear c4 o7 r7 G7
    by_cases hC0 : C = 0
    · subst hC0
      have hres : r = (0, (v1 : Int), x) := by rw [unhide HR, if_pos ⟨rfl, rfl⟩]
      have HRS := hide hres
      clear hres
      go_wp2_with (go_at_call 44; refine c4w.mono ?_; rintro e w8 ⟨rfl, g8⟩; have o8 := (unhide HO7).kept g8 (by simp); have r8 := (unhide HR7).kept g8 (by simp); have f0 := o8.cell 0; have f1 := o8.cell 1; have s0 := r8.cell 0; have s1 := r8.cell 1; have y0 := r8.fz 0; have y1 := r8.fz 1; simp only [List.getElem?_cons_zero, List.getElem?_cons_succ] at f0 f1 s0 s1; clear c4w)
      refine bodyPost_ret (results_row_tmp rfl _ _ _ _ _ _ _ rfl ((r8.set 0 (.int .i64 (v1 : Int))).set 1 (.string TX)) Try.underlying40 rfl info_robj) rfl ?_
      exact ⟨by rw [unhide HRS, unhide HTX]; rfl, gb_setCell (gb_setCell (tn (unhide HG7) g8) _ _ (Or.inl (Nat.le_refl _))) _ _ (Or.inl (Nat.le_refl _))⟩
    · have hC1 : (C == 0) = false := by simpa using hC0
      have hres : r = (11, 0, []) := by rw [unhide HR, if_neg (fun h => hC0 h.2)]
      have HRS := hide hres
      clear hres
      go_wp2_with (go_at_call 44; refine c4w.mono ?_; rintro e w8 ⟨rfl, g8⟩; have o8 := (unhide HO7).kept g8 (by simp); have r8 := (unhide HR7).kept g8 (by simp); have f0 := o8.cell 0; have f1 := o8.cell 1; have s0 := r8.cell 0; have s1 := r8.cell 1; have y0 := r8.fz 0; have y1 := r8.fz 1; simp only [List.getElem?_cons_zero, List.getElem?_cons_succ] at f0 f1 s0 s1; clear c4w)
      refine bodyPost_ret (results_row_tmp rfl _ _ _ _ _ _ _ rfl ((r8.set 0 (.int .i64 0)).set 1 _) Try.underlying40 rfl info_robj) rfl ?_
      exact ⟨by rw [unhide HRS, unhide HS0]; rfl, gb_setCell (gb_setCell (tn (unhide HG7) g8) _ _ (Or.inl (Nat.le_refl _))) _ _ (Or.inl (Nat.le_refl _))⟩
  · have hD1 : (D == 0) = false := by simpa using hD0
    have hres : r = (11, 0, []) := by rw [unhide HR, if_neg (fun h => hD0 h.1)]
    have HRS := hide hres
    have s0 := r7.cell 0
    have s1 := r7.cell 1
    have y0 := r7.fz 0
    have y1 := r7.fz 1
    simp only [List.getElem?_cons_zero, List.getElem?_cons_succ] at s0 s1
    clear hres c4
    go_wp2
    refine bodyPost_ret (results_row_tmp rfl _ _ _ _ _ _ _ rfl ((r7.set 0 (.int .i64 0)).set 1 _) Try.underlying40 rfl info_robj) rfl ?_
    exact ⟨by rw [unhide HRS, unhide HS0]; rfl, gb_setCell (gb_setCell G7 _ _ (Or.inl (Nat.le_refl _))) _ _ (Or.inl (Nat.le_refl _))⟩

end Go.Proofs.Ytcemdlcimhoeeaa
