/- ObjectBounds answers true of any three numbers, and nothing that was in memory has changed: the first is made less. No condition. -/
import Derived.Test.YtcemdlcimhoeeaaOOne
import Derived.Test.YtcemdlcimhoeeaaOChgM
import Derived.Test.YtcemdlcimhoeeaaOMrk
import Derived.Test.YtcemdlcimhoeeaaMMake
import Derived.Test.YtcemdlcimhoeeaaMMsk
import Derived.Test.YtcemdlcimhoeeaaOApp
import Derived.Test.YtcemdlcimhoeeaaMSame
namespace Go.Proofs.Ytcemdlcimhoeeaa
open Go.RowKit

set_option maxRecDepth 100000 in
set_option maxHeartbeats 16000000 in
theorem bounds_A (w : World) (a b q : Int) (n1 m p : Nat) (hn1 : n1 ≤ 32767) (hm : m ≤ 16383) (hp : p ≤ 3) (e1 : bits .and .i64 a 32767 = (n1 : Int)) (e2 : bits .and .i64 b 16383 = (m : Int)) (e3 : bits .and .i64 q 3 = (p : Int)) (hc : 16400 < n1) : Calls Try.prog 5 #[.int .i64 a, .int .i64 b, .int .i64 q] w fun e w' => e = .returned (.bool true) ∧ w.grownBy w' none := by
  obtain ⟨r0, hr0, e40⟩ := and_mask 255 (by omega) (n1 : Int)
  have e4 : bits .and .i64 (n1 : Int) 255 = (r0 : Int) := e40
  obtain ⟨n, hn⟩ : ∃ n, n = 16200 + r0 := ⟨_, rfl⟩
  have e5 : (16200 : Int) + (r0 : Int) = (n : Int) := by omega
  have e6 : IntKind.i64.wrap (n : Int) = (n : Int) := by rw [IntKind.wrap_i64]; omega
  have hnb : n ≤ 16455 := by omega
  have hc2 : (16400 : Int) < (n1 : Int) := by omega
  clear e40 hn hr0 hn1 hc
  have hmA := fun W => make_bytes W n (by omega)
  have hmX := fun W => make_bytes W m (by omega)
  obtain ⟨TA, hTA⟩ : ∃ T, T = str (List.replicate n (0 : UInt8)) := ⟨_, rfl⟩
  obtain ⟨TX, hTX⟩ : ∃ T, T = str (List.replicate m (0 : UInt8)) := ⟨_, rfl⟩
  obtain ⟨ZA, hZA⟩ : ∃ Z, Z = List.replicate n (0 : UInt8) := ⟨_, rfl⟩
  obtain ⟨ZX, hZX⟩ : ∃ Z, Z = List.replicate m (0 : UInt8) := ⟨_, rfl⟩
  rw [← hZA] at hmA
  rw [← hZX] at hmX
  obtain ⟨VA, hVA⟩ : ∃ Z, Z = (ZA.map bv).toArray := ⟨_, rfl⟩
  obtain ⟨VX, hVX⟩ : ∃ Z, Z = (ZX.map bv).toArray := ⟨_, rfl⟩
  rw [← hVA] at hmA
  rw [← hVX] at hmX
  obtain ⟨C0, hC0⟩ : ∃ C, C = chC (bcg n m 0) none 0 := ⟨_, rfl⟩
  have hC0l : C0.length = 36 := by rw [hC0]; exact chC_len _ _ _ (by simp [bcg])
  have hbl : Try.prog.built 28 [(2, .int .u64 1), (3, .string TA), (4, .string TX)] = some C0.toArray := by rw [hC0, hTA, hTX]; kernel_rfl
  obtain ⟨ZC, hZC, zvC⟩ := zero_chg
  have HI : Hid ((Try.prog.info? 28).map (·.size) = some C0.toArray.size) := hide (by rw [show C0.toArray.size = 36 by simpa using hC0l]; exact info_chg)
  have HZ : Hid (ZC.size = C0.toArray.size) := hide (by rw [show C0.toArray.size = 36 by simpa using hC0l]; exact hZC)
  have HO : Hid (C0.toArray.all (·.oneCell') = true) := hide (by rw [hC0]; exact all_oneCell_toArray (chC_one _ _ _))
  have HBL := hide hbl
  have HZC9 := hide hZC
  have HTA : Hid (TA = str ZA) := hide (by rw [hTA, hZA])
  have HTX : Hid (TX = str ZX) := hide (by rw [hTX, hZX])
  have HVA := hide hVA
  have HVX := hide hVX
  have HZA := hide hZA
  have HZX := hide hZX
  have HC0 := hide hC0
  have HMA := hide hmA
  have HMX := hide hmX
  have HNL : Hid (ZA.length = n) := hide (by rw [hZA]; simp)
  have HML : Hid (ZX.length = m) := hide (by rw [hZX]; simp)
  clear hbl hC0 hC0l hTA hTX hZA hZX hVA hVX hmA hmX hZC
  go_enter Try.func5, Try.ntmps5
  have h0 : w.grownBy w.drew none := gb_drew (gb_refl _ _)
  go_upto_region 5 with fail
  rename_i K hK
  have fin : ∀ (V : World) (bA bX b7 : Nat), w.grownBy V none → Blk V b7 28 C0 → w.heap.size ≤ b7 → K { tmps := #[.int .i64 (n : Int), .int .i64 (m : Int), .int .i64 (p : Int), undef, undef, undef, .bool false, .pointer (some ⟨b7, 0, none⟩), undef, undef, undef, undef, undef, undef, undef, undef, .int .i64 a, .int .i64 (n1 : Int), .int .i64 b, .int .i64 (m : Int), .int .i64 (n1 : Int), .bool true, .int .i64 (n1 : Int), .int .i64 (r0 : Int), .int .i64 (n : Int), .int .i64 q, .int .i64 (p : Int), .int .i64 (n : Int), .slice (some ⟨bA, 0, none⟩) n n, .string TA, .int .i64 (m : Int), .slice (some ⟨bX, 0, none⟩) m m, .string TX, .agg C0.toArray, undef, undef, undef, undef, undef, undef, undef, undef, undef, undef, undef, undef, undef, undef, undef, undef, undef, undef, undef, undef, undef, undef, undef, undef, undef, undef, undef, undef, undef, undef, undef, undef, undef, undef, undef, undef, undef, undef, undef, undef, undef, undef, undef, undef, undef, undef, undef, undef, undef, undef, undef, undef, undef, undef, undef, undef, undef, undef, undef, undef, undef, undef, undef, undef, undef, undef, undef, undef, undef, undef, undef, undef, undef, undef, undef, undef, undef, undef, undef, undef, undef, undef, undef, undef, undef, undef, undef, undef, undef, undef, undef, undef, undef, undef, undef, undef, undef, undef, undef, undef, undef, undef, undef, undef, undef, undef, undef, undef, undef, undef], defers := [] } V := by
    as_aux_lemma =>
      intro V bA bX b7 hV hB7 hb7
      refine hK _ _ ?_
      clear hK K h0 e1 e2 e3 hc2
      (try clear e4 e5 e6)
      rw [unhide HC0] at hB7
      have hlt7 := hB7.lt
      have zA : TA.size = n := by rw [unhide HTA, str_size, unhide HNL]
      have zX : TX.size = m := by rw [unhide HTX, str_size, unhide HML]
      clear HI HZ HO HBL HVA HVX HC0 HMA HMX HNL HML
      go_wp2_with fail
      go_loopw [8] (fun i wr => ∃ j : Nat, i = .int .i64 j ∧ j ≤ p ∧ (∃ po pc, Blk wr b7 28 (chC (bcg n m j) po pc) ∧ wr.ownsRow V.heap.size 24 32 (.slice po j pc) j (((List.range j).map idOf).flatMap (·.map bv))) ∧ V.heap.size ≤ wr.heap.size ∧ w.grownBy wr none) (fun i _ => p - (intOf i).toNat)
      case atStart => exact ⟨0, rfl, Nat.zero_le _, ⟨none, 0, hB7, World.ownsRow_nil _ _ _ _⟩, Nat.le_refl _, hV⟩
      case round =>
        obtain ⟨j, rfl, hj, ⟨po, pc, hB, ho⟩, hs, hg⟩ := hrel
        by_cases hlt : j < p
        · have hat := (chC_at (bcg n m j) po pc (by simp [bcg])).1
          rw [bcg_pars] at hat
          have c32 : wr.cell? ⟨b7, 32, none⟩ = some (.slice po j pc) := by rw [hB.cell 32, hat]
          obtain ⟨IC, hIC⟩ : ∃ I, I = (idOf j).map bv := ⟨_, rfl⟩
          have hib : Try.prog.built 24 [(0, .int .u8 (j : Int))] = some IC.toArray := by rw [hIC]; exact built_idOf j (by omega)
          have hbs := bs_id (idOf j) (by simp [idOf]) wr
          rw [← hIC] at hbs
          have hIl : IC.length = 32 := by rw [hIC]; simp [idOf]
          have hI1 : ∀ u ∈ IC, u.oneCell' = true := by rw [hIC]; exact bv_one _
          obtain ⟨W5, hW5, hB5, g5⟩ := box_new wr 24 IC
          have HO5 := hide (own_id ho g5 (fun x e => by cases e))
          have HB7 := hide (hB.kept g5 (by simp))
          have HG5 := hide (tn hg g5)
          have HS5 := hide (Nat.le_trans hs g5.size)
          have HIB := hide hib
          have HBS := hide hbs
          have HIL := hide hIl
          have HI1 := hide hI1
          have HB5 := hide hB5
          have HW5 := hide hW5
          have HIC := hide hIC
          have HAT := hide hat
          have hj9 : j ≤ 100000 := by omega
          have wj : IntKind.u8.wrap (j : Int) = (j : Int) := by rw [IntKind.wrap_u8]; omega
          clear hB ho hs hg hat hIC hib hbs hIl hI1 hW5 hB5 g5 hB7 hV
          go_wp2_with (first
            | (refine wpList_built rfl 24 _ rfl IC.toArray (by simpa [Act.eval] using unhide HIB) ?_)
            | (refine wpList_build1 rfl 25 _ rfl (.agg IC.toArray) _ rfl (unhide HBS) ?_; rw [← unhide HW5])
            | (refine wpList_append_id rfl _ _ rfl V.heap.size _ j _ rfl (unhide HO5) wr.heap.size IC (unhide HB5) (unhide HIL) (unhide HI1) rfl hj9 (unhide HS5) ?_
               intro v6 w6 ho6 g6
               have hB6 := (unhide HB7).kept g6 (fun e => by have := ((unhide HO5).lt b7 e.symm).1; omega)
               have HG6 := hide (gb_trans (unhide HG5) g6 (fun x e => Or.inl (Nat.le_trans hb7 (Nat.le_trans (Nat.le_of_lt hlt7) ((unhide HO5).lt x e).1))))
               have HS6 := hide (Nat.le_trans (unhide HS5) g6.size)
               rw [unhide HIC] at ho6
               obtain ⟨po6, pc6, rfl, ho6b⟩ := ids_snoc9 ho6
               have c6 : w6.cell? ⟨b7, 32, none⟩ = some (.slice po j pc) := by rw [hB6.cell 32]; exact unhide HAT
               have f6 := hB6.fz 32
               have HB6 := hide hB6
               have HO6 := hide ho6b
               clear ho6 ho6b hB6 g6 c32))
          go_roundw
          case rel =>
            refine ⟨j + 1, by go_num, by omega, ⟨po6, pc6, ?_, ?_⟩, ?_, ?_⟩
            · have z := (unhide HB6).set 32 (.slice po6 (j + 1) pc6)
              rw [chC_next] at z
              exact z
            · exact own_id (unhide HO6) (gb_setCell (gb_refl w6 (some b7)) _ _ (Or.inr rfl)) (fun x e => by cases e; exact hlt7)
            · simpa [World.setCell] using unhide HS6
            · exact gb_setCell (unhide HG6) _ _ (Or.inl hb7)
          case measure => simp [intOf]; omega
        · have hjp : j = p := by omega
          subst hjp
          obtain ⟨po0, pc0, e0, hP⟩ := ids_of ho
          injection e0 with e01 _ e02
          subst e01 e02
          obtain ⟨at1, at2, at3, at4⟩ := chC_at (bcg n m j) po pc (by simp [bcg])
          have hlen := bcg_len n m j
          have k7 : wr.cell? ⟨b7, 35, none⟩ = some (.string TX) := by rw [hB.cell 35, at4, unhide HTX, unhide HZX]; rfl
          obtain ⟨CC, hCC⟩ : ∃ C, C = chC (bcg n m j) po pc := ⟨_, rfl⟩
          have hrC := blk_all hB
          rw [← hCC] at hrC
          have HJC : Hid ((Try.prog.info? 28).map (·.size) = some CC.length) := hide (by rw [hCC, chC_len _ _ _ (by simp [bcg])]; exact info_chg)
          have HC : Hid (Calls Try.prog 9 #[.agg CC.toArray] wr fun e w' => Made wr w' 3 (ofChg (bcg n m j)) e) := hide (by
            rw [hCC]; exact ofChg_any wr (bcg n m j) po pc hP (by simp [bcg]) (by simp [bcg]; omega) (by simp [bcg]; omega) (by rw [bcg_pars]; omega))
          obtain ⟨u1, hu1⟩ : ∃ u, u = 32 * j := ⟨_, rfl⟩
          obtain ⟨u2, hu2⟩ : ∃ u, u = 33 + u1 := ⟨_, rfl⟩
          obtain ⟨u3, hu3⟩ : ∃ u, u = u2 + 8 := ⟨_, rfl⟩
          obtain ⟨u4, hu4⟩ : ∃ u, u = u3 + 4 := ⟨_, rfl⟩
          obtain ⟨u5, hu5⟩ : ∃ u, u = u4 + n := ⟨_, rfl⟩
          obtain ⟨u6, hu6⟩ : ∃ u, u = u5 + 4 := ⟨_, rfl⟩
          obtain ⟨sz, hsz⟩ : ∃ u, u = u6 + m := ⟨_, rfl⟩
          have y1 : (32 : Int) * (j : Int) = (u1 : Int) := by omega
          have y2 : (33 : Int) + (u1 : Int) = (u2 : Int) := by omega
          have y3 : (u2 : Int) + 8 = (u3 : Int) := by omega
          have y4 : (u3 : Int) + 4 = (u4 : Int) := by omega
          have y5 : (u4 : Int) + (n : Int) = (u5 : Int) := by omega
          have y6 : (u5 : Int) + 4 = (u6 : Int) := by omega
          have y7 : (u6 : Int) + (m : Int) = (sz : Int) := by omega
          have x1 : IntKind.i64.wrap (u1 : Int) = (u1 : Int) := by rw [IntKind.wrap_i64]; omega
          have x2 : IntKind.i64.wrap (u2 : Int) = (u2 : Int) := by rw [IntKind.wrap_i64]; omega
          have x3 : IntKind.i64.wrap (u3 : Int) = (u3 : Int) := by rw [IntKind.wrap_i64]; omega
          have x4 : IntKind.i64.wrap (u4 : Int) = (u4 : Int) := by rw [IntKind.wrap_i64]; omega
          have x5 : IntKind.i64.wrap (u5 : Int) = (u5 : Int) := by rw [IntKind.wrap_i64]; omega
          have x6 : IntKind.i64.wrap (u6 : Int) = (u6 : Int) := by rw [IntKind.wrap_i64]; omega
          have x7 : IntKind.i64.wrap (sz : Int) = (sz : Int) := by rw [IntKind.wrap_i64]; omega
          have hszl : sz = 49 + 32 * j + n + m := by omega
          have hG := hide hg
          clear hu1 hu2 hu3 hu4 hu5 hu6 hsz hCC ho hP hB hB7 hV at1 at2 at3 at4 hs hg
          by_cases hbig : 16384 < sz
          · have hbig2 : (16384 : Int) < (sz : Int) := by omega
            rw [bcg_big n m j (by omega) (by omega)] at HC
            clear hbig hszl hlen
            go_wp2_with (refine wpList_load_mid rfl 28 _ rfl b7 0 rfl CC _ hrC Try.underlying28 rfl (unhide HJC) ?_)
            refine (unhide HC).mono ?_
            intro e w1 hmd
            obtain ⟨a1, c1, rfl, _, g1⟩ := made_bts hmd
            clear hmd HC k7
            simp only [if_neg (show ¬ (3 : Int) = 0 by decide), List.length_nil]
            obtain ⟨W1, hW1, hB1, g1b⟩ : ∃ W, W = w1.alloc (.cells #[.int .i64 0, .slice a1 0 c1] 35) ∧ Blk W w1.heap.size 35 [.int .i64 0, .slice a1 0 c1] ∧ w1.grownBy W none := box_new w1 _ _
            have c1b := hB1.cell 1
            simp only [List.getElem?_cons_zero, List.getElem?_cons_succ] at c1b
            have HW1 := hide hW1
            have G1 := tn (tn (unhide hG) g1) g1b
            clear hW1 hB1 g1 g1b hrC
            go_wp2_with (rw [← unhide HW1])
            refine (oone_any W1).mono ?_
            rintro e w2 ⟨rfl, g2⟩
            clear c1b
            go_wp2
            go_ret
            exact ⟨rfl, tn G1 g2⟩
          · have hbig2 : ¬ (16384 : Int) < (sz : Int) := by omega
            have hfit : ¬ 16384 < 49 + 32 * j + n + m := by omega
            rw [bcg_fit n m j (by omega) hfit] at HC
            have htel := bcg_tel n m j (by omega) hfit
            obtain ⟨D1, hD1⟩ : ∃ D, D = chgB (bcg n m j) := ⟨_, rfl⟩
            rw [← hD1] at htel hlen HC
            have hDl : D1.length = sz := by omega
            obtain ⟨m3, hm3⟩ : ∃ u, u = 46 + m := ⟨_, rfl⟩
            have y8 : (46 : Int) + (m : Int) = (m3 : Int) := by omega
            have x8 : IntKind.i64.wrap (m3 : Int) = (m3 : Int) := by rw [IntKind.wrap_i64]; omega
            have hle : (m3 : Int) ≤ 16384 := by omega
            have hmf := bmk_fit m (by omega)
            have hml := bmk_len m
            obtain ⟨D3, hD3⟩ : ∃ D, D = mrkB (bmk m) := ⟨_, rfl⟩
            rw [← hD3] at hmf hml
            have hDl3 : D3.length = m3 := by omega
            obtain ⟨MC, hMC⟩ : ∃ C, C = mkC (bmk m) := ⟨_, rfl⟩
            have hbm : Try.prog.built 30 [(1, .string { data := #[116, 97, 103, 115, 47, 97] }), (2, .string TX)] = some MC.toArray := by rw [hMC, unhide HTX, unhide HZX]; kernel_rfl
            have HBM := hide hbm
            have HOM : Hid (∀ V : World, Calls Try.prog 12 #[.agg MC.toArray] V fun e w' => Made V w' 4 (0, D3) e) := hide fun V => by
              have z := ofMrk_any V (bmk m) (by simp [bmk]) (by simp [bmk, tagsA]) (by simp [bmk]; omega)
              rw [hmf] at z
              rw [hMC]; exact z
            have HDL := hide hDl
            have HDL3 := hide hDl3
            have HTEL := hide htel
            clear hbig hszl hlen hfit hmf hml hD1 hD3 hMC hbm hm3 hDl hDl3 htel
            go_wp2_with (refine wpList_load_mid rfl 28 _ rfl b7 0 rfl CC _ hrC Try.underlying28 rfl (unhide HJC) ?_)
            refine (unhide HC).mono ?_
            intro e w1 hmd
            obtain ⟨a1, c1, rfl, hb1, g1⟩ := made_bts hmd
            clear hmd HC
            simp only [if_pos, unhide HDL]
            obtain ⟨W1, hW1, hB1, g1b⟩ : ∃ W, W = w1.alloc (.cells #[.int .i64 3, .slice a1 sz c1] 35) ∧ Blk W w1.heap.size 35 [.int .i64 3, .slice a1 sz c1] ∧ w1.grownBy W none := box_new w1 _ _
            have p0 := hB1.cell 0
            have p1 := hB1.cell 1
            simp only [List.getElem?_cons_zero, List.getElem?_cons_succ] at p0 p1
            have HW1 := hide hW1
            have gT := tn g1 g1b
            have G1 := tn (unhide hG) gT
            replace k7 := gT.cell k7 (by simp)
            have HCO : Hid (Calls Try.prog 21 #[.agg #[.int .i64 3, .slice a1 sz c1]] W1 fun e w' => ∃ po pc y, e = .returned (.tuple #[.agg (chC (bcg n m j) po pc).toArray, .int .i64 y]) ∧ y = 0 ∧ W1.grownBy w' none) := hide (by
              have z := changeOf_any W1 3 a1 c1 D1 (hb1.kept g1b (fun _ e => by cases e)) (by rw [unhide HDL]; omega)
              rw [unhide HDL, unhide HTEL] at z
              refine z.mono ?_
              rintro e w' ⟨po, pc, y, h1, h2, _, h3⟩
              exact ⟨po, pc, y, h1, h2, h3⟩)
            clear hW1 hB1 g1 g1b hrC gT hb1
            go_wp2_with (rw [← unhide HW1])
            refine (unhide HCO).mono ?_
            rintro e w2 ⟨po2, pc2, y9, rfl, rfl, g2⟩
            obtain ⟨bt1, bt2, bt3, bt4⟩ := chC_at (bcg n m j) po2 pc2 (by simp [bcg])
            have hC2l := chC_len (bcg n m j) po2 pc2 (by simp [bcg])
            rw [bcg_pars] at bt1
            obtain ⟨C2, hC2⟩ : ∃ C, C = chC (bcg n m j) po2 pc2 := ⟨_, rfl⟩
            have HO2 : Hid (C2.toArray.all (·.oneCell') = true) := hide (by rw [hC2]; exact all_oneCell_toArray (chC_one _ _ _))
            rw [← hC2] at bt1 bt2 bt3 bt4 hC2l ⊢
            have HI2 : Hid ((Try.prog.info? 28).map (·.size) = some C2.toArray.size) := hide (by rw [show C2.toArray.size = 36 by simpa using hC2l]; exact info_chg)
            have HS2 : Hid (ZC.size = C2.toArray.size) := hide (by rw [show C2.toArray.size = 36 by simpa using hC2l]; exact unhide HZC9)
            obtain ⟨W2, hW2, hB2, g2b⟩ := row_new w2 28 ZC C2
            have hTA9 : str (bcg n m j).author = TA := by rw [unhide HTA, unhide HZA]; rfl
            have hTX9 : str (bcg n m j).text = TX := by rw [unhide HTX, unhide HZX]; rfl
            have r1 : W2.cell? ⟨w2.heap.size, 32, none⟩ = some (.slice po2 j pc2) := by rw [hB2.cell 32, bt1]
            have r3 : W2.cell? ⟨w2.heap.size, 34, none⟩ = some (.string TA) := by rw [hB2.cell 34, bt3, hTA9]
            have r4 : W2.cell? ⟨w2.heap.size, 35, none⟩ = some (.string TX) := by rw [hB2.cell 35, bt4, hTX9]
            have gT := tn g2 g2b
            have G2 := tn G1 gT
            replace k7 := gT.cell k7 (by simp)
            replace p0 := gT.cell p0 (by simp)
            replace p1 := gT.cell p1 (by simp)
            have HW2 := hide hW2
            clear HCO bt1 bt2 bt3 bt4 hC2 hC2l hW2 hB2 g2 g2b gT hTA9 hTX9 G1
            go_wp2_with (first
              | (refine wpList_store_row rfl 28 _ _ rfl w2.heap.size C2.toArray rfl rfl _ _ (heap_alloc_new _ _) (unhide HI2) (unhide HS2) (unhide HO2) ?_; rw [← unhide HW2])
              | (refine wpList_built rfl 30 _ rfl MC.toArray (by simpa [Act.eval] using unhide HBM) ?_))
            refine (unhide HOM W2).mono ?_
            intro e w3 hmd
            obtain ⟨a3, c3, rfl, _, g3⟩ := made_bts hmd
            clear hmd HOM k7
            simp only [if_pos, unhide HDL3]
            obtain ⟨W3, hW3, hB3, g3b⟩ : ∃ W, W = w3.alloc (.cells #[.int .i64 4, .slice a3 m3 c3] 35) ∧ Blk W w3.heap.size 35 [.int .i64 4, .slice a3 m3 c3] ∧ w3.grownBy W none := box_new w3 _ _
            have t1 := hB3.cell 1
            simp only [List.getElem?_cons_zero, List.getElem?_cons_succ] at t1
            have gT := tn g3 g3b
            have G3 := tn G2 gT
            replace p0 := gT.cell p0 (by simp)
            replace p1 := gT.cell p1 (by simp)
            replace r1 := gT.cell r1 (by simp)
            replace r3 := gT.cell r3 (by simp)
            replace r4 := gT.cell r4 (by simp)
            have HW3 := hide hW3
            clear hW3 hB3 g3 g3b gT G2 y1 y2 y3 y4 y5 y6 y7 x1 x2 x3 x4 x5 x6 x7
            go_upto_region 16 with (rw [← unhide HW3])
            refine region_named fun O hO => ?_
            refine wpList_val (by rw [hO]; kernel_rfl) (.int .i64 (0 : Int)) (fun K9 hK9 => by go_simp; exact hK9) ?_
            (try simp only [Act.put, List.setIfInBounds_toArray, List.set_cons_zero, List.set_cons_succ])
            refine wpList_val (by rw [hO]; kernel_rfl) (.bool true) (fun K9 hK9 => by go_simp; exact hK9) ?_
            (try simp only [Act.put, List.setIfInBounds_toArray, List.set_cons_zero, List.set_cons_succ])
            refine wpList_val (by rw [hO]; kernel_rfl) (.bool true) (fun K9 hK9 => by go_simp; exact hK9) ?_
            (try simp only [Act.put, List.setIfInBounds_toArray, List.set_cons_zero, List.set_cons_succ])
            refine wpList_val (by rw [hO]; kernel_rfl) (.int .i64 (0 : Int)) (fun K9 hK9 => by go_simp; exact hK9) ?_
            (try simp only [Act.put, List.setIfInBounds_toArray, List.set_cons_zero, List.set_cons_succ])
            refine wpList_val (by rw [hO]; kernel_rfl) (.bool true) (fun K9 hK9 => by go_simp; exact hK9) ?_
            (try simp only [Act.put, List.setIfInBounds_toArray, List.set_cons_zero, List.set_cons_succ])
            refine wpList_val (by rw [hO]; kernel_rfl) (.bool true) (fun K9 hK9 => by go_simp; exact hK9) ?_
            (try simp only [Act.put, List.setIfInBounds_toArray, List.set_cons_zero, List.set_cons_succ])
            refine wpList_val (by rw [hO]; kernel_rfl) (.bool true) (fun K9 hK9 => by go_simp; exact hK9) ?_
            (try simp only [Act.put, List.setIfInBounds_toArray, List.set_cons_zero, List.set_cons_succ])
            refine wpList_val (by rw [hO]; kernel_rfl) (.pointer (some ⟨w1.heap.size, 1, none⟩)) (fun K9 hK9 => by go_simp; exact hK9) ?_
            (try simp only [Act.put, List.setIfInBounds_toArray, List.set_cons_zero, List.set_cons_succ])
            refine wpList_val (by rw [hO]; kernel_rfl) (.slice a1 sz c1) (fun K9 hK9 => by go_simp; exact hK9) ?_
            (try simp only [Act.put, List.setIfInBounds_toArray, List.set_cons_zero, List.set_cons_succ])
            refine wpList_val (by rw [hO]; kernel_rfl) (.int .i64 (sz : Int)) (fun K9 hK9 => by go_simp; exact hK9) ?_
            (try simp only [Act.put, List.setIfInBounds_toArray, List.set_cons_zero, List.set_cons_succ])
            refine wpList_val (by rw [hO]; kernel_rfl) (.int .i64 (sz : Int)) (fun K9 hK9 => by go_simp; exact hK9) ?_
            (try simp only [Act.put, List.setIfInBounds_toArray, List.set_cons_zero, List.set_cons_succ])
            refine wpList_val (by rw [hO]; kernel_rfl) (.bool true) (fun K9 hK9 => by go_simp; exact hK9) ?_
            (try simp only [Act.put, List.setIfInBounds_toArray, List.set_cons_zero, List.set_cons_succ])
            refine wpList_val (by rw [hO]; kernel_rfl) (.bool true) (fun K9 hK9 => by go_simp; exact hK9) ?_
            (try simp only [Act.put, List.setIfInBounds_toArray, List.set_cons_zero, List.set_cons_succ])
            refine wpList_val (by rw [hO]; kernel_rfl) (.bool true) (fun K9 hK9 => by go_simp; exact hK9) ?_
            (try simp only [Act.put, List.setIfInBounds_toArray, List.set_cons_zero, List.set_cons_succ])
            refine wpList_val (by rw [hO]; kernel_rfl) (.pointer (some ⟨w2.heap.size, 34, none⟩)) (fun K9 hK9 => by go_simp; exact hK9) ?_
            (try simp only [Act.put, List.setIfInBounds_toArray, List.set_cons_zero, List.set_cons_succ])
            refine wpList_val (by rw [hO]; kernel_rfl) (.string TA) (fun K9 hK9 => by go_simp; exact hK9) ?_
            (try simp only [Act.put, List.setIfInBounds_toArray, List.set_cons_zero, List.set_cons_succ])
            refine wpList_val (by rw [hO]; kernel_rfl) (.int .i64 (n : Int)) (fun K9 hK9 => by go_simp; exact hK9) ?_
            (try simp only [Act.put, List.setIfInBounds_toArray, List.set_cons_zero, List.set_cons_succ])
            refine wpList_val (by rw [hO]; kernel_rfl) (.int .i64 (n : Int)) (fun K9 hK9 => by go_simp; exact hK9) ?_
            (try simp only [Act.put, List.setIfInBounds_toArray, List.set_cons_zero, List.set_cons_succ])
            refine wpList_val (by rw [hO]; kernel_rfl) (.bool true) (fun K9 hK9 => by go_simp; exact hK9) ?_
            (try simp only [Act.put, List.setIfInBounds_toArray, List.set_cons_zero, List.set_cons_succ])
            refine wpList_val (by rw [hO]; kernel_rfl) (.bool true) (fun K9 hK9 => by go_simp; exact hK9) ?_
            (try simp only [Act.put, List.setIfInBounds_toArray, List.set_cons_zero, List.set_cons_succ])
            refine wpList_val (by rw [hO]; kernel_rfl) (.bool true) (fun K9 hK9 => by go_simp; exact hK9) ?_
            (try simp only [Act.put, List.setIfInBounds_toArray, List.set_cons_zero, List.set_cons_succ])
            refine wpList_val (by rw [hO]; kernel_rfl) (.pointer (some ⟨w2.heap.size, 35, none⟩)) (fun K9 hK9 => by go_simp; exact hK9) ?_
            (try simp only [Act.put, List.setIfInBounds_toArray, List.set_cons_zero, List.set_cons_succ])
            refine wpList_val (by rw [hO]; kernel_rfl) (.string TX) (fun K9 hK9 => by go_simp; exact hK9) ?_
            (try simp only [Act.put, List.setIfInBounds_toArray, List.set_cons_zero, List.set_cons_succ])
            refine wpList_val (by rw [hO]; kernel_rfl) (.int .i64 (m : Int)) (fun K9 hK9 => by go_simp; exact hK9) ?_
            (try simp only [Act.put, List.setIfInBounds_toArray, List.set_cons_zero, List.set_cons_succ])
            refine wpList_val (by rw [hO]; kernel_rfl) (.int .i64 (m : Int)) (fun K9 hK9 => by go_simp; exact hK9) ?_
            (try simp only [Act.put, List.setIfInBounds_toArray, List.set_cons_zero, List.set_cons_succ])
            refine wpList_val (by rw [hO]; kernel_rfl) (.bool true) (fun K9 hK9 => by go_simp; exact hK9) ?_
            (try simp only [Act.put, List.setIfInBounds_toArray, List.set_cons_zero, List.set_cons_succ])
            refine wpList_val (by rw [hO]; kernel_rfl) (.bool true) (fun K9 hK9 => by go_simp; exact hK9) ?_
            (try simp only [Act.put, List.setIfInBounds_toArray, List.set_cons_zero, List.set_cons_succ])
            refine wpList_val (by rw [hO]; kernel_rfl) (.bool true) (fun K9 hK9 => by go_simp; exact hK9) ?_
            (try simp only [Act.put, List.setIfInBounds_toArray, List.set_cons_zero, List.set_cons_succ])
            refine wpList_val (by rw [hO]; kernel_rfl) (.pointer (some ⟨w2.heap.size, 32, none⟩)) (fun K9 hK9 => by go_simp; exact hK9) ?_
            (try simp only [Act.put, List.setIfInBounds_toArray, List.set_cons_zero, List.set_cons_succ])
            refine wpList_val (by rw [hO]; kernel_rfl) (.slice po2 j pc2) (fun K9 hK9 => by go_simp; exact hK9) ?_
            (try simp only [Act.put, List.setIfInBounds_toArray, List.set_cons_zero, List.set_cons_succ])
            refine wpList_val (by rw [hO]; kernel_rfl) (.int .i64 (j : Int)) (fun K9 hK9 => by go_simp; exact hK9) ?_
            (try simp only [Act.put, List.setIfInBounds_toArray, List.set_cons_zero, List.set_cons_succ])
            refine wpList_val (by rw [hO]; kernel_rfl) (.int .i64 (j : Int)) (fun K9 hK9 => by go_simp; exact hK9) ?_
            (try simp only [Act.put, List.setIfInBounds_toArray, List.set_cons_zero, List.set_cons_succ])
            refine wpList_val (by rw [hO]; kernel_rfl) (.bool true) (fun K9 hK9 => by go_simp; exact hK9) ?_
            (try simp only [Act.put, List.setIfInBounds_toArray, List.set_cons_zero, List.set_cons_succ])
            refine wpList_val (by rw [hO]; kernel_rfl) (.bool true) (fun K9 hK9 => by go_simp; exact hK9) ?_
            (try simp only [Act.put, List.setIfInBounds_toArray, List.set_cons_zero, List.set_cons_succ])
            refine wpList_val (by rw [hO]; kernel_rfl) (.bool true) (fun K9 hK9 => by go_simp; exact hK9) ?_
            (try simp only [Act.put, List.setIfInBounds_toArray, List.set_cons_zero, List.set_cons_succ])
            refine wpList_val (by rw [hO]; kernel_rfl) (.int .i64 (0 : Int)) (fun K9 hK9 => by go_simp; exact hK9) ?_
            (try simp only [Act.put, List.setIfInBounds_toArray, List.set_cons_zero, List.set_cons_succ])
            refine wpList_val (by rw [hO]; kernel_rfl) (.bool true) (fun K9 hK9 => by go_simp; exact hK9) ?_
            (try simp only [Act.put, List.setIfInBounds_toArray, List.set_cons_zero, List.set_cons_succ])
            refine wpList_val (by rw [hO]; kernel_rfl) (.int .i64 (m : Int)) (fun K9 hK9 => by go_simp; exact hK9) ?_
            (try simp only [Act.put, List.setIfInBounds_toArray, List.set_cons_zero, List.set_cons_succ])
            refine wpList_val (by rw [hO]; kernel_rfl) (.int .i64 (m3 : Int)) (fun K9 hK9 => by go_simp; exact hK9) ?_
            (try simp only [Act.put, List.setIfInBounds_toArray, List.set_cons_zero, List.set_cons_succ])
            refine wpList_val (by rw [hO]; kernel_rfl) (.bool true) (fun K9 hK9 => by go_simp; exact hK9) ?_
            (try simp only [Act.put, List.setIfInBounds_toArray, List.set_cons_zero, List.set_cons_succ])
            refine wpList_val (by rw [hO]; kernel_rfl) (.bool true) (fun K9 hK9 => by go_simp; exact hK9) ?_
            (try simp only [Act.put, List.setIfInBounds_toArray, List.set_cons_zero, List.set_cons_succ])
            refine wpList_val (by rw [hO]; kernel_rfl) (.bool true) (fun K9 hK9 => by go_simp; exact hK9) ?_
            (try simp only [Act.put, List.setIfInBounds_toArray, List.set_cons_zero, List.set_cons_succ])
            refine wpList_val (by rw [hO]; kernel_rfl) (.bool true) (fun K9 hK9 => by go_simp; exact hK9) ?_
            (try simp only [Act.put, List.setIfInBounds_toArray, List.set_cons_zero, List.set_cons_succ])
            refine wpList_val (by rw [hO]; kernel_rfl) (.int .i64 (0 : Int)) (fun K9 hK9 => by go_simp; exact hK9) ?_
            (try simp only [Act.put, List.setIfInBounds_toArray, List.set_cons_zero, List.set_cons_succ])
            refine wpList_val (by rw [hO]; kernel_rfl) (.bool false) (fun K9 hK9 => by go_simp; exact hK9) ?_
            (try simp only [Act.put, List.setIfInBounds_toArray, List.set_cons_zero, List.set_cons_succ])
            refine wpList_val (by rw [hO]; kernel_rfl) (.bool false) (fun K9 hK9 => by go_simp; exact hK9) ?_
            (try simp only [Act.put, List.setIfInBounds_toArray, List.set_cons_zero, List.set_cons_succ])
            refine wpList_val (by rw [hO]; kernel_rfl) (.pointer (some ⟨w3.heap.size, 1, none⟩)) (fun K9 hK9 => by go_simp; exact hK9) ?_
            (try simp only [Act.put, List.setIfInBounds_toArray, List.set_cons_zero, List.set_cons_succ])
            refine wpList_val (by rw [hO]; kernel_rfl) (.slice a3 m3 c3) (fun K9 hK9 => by go_simp; exact hK9) ?_
            (try simp only [Act.put, List.setIfInBounds_toArray, List.set_cons_zero, List.set_cons_succ])
            refine wpList_val (by rw [hO]; kernel_rfl) (.int .i64 (m3 : Int)) (fun K9 hK9 => by go_simp; exact hK9) ?_
            (try simp only [Act.put, List.setIfInBounds_toArray, List.set_cons_zero, List.set_cons_succ])
            refine wpList_val (by rw [hO]; kernel_rfl) (.int .i64 (m : Int)) (fun K9 hK9 => by go_simp; exact hK9) ?_
            (try simp only [Act.put, List.setIfInBounds_toArray, List.set_cons_zero, List.set_cons_succ])
            refine wpList_val (by rw [hO]; kernel_rfl) (.int .i64 (m3 : Int)) (fun K9 hK9 => by go_simp; exact hK9) ?_
            (try simp only [Act.put, List.setIfInBounds_toArray, List.set_cons_zero, List.set_cons_succ])
            refine wpList_val (by rw [hO]; kernel_rfl) (.bool true) (fun K9 hK9 => by go_simp; exact hK9) ?_
            (try simp only [Act.put, List.setIfInBounds_toArray, List.set_cons_zero, List.set_cons_succ])
            refine wpList_val (by rw [hO]; kernel_rfl) (.bool true) (fun K9 hK9 => by go_simp; exact hK9) ?_
            (try simp only [Act.put, List.setIfInBounds_toArray, List.set_cons_zero, List.set_cons_succ])
            refine wpList_val (by rw [hO]; kernel_rfl) (.bool true) (fun K9 hK9 => by go_simp; exact hK9) ?_
            (try simp only [Act.put, List.setIfInBounds_toArray, List.set_cons_zero, List.set_cons_succ])
            refine wpList_val (by rw [hO]; kernel_rfl) (.bool true) (fun K9 hK9 => by go_simp; exact hK9) ?_
            (try simp only [Act.put, List.setIfInBounds_toArray, List.set_cons_zero, List.set_cons_succ])
            refine wpList_want (by rw [hO]; kernel_rfl) fun K9 hK9 => ?_
            go_simp
            go_at_call 16
            refine (oone_any W3).mono ?_
            rintro e w4 ⟨rfl, g4⟩
            refine hK9 _ _ ?_
            clear hK9 K9
            (try simp only [Act.put, List.setIfInBounds_toArray, List.set_cons_zero, List.set_cons_succ])
            refine wpList_val (by rw [hO]; kernel_rfl) (.bool true) (fun K9 hK9 => by go_simp; exact hK9) ?_
            (try simp only [Act.put, List.setIfInBounds_toArray, List.set_cons_zero, List.set_cons_succ])
            refine wpList_val (by rw [hO]; kernel_rfl) (.bool true) (fun K9 hK9 => by go_simp; exact hK9) ?_
            (try simp only [Act.put, List.setIfInBounds_toArray, List.set_cons_zero, List.set_cons_succ])
            go_wp2
            go_ret
            exact ⟨rfl, tn G3 g4⟩
  have FIN := hide fin
  clear fin hK
  refine wp_region_noPanic ?_
  refine wp_region_held_drew (S := fun V => w.grownBy V none) (by kernel_rfl) h0 (fun _ => ?_)
  obtain ⟨WD, hWD⟩ : ∃ V, V = w.drew := ⟨_, rfl⟩
  rw [← hWD]
  rw [← hWD] at h0
  clear hWD
  refine wpAnyH_take (i := 0) (oi := { dst := some 27, op := Op.move (Operand.tmp 0), type := _, pos := _, after := _, guard := _ }) (v := .int .i64 (n : Int)) rfl (by kernel_rfl) (by kernel_rfl) (by kernel_rfl) (fun _ _ _ h => h) (Or.inl ⟨by rfl, fun V (hV : w.grownBy V none) => by go_simp⟩) h0 ?_
  (try simp only [Act.put, List.setIfInBounds_toArray, List.set_cons_zero, List.set_cons_succ])
  refine wpAnyH_take (i := 3) (oi := { dst := some 30, op := Op.move (Operand.tmp 1), type := _, pos := _, after := _, guard := _ }) (v := .int .i64 (m : Int)) rfl (by kernel_rfl) (by kernel_rfl) (by kernel_rfl) (fun _ _ _ h => h) (Or.inl ⟨by rfl, fun V (hV : w.grownBy V none) => by go_simp⟩) h0 ?_
  (try simp only [Act.put, List.setIfInBounds_toArray, List.set_cons_zero, List.set_cons_succ])
  refine wpAnyH_ready (rs := [1, 4, 7]) (by kernel_rfl) (by simp) ?_
  refine AllReadyH.cons (o := { dst := some 28, op := Op.makeSlice 33 (Operand.tmp 27) (Operand.tmp 27), type := _, pos := _, after := _, guard := _ }) rfl (fun K9 hK9 => ?_) (AllReadyH.cons (o := { dst := some 31, op := Op.makeSlice 33 (Operand.tmp 30) (Operand.tmp 30), type := _, pos := _, after := _, guard := _ }) rfl (fun K9 hK9 => ?_) (AllReadyH.cons (o := { dst := some 7, op := Op.alloc 28, type := _, pos := _, after := _, guard := _ }) rfl (fun K9 hK9 => ?_) AllReadyH.nil))
  · as_aux_lemma =>
      have z9 := unhide HMA WD
      obtain ⟨wm1, hw1, hb1, gm1⟩ : ∃ W, W = WD.alloc (.cells VA 5) ∧ Blk W WD.heap.size 5 (ZA.map bv) ∧ WD.grownBy W none := by rw [unhide HVA]; exact box_new _ _ _
      go_simp
      rw [← hw1]
      clear z9 hw1
      have hh2 := tn h0 gm1
      refine hK9.out _ _ hh2 (fun _ => ?_)
      clear hK9 K9
      (try simp only [Act.put, List.setIfInBounds_toArray, List.set_cons_zero, List.set_cons_succ])
      refine wpAnyH_ready (rs := [2, 4, 7]) (by kernel_rfl) (by simp) ?_
      refine AllReadyH.cons (o := { dst := some 29, op := Op.convert 33 9 (Operand.tmp 28), type := _, pos := _, after := _, guard := _ }) rfl (fun K9 hK9 => ?_) (AllReadyH.cons (o := { dst := some 31, op := Op.makeSlice 33 (Operand.tmp 30) (Operand.tmp 30), type := _, pos := _, after := _, guard := _ }) rfl (fun K9 hK9 => ?_) (AllReadyH.cons (o := { dst := some 7, op := Op.alloc 28, type := _, pos := _, after := _, guard := _ }) rfl (fun K9 hK9 => ?_) AllReadyH.nil))
      · have z9 := conv_str (range_bts (blk_all (hb1.kept (gb_refl wm1 none) (by simp))) (by rw [unhide HNL]; unfold maxLen; omega))
        rw [unhide HNL, ← unhide HTA] at z9
        go_simp
        clear z9
        refine hK9.out _ _ hh2 (fun _ => ?_)
        clear hK9 K9
        (try simp only [Act.put, List.setIfInBounds_toArray, List.set_cons_zero, List.set_cons_succ])
        refine wpAnyH_ready (rs := [4, 7]) (by kernel_rfl) (by simp) ?_
        refine AllReadyH.cons (o := { dst := some 31, op := Op.makeSlice 33 (Operand.tmp 30) (Operand.tmp 30), type := _, pos := _, after := _, guard := _ }) rfl (fun K9 hK9 => ?_) (AllReadyH.cons (o := { dst := some 7, op := Op.alloc 28, type := _, pos := _, after := _, guard := _ }) rfl (fun K9 hK9 => ?_) AllReadyH.nil)
        · have z9 := unhide HMX wm1
          obtain ⟨wm3, hw3, hb3, gm3⟩ : ∃ W, W = wm1.alloc (.cells VX 5) ∧ Blk W wm1.heap.size 5 (ZX.map bv) ∧ wm1.grownBy W none := by rw [unhide HVX]; exact box_new _ _ _
          go_simp
          rw [← hw3]
          clear z9 hw3
          have gg4wm1 := tn ((gb_refl wm1 none)) gm3
          have hh4 := tn hh2 gm3
          refine hK9.out _ _ hh4 (fun _ => ?_)
          clear hK9 K9
          (try simp only [Act.put, List.setIfInBounds_toArray, List.set_cons_zero, List.set_cons_succ])
          refine wpAnyH_ready (rs := [5, 7]) (by kernel_rfl) (by simp) ?_
          refine AllReadyH.cons (o := { dst := some 32, op := Op.convert 33 9 (Operand.tmp 31), type := _, pos := _, after := _, guard := _ }) rfl (fun K9 hK9 => ?_) (AllReadyH.cons (o := { dst := some 7, op := Op.alloc 28, type := _, pos := _, after := _, guard := _ }) rfl (fun K9 hK9 => ?_) AllReadyH.nil)
          · have z9 := conv_str (range_bts (blk_all (hb3.kept (gb_refl wm3 none) (by simp))) (by rw [unhide HML]; unfold maxLen; omega))
            rw [unhide HML, ← unhide HTX] at z9
            go_simp
            clear z9
            refine hK9.out _ _ hh4 (fun _ => ?_)
            clear hK9 K9
            (try simp only [Act.put, List.setIfInBounds_toArray, List.set_cons_zero, List.set_cons_succ])
            refine wpAnyH_take (i := 6) (oi := { dst := some 33, op := Op.build 28 #[(2, Operand.const (Value.int IntKind.u64 1)), (3, (Operand.tmp 29)), (4, (Operand.tmp 32))], type := _, pos := _, after := _, guard := _ }) (v := .agg C0.toArray) rfl (by kernel_rfl) (by kernel_rfl) (by kernel_rfl) (fun _ _ _ h => h) (yieldsIf_built (by rfl) _ _ rfl _ (Eq.trans (b := Try.prog.built 28 [(2, .int .u64 1), (3, .string TA), (4, .string TX)]) (by kernel_rfl) (unhide HBL))) hh4 ?_
            (try simp only [Act.put, List.setIfInBounds_toArray, List.set_cons_zero, List.set_cons_succ])
            refine wpAnyH_ready (rs := [7]) (by kernel_rfl) (by simp) ?_
            refine AllReadyH.cons (o := { dst := some 7, op := Op.alloc 28, type := _, pos := _, after := _, guard := _ }) rfl (fun K9 hK9 => ?_) AllReadyH.nil
            obtain ⟨wa5, hw5, hB5, ga5⟩ : ∃ W, W = wm3.alloc (.cells ZC 28) ∧ Blk W wm3.heap.size 28 ZC.toList ∧ wm3.grownBy W none := by simpa using box_new wm3 28 ZC.toList
            have z9 := zvC wm3
            go_simp
            rw [← hw5]
            clear z9 hw5
            have gg6wm1 := tn (gg4wm1) ga5
            have gg6wm3 := tn ((gb_refl wm3 none)) ga5
            have hh6 := tn hh4 ga5
            refine hK9.out _ _ hh6 (fun _ => ?_)
            clear hK9 K9
            (try simp only [Act.put, List.setIfInBounds_toArray, List.set_cons_zero, List.set_cons_succ])
            refine wpAnyH_ready (rs := [8]) (by kernel_rfl) (by simp) ?_
            refine AllReadyH.cons (o := { dst := none, op := Op.store 28 (Operand.tmp 7) (Operand.tmp 33), type := _, pos := _, after := _, guard := _ }) rfl (fun K9 hK9 => ?_) AllReadyH.nil
            have hX7 := hB5.kept (gb_refl wa5 none) (by simp)
            rw [if_pos (by rfl)]
            refine wp_store_row _ _ _ rfl wm3.heap.size C0.toArray rfl rfl _ _ hX7 (unhide HI) (by simpa using unhide HZ) (unhide HO) ?_
            obtain ⟨wf, hwf⟩ : ∃ V, V = wa5.setRow wm3.heap.size C0.toArray := ⟨_, rfl⟩
            have hf : w.grownBy wf none := by rw [hwf]; exact gb_row hh6 _ (Or.inl hh4.size)
            have hBf : Blk wf wm3.heap.size 28 C0 := by rw [hwf]; exact hX7.row C0
            rw [← hwf]
            refine hK9.out _ _ hf (fun _ => ?_)
            clear hK9 K9 hwf
            (try simp only [Act.put])
            refine wpAnyH_done (by kernel_rfl) ?_ _
            refine NoPanic.normal ?_
            exact unhide FIN wf WD.heap.size wm1.heap.size wm3.heap.size hf hBf hh4.size
          · obtain ⟨wa5, hw5, hB5, ga5⟩ : ∃ W, W = wm3.alloc (.cells ZC 28) ∧ Blk W wm3.heap.size 28 ZC.toList ∧ wm3.grownBy W none := by simpa using box_new wm3 28 ZC.toList
            have z9 := zvC wm3
            go_simp
            rw [← hw5]
            clear z9 hw5
            have gg6wm1 := tn (gg4wm1) ga5
            have gg6wm3 := tn ((gb_refl wm3 none)) ga5
            have hh6 := tn hh4 ga5
            refine hK9.out _ _ hh6 (fun _ => ?_)
            clear hK9 K9
            (try simp only [Act.put, List.setIfInBounds_toArray, List.set_cons_zero, List.set_cons_succ])
            refine wpAnyH_ready (rs := [5]) (by kernel_rfl) (by simp) ?_
            refine AllReadyH.cons (o := { dst := some 32, op := Op.convert 33 9 (Operand.tmp 31), type := _, pos := _, after := _, guard := _ }) rfl (fun K9 hK9 => ?_) AllReadyH.nil
            have z9 := conv_str (range_bts (blk_all (hb3.kept gg6wm3 (by simp))) (by rw [unhide HML]; unfold maxLen; omega))
            rw [unhide HML, ← unhide HTX] at z9
            go_simp
            clear z9
            refine hK9.out _ _ hh6 (fun _ => ?_)
            clear hK9 K9
            (try simp only [Act.put, List.setIfInBounds_toArray, List.set_cons_zero, List.set_cons_succ])
            refine wpAnyH_take (i := 6) (oi := { dst := some 33, op := Op.build 28 #[(2, Operand.const (Value.int IntKind.u64 1)), (3, (Operand.tmp 29)), (4, (Operand.tmp 32))], type := _, pos := _, after := _, guard := _ }) (v := .agg C0.toArray) rfl (by kernel_rfl) (by kernel_rfl) (by kernel_rfl) (fun _ _ _ h => h) (yieldsIf_built (by rfl) _ _ rfl _ (Eq.trans (b := Try.prog.built 28 [(2, .int .u64 1), (3, .string TA), (4, .string TX)]) (by kernel_rfl) (unhide HBL))) hh6 ?_
            (try simp only [Act.put, List.setIfInBounds_toArray, List.set_cons_zero, List.set_cons_succ])
            refine wpAnyH_ready (rs := [8]) (by kernel_rfl) (by simp) ?_
            refine AllReadyH.cons (o := { dst := none, op := Op.store 28 (Operand.tmp 7) (Operand.tmp 33), type := _, pos := _, after := _, guard := _ }) rfl (fun K9 hK9 => ?_) AllReadyH.nil
            have hX7 := hB5.kept (gb_refl wa5 none) (by simp)
            rw [if_pos (by rfl)]
            refine wp_store_row _ _ _ rfl wm3.heap.size C0.toArray rfl rfl _ _ hX7 (unhide HI) (by simpa using unhide HZ) (unhide HO) ?_
            obtain ⟨wf, hwf⟩ : ∃ V, V = wa5.setRow wm3.heap.size C0.toArray := ⟨_, rfl⟩
            have hf : w.grownBy wf none := by rw [hwf]; exact gb_row hh6 _ (Or.inl hh4.size)
            have hBf : Blk wf wm3.heap.size 28 C0 := by rw [hwf]; exact hX7.row C0
            rw [← hwf]
            refine hK9.out _ _ hf (fun _ => ?_)
            clear hK9 K9 hwf
            (try simp only [Act.put])
            refine wpAnyH_done (by kernel_rfl) ?_ _
            refine NoPanic.normal ?_
            exact unhide FIN wf WD.heap.size wm1.heap.size wm3.heap.size hf hBf hh4.size
        · obtain ⟨wa3, hw3, hB3, ga3⟩ : ∃ W, W = wm1.alloc (.cells ZC 28) ∧ Blk W wm1.heap.size 28 ZC.toList ∧ wm1.grownBy W none := by simpa using box_new wm1 28 ZC.toList
          have z9 := zvC wm1
          go_simp
          rw [← hw3]
          clear z9 hw3
          have gg4wm1 := tn ((gb_refl wm1 none)) ga3
          have hh4 := tn hh2 ga3
          refine hK9.out _ _ hh4 (fun _ => ?_)
          clear hK9 K9
          (try simp only [Act.put, List.setIfInBounds_toArray, List.set_cons_zero, List.set_cons_succ])
          refine wpAnyH_ready (rs := [4]) (by kernel_rfl) (by simp) ?_
          refine AllReadyH.cons (o := { dst := some 31, op := Op.makeSlice 33 (Operand.tmp 30) (Operand.tmp 30), type := _, pos := _, after := _, guard := _ }) rfl (fun K9 hK9 => ?_) AllReadyH.nil
          have z9 := unhide HMX wa3
          obtain ⟨wm5, hw5, hb5, gm5⟩ : ∃ W, W = wa3.alloc (.cells VX 5) ∧ Blk W wa3.heap.size 5 (ZX.map bv) ∧ wa3.grownBy W none := by rw [unhide HVX]; exact box_new _ _ _
          go_simp
          rw [← hw5]
          clear z9 hw5
          have gg6wm1 := tn (gg4wm1) gm5
          have gg6wa3 := tn ((gb_refl wa3 none)) gm5
          have hh6 := tn hh4 gm5
          refine hK9.out _ _ hh6 (fun _ => ?_)
          clear hK9 K9
          (try simp only [Act.put, List.setIfInBounds_toArray, List.set_cons_zero, List.set_cons_succ])
          refine wpAnyH_ready (rs := [5]) (by kernel_rfl) (by simp) ?_
          refine AllReadyH.cons (o := { dst := some 32, op := Op.convert 33 9 (Operand.tmp 31), type := _, pos := _, after := _, guard := _ }) rfl (fun K9 hK9 => ?_) AllReadyH.nil
          have z9 := conv_str (range_bts (blk_all (hb5.kept (gb_refl wm5 none) (by simp))) (by rw [unhide HML]; unfold maxLen; omega))
          rw [unhide HML, ← unhide HTX] at z9
          go_simp
          clear z9
          refine hK9.out _ _ hh6 (fun _ => ?_)
          clear hK9 K9
          (try simp only [Act.put, List.setIfInBounds_toArray, List.set_cons_zero, List.set_cons_succ])
          refine wpAnyH_take (i := 6) (oi := { dst := some 33, op := Op.build 28 #[(2, Operand.const (Value.int IntKind.u64 1)), (3, (Operand.tmp 29)), (4, (Operand.tmp 32))], type := _, pos := _, after := _, guard := _ }) (v := .agg C0.toArray) rfl (by kernel_rfl) (by kernel_rfl) (by kernel_rfl) (fun _ _ _ h => h) (yieldsIf_built (by rfl) _ _ rfl _ (Eq.trans (b := Try.prog.built 28 [(2, .int .u64 1), (3, .string TA), (4, .string TX)]) (by kernel_rfl) (unhide HBL))) hh6 ?_
          (try simp only [Act.put, List.setIfInBounds_toArray, List.set_cons_zero, List.set_cons_succ])
          refine wpAnyH_ready (rs := [8]) (by kernel_rfl) (by simp) ?_
          refine AllReadyH.cons (o := { dst := none, op := Op.store 28 (Operand.tmp 7) (Operand.tmp 33), type := _, pos := _, after := _, guard := _ }) rfl (fun K9 hK9 => ?_) AllReadyH.nil
          have hX7 := hB3.kept gg6wa3 (by simp)
          rw [if_pos (by rfl)]
          refine wp_store_row _ _ _ rfl wm1.heap.size C0.toArray rfl rfl _ _ hX7 (unhide HI) (by simpa using unhide HZ) (unhide HO) ?_
          obtain ⟨wf, hwf⟩ : ∃ V, V = wm5.setRow wm1.heap.size C0.toArray := ⟨_, rfl⟩
          have hf : w.grownBy wf none := by rw [hwf]; exact gb_row hh6 _ (Or.inl hh2.size)
          have hBf : Blk wf wm1.heap.size 28 C0 := by rw [hwf]; exact hX7.row C0
          rw [← hwf]
          refine hK9.out _ _ hf (fun _ => ?_)
          clear hK9 K9 hwf
          (try simp only [Act.put])
          refine wpAnyH_done (by kernel_rfl) ?_ _
          refine NoPanic.normal ?_
          exact unhide FIN wf WD.heap.size wa3.heap.size wm1.heap.size hf hBf hh2.size
      · have z9 := unhide HMX wm1
        obtain ⟨wm3, hw3, hb3, gm3⟩ : ∃ W, W = wm1.alloc (.cells VX 5) ∧ Blk W wm1.heap.size 5 (ZX.map bv) ∧ wm1.grownBy W none := by rw [unhide HVX]; exact box_new _ _ _
        go_simp
        rw [← hw3]
        clear z9 hw3
        have gg4wm1 := tn ((gb_refl wm1 none)) gm3
        have hh4 := tn hh2 gm3
        refine hK9.out _ _ hh4 (fun _ => ?_)
        clear hK9 K9
        (try simp only [Act.put, List.setIfInBounds_toArray, List.set_cons_zero, List.set_cons_succ])
        refine wpAnyH_ready (rs := [2, 5, 7]) (by kernel_rfl) (by simp) ?_
        refine AllReadyH.cons (o := { dst := some 29, op := Op.convert 33 9 (Operand.tmp 28), type := _, pos := _, after := _, guard := _ }) rfl (fun K9 hK9 => ?_) (AllReadyH.cons (o := { dst := some 32, op := Op.convert 33 9 (Operand.tmp 31), type := _, pos := _, after := _, guard := _ }) rfl (fun K9 hK9 => ?_) (AllReadyH.cons (o := { dst := some 7, op := Op.alloc 28, type := _, pos := _, after := _, guard := _ }) rfl (fun K9 hK9 => ?_) AllReadyH.nil))
        · have z9 := conv_str (range_bts (blk_all (hb1.kept gg4wm1 (by simp))) (by rw [unhide HNL]; unfold maxLen; omega))
          rw [unhide HNL, ← unhide HTA] at z9
          go_simp
          clear z9
          refine hK9.out _ _ hh4 (fun _ => ?_)
          clear hK9 K9
          (try simp only [Act.put, List.setIfInBounds_toArray, List.set_cons_zero, List.set_cons_succ])
          refine wpAnyH_ready (rs := [5, 7]) (by kernel_rfl) (by simp) ?_
          refine AllReadyH.cons (o := { dst := some 32, op := Op.convert 33 9 (Operand.tmp 31), type := _, pos := _, after := _, guard := _ }) rfl (fun K9 hK9 => ?_) (AllReadyH.cons (o := { dst := some 7, op := Op.alloc 28, type := _, pos := _, after := _, guard := _ }) rfl (fun K9 hK9 => ?_) AllReadyH.nil)
          · have z9 := conv_str (range_bts (blk_all (hb3.kept (gb_refl wm3 none) (by simp))) (by rw [unhide HML]; unfold maxLen; omega))
            rw [unhide HML, ← unhide HTX] at z9
            go_simp
            clear z9
            refine hK9.out _ _ hh4 (fun _ => ?_)
            clear hK9 K9
            (try simp only [Act.put, List.setIfInBounds_toArray, List.set_cons_zero, List.set_cons_succ])
            refine wpAnyH_take (i := 6) (oi := { dst := some 33, op := Op.build 28 #[(2, Operand.const (Value.int IntKind.u64 1)), (3, (Operand.tmp 29)), (4, (Operand.tmp 32))], type := _, pos := _, after := _, guard := _ }) (v := .agg C0.toArray) rfl (by kernel_rfl) (by kernel_rfl) (by kernel_rfl) (fun _ _ _ h => h) (yieldsIf_built (by rfl) _ _ rfl _ (Eq.trans (b := Try.prog.built 28 [(2, .int .u64 1), (3, .string TA), (4, .string TX)]) (by kernel_rfl) (unhide HBL))) hh4 ?_
            (try simp only [Act.put, List.setIfInBounds_toArray, List.set_cons_zero, List.set_cons_succ])
            refine wpAnyH_ready (rs := [7]) (by kernel_rfl) (by simp) ?_
            refine AllReadyH.cons (o := { dst := some 7, op := Op.alloc 28, type := _, pos := _, after := _, guard := _ }) rfl (fun K9 hK9 => ?_) AllReadyH.nil
            obtain ⟨wa5, hw5, hB5, ga5⟩ : ∃ W, W = wm3.alloc (.cells ZC 28) ∧ Blk W wm3.heap.size 28 ZC.toList ∧ wm3.grownBy W none := by simpa using box_new wm3 28 ZC.toList
            have z9 := zvC wm3
            go_simp
            rw [← hw5]
            clear z9 hw5
            have gg6wm1 := tn (gg4wm1) ga5
            have gg6wm3 := tn ((gb_refl wm3 none)) ga5
            have hh6 := tn hh4 ga5
            refine hK9.out _ _ hh6 (fun _ => ?_)
            clear hK9 K9
            (try simp only [Act.put, List.setIfInBounds_toArray, List.set_cons_zero, List.set_cons_succ])
            refine wpAnyH_ready (rs := [8]) (by kernel_rfl) (by simp) ?_
            refine AllReadyH.cons (o := { dst := none, op := Op.store 28 (Operand.tmp 7) (Operand.tmp 33), type := _, pos := _, after := _, guard := _ }) rfl (fun K9 hK9 => ?_) AllReadyH.nil
            have hX7 := hB5.kept (gb_refl wa5 none) (by simp)
            rw [if_pos (by rfl)]
            refine wp_store_row _ _ _ rfl wm3.heap.size C0.toArray rfl rfl _ _ hX7 (unhide HI) (by simpa using unhide HZ) (unhide HO) ?_
            obtain ⟨wf, hwf⟩ : ∃ V, V = wa5.setRow wm3.heap.size C0.toArray := ⟨_, rfl⟩
            have hf : w.grownBy wf none := by rw [hwf]; exact gb_row hh6 _ (Or.inl hh4.size)
            have hBf : Blk wf wm3.heap.size 28 C0 := by rw [hwf]; exact hX7.row C0
            rw [← hwf]
            refine hK9.out _ _ hf (fun _ => ?_)
            clear hK9 K9 hwf
            (try simp only [Act.put])
            refine wpAnyH_done (by kernel_rfl) ?_ _
            refine NoPanic.normal ?_
            exact unhide FIN wf WD.heap.size wm1.heap.size wm3.heap.size hf hBf hh4.size
          · obtain ⟨wa5, hw5, hB5, ga5⟩ : ∃ W, W = wm3.alloc (.cells ZC 28) ∧ Blk W wm3.heap.size 28 ZC.toList ∧ wm3.grownBy W none := by simpa using box_new wm3 28 ZC.toList
            have z9 := zvC wm3
            go_simp
            rw [← hw5]
            clear z9 hw5
            have gg6wm1 := tn (gg4wm1) ga5
            have gg6wm3 := tn ((gb_refl wm3 none)) ga5
            have hh6 := tn hh4 ga5
            refine hK9.out _ _ hh6 (fun _ => ?_)
            clear hK9 K9
            (try simp only [Act.put, List.setIfInBounds_toArray, List.set_cons_zero, List.set_cons_succ])
            refine wpAnyH_ready (rs := [5]) (by kernel_rfl) (by simp) ?_
            refine AllReadyH.cons (o := { dst := some 32, op := Op.convert 33 9 (Operand.tmp 31), type := _, pos := _, after := _, guard := _ }) rfl (fun K9 hK9 => ?_) AllReadyH.nil
            have z9 := conv_str (range_bts (blk_all (hb3.kept gg6wm3 (by simp))) (by rw [unhide HML]; unfold maxLen; omega))
            rw [unhide HML, ← unhide HTX] at z9
            go_simp
            clear z9
            refine hK9.out _ _ hh6 (fun _ => ?_)
            clear hK9 K9
            (try simp only [Act.put, List.setIfInBounds_toArray, List.set_cons_zero, List.set_cons_succ])
            refine wpAnyH_take (i := 6) (oi := { dst := some 33, op := Op.build 28 #[(2, Operand.const (Value.int IntKind.u64 1)), (3, (Operand.tmp 29)), (4, (Operand.tmp 32))], type := _, pos := _, after := _, guard := _ }) (v := .agg C0.toArray) rfl (by kernel_rfl) (by kernel_rfl) (by kernel_rfl) (fun _ _ _ h => h) (yieldsIf_built (by rfl) _ _ rfl _ (Eq.trans (b := Try.prog.built 28 [(2, .int .u64 1), (3, .string TA), (4, .string TX)]) (by kernel_rfl) (unhide HBL))) hh6 ?_
            (try simp only [Act.put, List.setIfInBounds_toArray, List.set_cons_zero, List.set_cons_succ])
            refine wpAnyH_ready (rs := [8]) (by kernel_rfl) (by simp) ?_
            refine AllReadyH.cons (o := { dst := none, op := Op.store 28 (Operand.tmp 7) (Operand.tmp 33), type := _, pos := _, after := _, guard := _ }) rfl (fun K9 hK9 => ?_) AllReadyH.nil
            have hX7 := hB5.kept (gb_refl wa5 none) (by simp)
            rw [if_pos (by rfl)]
            refine wp_store_row _ _ _ rfl wm3.heap.size C0.toArray rfl rfl _ _ hX7 (unhide HI) (by simpa using unhide HZ) (unhide HO) ?_
            obtain ⟨wf, hwf⟩ : ∃ V, V = wa5.setRow wm3.heap.size C0.toArray := ⟨_, rfl⟩
            have hf : w.grownBy wf none := by rw [hwf]; exact gb_row hh6 _ (Or.inl hh4.size)
            have hBf : Blk wf wm3.heap.size 28 C0 := by rw [hwf]; exact hX7.row C0
            rw [← hwf]
            refine hK9.out _ _ hf (fun _ => ?_)
            clear hK9 K9 hwf
            (try simp only [Act.put])
            refine wpAnyH_done (by kernel_rfl) ?_ _
            refine NoPanic.normal ?_
            exact unhide FIN wf WD.heap.size wm1.heap.size wm3.heap.size hf hBf hh4.size
        · have z9 := conv_str (range_bts (blk_all (hb3.kept (gb_refl wm3 none) (by simp))) (by rw [unhide HML]; unfold maxLen; omega))
          rw [unhide HML, ← unhide HTX] at z9
          go_simp
          clear z9
          refine hK9.out _ _ hh4 (fun _ => ?_)
          clear hK9 K9
          (try simp only [Act.put, List.setIfInBounds_toArray, List.set_cons_zero, List.set_cons_succ])
          refine wpAnyH_ready (rs := [2, 7]) (by kernel_rfl) (by simp) ?_
          refine AllReadyH.cons (o := { dst := some 29, op := Op.convert 33 9 (Operand.tmp 28), type := _, pos := _, after := _, guard := _ }) rfl (fun K9 hK9 => ?_) (AllReadyH.cons (o := { dst := some 7, op := Op.alloc 28, type := _, pos := _, after := _, guard := _ }) rfl (fun K9 hK9 => ?_) AllReadyH.nil)
          · have z9 := conv_str (range_bts (blk_all (hb1.kept gg4wm1 (by simp))) (by rw [unhide HNL]; unfold maxLen; omega))
            rw [unhide HNL, ← unhide HTA] at z9
            go_simp
            clear z9
            refine hK9.out _ _ hh4 (fun _ => ?_)
            clear hK9 K9
            (try simp only [Act.put, List.setIfInBounds_toArray, List.set_cons_zero, List.set_cons_succ])
            refine wpAnyH_take (i := 6) (oi := { dst := some 33, op := Op.build 28 #[(2, Operand.const (Value.int IntKind.u64 1)), (3, (Operand.tmp 29)), (4, (Operand.tmp 32))], type := _, pos := _, after := _, guard := _ }) (v := .agg C0.toArray) rfl (by kernel_rfl) (by kernel_rfl) (by kernel_rfl) (fun _ _ _ h => h) (yieldsIf_built (by rfl) _ _ rfl _ (Eq.trans (b := Try.prog.built 28 [(2, .int .u64 1), (3, .string TA), (4, .string TX)]) (by kernel_rfl) (unhide HBL))) hh4 ?_
            (try simp only [Act.put, List.setIfInBounds_toArray, List.set_cons_zero, List.set_cons_succ])
            refine wpAnyH_ready (rs := [7]) (by kernel_rfl) (by simp) ?_
            refine AllReadyH.cons (o := { dst := some 7, op := Op.alloc 28, type := _, pos := _, after := _, guard := _ }) rfl (fun K9 hK9 => ?_) AllReadyH.nil
            obtain ⟨wa5, hw5, hB5, ga5⟩ : ∃ W, W = wm3.alloc (.cells ZC 28) ∧ Blk W wm3.heap.size 28 ZC.toList ∧ wm3.grownBy W none := by simpa using box_new wm3 28 ZC.toList
            have z9 := zvC wm3
            go_simp
            rw [← hw5]
            clear z9 hw5
            have gg6wm1 := tn (gg4wm1) ga5
            have gg6wm3 := tn ((gb_refl wm3 none)) ga5
            have hh6 := tn hh4 ga5
            refine hK9.out _ _ hh6 (fun _ => ?_)
            clear hK9 K9
            (try simp only [Act.put, List.setIfInBounds_toArray, List.set_cons_zero, List.set_cons_succ])
            refine wpAnyH_ready (rs := [8]) (by kernel_rfl) (by simp) ?_
            refine AllReadyH.cons (o := { dst := none, op := Op.store 28 (Operand.tmp 7) (Operand.tmp 33), type := _, pos := _, after := _, guard := _ }) rfl (fun K9 hK9 => ?_) AllReadyH.nil
            have hX7 := hB5.kept (gb_refl wa5 none) (by simp)
            rw [if_pos (by rfl)]
            refine wp_store_row _ _ _ rfl wm3.heap.size C0.toArray rfl rfl _ _ hX7 (unhide HI) (by simpa using unhide HZ) (unhide HO) ?_
            obtain ⟨wf, hwf⟩ : ∃ V, V = wa5.setRow wm3.heap.size C0.toArray := ⟨_, rfl⟩
            have hf : w.grownBy wf none := by rw [hwf]; exact gb_row hh6 _ (Or.inl hh4.size)
            have hBf : Blk wf wm3.heap.size 28 C0 := by rw [hwf]; exact hX7.row C0
            rw [← hwf]
            refine hK9.out _ _ hf (fun _ => ?_)
            clear hK9 K9 hwf
            (try simp only [Act.put])
            refine wpAnyH_done (by kernel_rfl) ?_ _
            refine NoPanic.normal ?_
            exact unhide FIN wf WD.heap.size wm1.heap.size wm3.heap.size hf hBf hh4.size
          · obtain ⟨wa5, hw5, hB5, ga5⟩ : ∃ W, W = wm3.alloc (.cells ZC 28) ∧ Blk W wm3.heap.size 28 ZC.toList ∧ wm3.grownBy W none := by simpa using box_new wm3 28 ZC.toList
            have z9 := zvC wm3
            go_simp
            rw [← hw5]
            clear z9 hw5
            have gg6wm1 := tn (gg4wm1) ga5
            have gg6wm3 := tn ((gb_refl wm3 none)) ga5
            have hh6 := tn hh4 ga5
            refine hK9.out _ _ hh6 (fun _ => ?_)
            clear hK9 K9
            (try simp only [Act.put, List.setIfInBounds_toArray, List.set_cons_zero, List.set_cons_succ])
            refine wpAnyH_ready (rs := [2]) (by kernel_rfl) (by simp) ?_
            refine AllReadyH.cons (o := { dst := some 29, op := Op.convert 33 9 (Operand.tmp 28), type := _, pos := _, after := _, guard := _ }) rfl (fun K9 hK9 => ?_) AllReadyH.nil
            have z9 := conv_str (range_bts (blk_all (hb1.kept gg6wm1 (by simp))) (by rw [unhide HNL]; unfold maxLen; omega))
            rw [unhide HNL, ← unhide HTA] at z9
            go_simp
            clear z9
            refine hK9.out _ _ hh6 (fun _ => ?_)
            clear hK9 K9
            (try simp only [Act.put, List.setIfInBounds_toArray, List.set_cons_zero, List.set_cons_succ])
            refine wpAnyH_take (i := 6) (oi := { dst := some 33, op := Op.build 28 #[(2, Operand.const (Value.int IntKind.u64 1)), (3, (Operand.tmp 29)), (4, (Operand.tmp 32))], type := _, pos := _, after := _, guard := _ }) (v := .agg C0.toArray) rfl (by kernel_rfl) (by kernel_rfl) (by kernel_rfl) (fun _ _ _ h => h) (yieldsIf_built (by rfl) _ _ rfl _ (Eq.trans (b := Try.prog.built 28 [(2, .int .u64 1), (3, .string TA), (4, .string TX)]) (by kernel_rfl) (unhide HBL))) hh6 ?_
            (try simp only [Act.put, List.setIfInBounds_toArray, List.set_cons_zero, List.set_cons_succ])
            refine wpAnyH_ready (rs := [8]) (by kernel_rfl) (by simp) ?_
            refine AllReadyH.cons (o := { dst := none, op := Op.store 28 (Operand.tmp 7) (Operand.tmp 33), type := _, pos := _, after := _, guard := _ }) rfl (fun K9 hK9 => ?_) AllReadyH.nil
            have hX7 := hB5.kept (gb_refl wa5 none) (by simp)
            rw [if_pos (by rfl)]
            refine wp_store_row _ _ _ rfl wm3.heap.size C0.toArray rfl rfl _ _ hX7 (unhide HI) (by simpa using unhide HZ) (unhide HO) ?_
            obtain ⟨wf, hwf⟩ : ∃ V, V = wa5.setRow wm3.heap.size C0.toArray := ⟨_, rfl⟩
            have hf : w.grownBy wf none := by rw [hwf]; exact gb_row hh6 _ (Or.inl hh4.size)
            have hBf : Blk wf wm3.heap.size 28 C0 := by rw [hwf]; exact hX7.row C0
            rw [← hwf]
            refine hK9.out _ _ hf (fun _ => ?_)
            clear hK9 K9 hwf
            (try simp only [Act.put])
            refine wpAnyH_done (by kernel_rfl) ?_ _
            refine NoPanic.normal ?_
            exact unhide FIN wf WD.heap.size wm1.heap.size wm3.heap.size hf hBf hh4.size
        · obtain ⟨wa5, hw5, hB5, ga5⟩ : ∃ W, W = wm3.alloc (.cells ZC 28) ∧ Blk W wm3.heap.size 28 ZC.toList ∧ wm3.grownBy W none := by simpa using box_new wm3 28 ZC.toList
          have z9 := zvC wm3
          go_simp
          rw [← hw5]
          clear z9 hw5
          have gg6wm1 := tn (gg4wm1) ga5
          have gg6wm3 := tn ((gb_refl wm3 none)) ga5
          have hh6 := tn hh4 ga5
          refine hK9.out _ _ hh6 (fun _ => ?_)
          clear hK9 K9
          (try simp only [Act.put, List.setIfInBounds_toArray, List.set_cons_zero, List.set_cons_succ])
          refine wpAnyH_ready (rs := [2, 5]) (by kernel_rfl) (by simp) ?_
          refine AllReadyH.cons (o := { dst := some 29, op := Op.convert 33 9 (Operand.tmp 28), type := _, pos := _, after := _, guard := _ }) rfl (fun K9 hK9 => ?_) (AllReadyH.cons (o := { dst := some 32, op := Op.convert 33 9 (Operand.tmp 31), type := _, pos := _, after := _, guard := _ }) rfl (fun K9 hK9 => ?_) AllReadyH.nil)
          · have z9 := conv_str (range_bts (blk_all (hb1.kept gg6wm1 (by simp))) (by rw [unhide HNL]; unfold maxLen; omega))
            rw [unhide HNL, ← unhide HTA] at z9
            go_simp
            clear z9
            refine hK9.out _ _ hh6 (fun _ => ?_)
            clear hK9 K9
            (try simp only [Act.put, List.setIfInBounds_toArray, List.set_cons_zero, List.set_cons_succ])
            refine wpAnyH_ready (rs := [5]) (by kernel_rfl) (by simp) ?_
            refine AllReadyH.cons (o := { dst := some 32, op := Op.convert 33 9 (Operand.tmp 31), type := _, pos := _, after := _, guard := _ }) rfl (fun K9 hK9 => ?_) AllReadyH.nil
            have z9 := conv_str (range_bts (blk_all (hb3.kept gg6wm3 (by simp))) (by rw [unhide HML]; unfold maxLen; omega))
            rw [unhide HML, ← unhide HTX] at z9
            go_simp
            clear z9
            refine hK9.out _ _ hh6 (fun _ => ?_)
            clear hK9 K9
            (try simp only [Act.put, List.setIfInBounds_toArray, List.set_cons_zero, List.set_cons_succ])
            refine wpAnyH_take (i := 6) (oi := { dst := some 33, op := Op.build 28 #[(2, Operand.const (Value.int IntKind.u64 1)), (3, (Operand.tmp 29)), (4, (Operand.tmp 32))], type := _, pos := _, after := _, guard := _ }) (v := .agg C0.toArray) rfl (by kernel_rfl) (by kernel_rfl) (by kernel_rfl) (fun _ _ _ h => h) (yieldsIf_built (by rfl) _ _ rfl _ (Eq.trans (b := Try.prog.built 28 [(2, .int .u64 1), (3, .string TA), (4, .string TX)]) (by kernel_rfl) (unhide HBL))) hh6 ?_
            (try simp only [Act.put, List.setIfInBounds_toArray, List.set_cons_zero, List.set_cons_succ])
            refine wpAnyH_ready (rs := [8]) (by kernel_rfl) (by simp) ?_
            refine AllReadyH.cons (o := { dst := none, op := Op.store 28 (Operand.tmp 7) (Operand.tmp 33), type := _, pos := _, after := _, guard := _ }) rfl (fun K9 hK9 => ?_) AllReadyH.nil
            have hX7 := hB5.kept (gb_refl wa5 none) (by simp)
            rw [if_pos (by rfl)]
            refine wp_store_row _ _ _ rfl wm3.heap.size C0.toArray rfl rfl _ _ hX7 (unhide HI) (by simpa using unhide HZ) (unhide HO) ?_
            obtain ⟨wf, hwf⟩ : ∃ V, V = wa5.setRow wm3.heap.size C0.toArray := ⟨_, rfl⟩
            have hf : w.grownBy wf none := by rw [hwf]; exact gb_row hh6 _ (Or.inl hh4.size)
            have hBf : Blk wf wm3.heap.size 28 C0 := by rw [hwf]; exact hX7.row C0
            rw [← hwf]
            refine hK9.out _ _ hf (fun _ => ?_)
            clear hK9 K9 hwf
            (try simp only [Act.put])
            refine wpAnyH_done (by kernel_rfl) ?_ _
            refine NoPanic.normal ?_
            exact unhide FIN wf WD.heap.size wm1.heap.size wm3.heap.size hf hBf hh4.size
          · have z9 := conv_str (range_bts (blk_all (hb3.kept gg6wm3 (by simp))) (by rw [unhide HML]; unfold maxLen; omega))
            rw [unhide HML, ← unhide HTX] at z9
            go_simp
            clear z9
            refine hK9.out _ _ hh6 (fun _ => ?_)
            clear hK9 K9
            (try simp only [Act.put, List.setIfInBounds_toArray, List.set_cons_zero, List.set_cons_succ])
            refine wpAnyH_ready (rs := [2]) (by kernel_rfl) (by simp) ?_
            refine AllReadyH.cons (o := { dst := some 29, op := Op.convert 33 9 (Operand.tmp 28), type := _, pos := _, after := _, guard := _ }) rfl (fun K9 hK9 => ?_) AllReadyH.nil
            have z9 := conv_str (range_bts (blk_all (hb1.kept gg6wm1 (by simp))) (by rw [unhide HNL]; unfold maxLen; omega))
            rw [unhide HNL, ← unhide HTA] at z9
            go_simp
            clear z9
            refine hK9.out _ _ hh6 (fun _ => ?_)
            clear hK9 K9
            (try simp only [Act.put, List.setIfInBounds_toArray, List.set_cons_zero, List.set_cons_succ])
            refine wpAnyH_take (i := 6) (oi := { dst := some 33, op := Op.build 28 #[(2, Operand.const (Value.int IntKind.u64 1)), (3, (Operand.tmp 29)), (4, (Operand.tmp 32))], type := _, pos := _, after := _, guard := _ }) (v := .agg C0.toArray) rfl (by kernel_rfl) (by kernel_rfl) (by kernel_rfl) (fun _ _ _ h => h) (yieldsIf_built (by rfl) _ _ rfl _ (Eq.trans (b := Try.prog.built 28 [(2, .int .u64 1), (3, .string TA), (4, .string TX)]) (by kernel_rfl) (unhide HBL))) hh6 ?_
            (try simp only [Act.put, List.setIfInBounds_toArray, List.set_cons_zero, List.set_cons_succ])
            refine wpAnyH_ready (rs := [8]) (by kernel_rfl) (by simp) ?_
            refine AllReadyH.cons (o := { dst := none, op := Op.store 28 (Operand.tmp 7) (Operand.tmp 33), type := _, pos := _, after := _, guard := _ }) rfl (fun K9 hK9 => ?_) AllReadyH.nil
            have hX7 := hB5.kept (gb_refl wa5 none) (by simp)
            rw [if_pos (by rfl)]
            refine wp_store_row _ _ _ rfl wm3.heap.size C0.toArray rfl rfl _ _ hX7 (unhide HI) (by simpa using unhide HZ) (unhide HO) ?_
            obtain ⟨wf, hwf⟩ : ∃ V, V = wa5.setRow wm3.heap.size C0.toArray := ⟨_, rfl⟩
            have hf : w.grownBy wf none := by rw [hwf]; exact gb_row hh6 _ (Or.inl hh4.size)
            have hBf : Blk wf wm3.heap.size 28 C0 := by rw [hwf]; exact hX7.row C0
            rw [← hwf]
            refine hK9.out _ _ hf (fun _ => ?_)
            clear hK9 K9 hwf
            (try simp only [Act.put])
            refine wpAnyH_done (by kernel_rfl) ?_ _
            refine NoPanic.normal ?_
            exact unhide FIN wf WD.heap.size wm1.heap.size wm3.heap.size hf hBf hh4.size
      · obtain ⟨wa3, hw3, hB3, ga3⟩ : ∃ W, W = wm1.alloc (.cells ZC 28) ∧ Blk W wm1.heap.size 28 ZC.toList ∧ wm1.grownBy W none := by simpa using box_new wm1 28 ZC.toList
        have z9 := zvC wm1
        go_simp
        rw [← hw3]
        clear z9 hw3
        have gg4wm1 := tn ((gb_refl wm1 none)) ga3
        have hh4 := tn hh2 ga3
        refine hK9.out _ _ hh4 (fun _ => ?_)
        clear hK9 K9
        (try simp only [Act.put, List.setIfInBounds_toArray, List.set_cons_zero, List.set_cons_succ])
        refine wpAnyH_ready (rs := [2, 4]) (by kernel_rfl) (by simp) ?_
        refine AllReadyH.cons (o := { dst := some 29, op := Op.convert 33 9 (Operand.tmp 28), type := _, pos := _, after := _, guard := _ }) rfl (fun K9 hK9 => ?_) (AllReadyH.cons (o := { dst := some 31, op := Op.makeSlice 33 (Operand.tmp 30) (Operand.tmp 30), type := _, pos := _, after := _, guard := _ }) rfl (fun K9 hK9 => ?_) AllReadyH.nil)
        · have z9 := conv_str (range_bts (blk_all (hb1.kept gg4wm1 (by simp))) (by rw [unhide HNL]; unfold maxLen; omega))
          rw [unhide HNL, ← unhide HTA] at z9
          go_simp
          clear z9
          refine hK9.out _ _ hh4 (fun _ => ?_)
          clear hK9 K9
          (try simp only [Act.put, List.setIfInBounds_toArray, List.set_cons_zero, List.set_cons_succ])
          refine wpAnyH_ready (rs := [4]) (by kernel_rfl) (by simp) ?_
          refine AllReadyH.cons (o := { dst := some 31, op := Op.makeSlice 33 (Operand.tmp 30) (Operand.tmp 30), type := _, pos := _, after := _, guard := _ }) rfl (fun K9 hK9 => ?_) AllReadyH.nil
          have z9 := unhide HMX wa3
          obtain ⟨wm5, hw5, hb5, gm5⟩ : ∃ W, W = wa3.alloc (.cells VX 5) ∧ Blk W wa3.heap.size 5 (ZX.map bv) ∧ wa3.grownBy W none := by rw [unhide HVX]; exact box_new _ _ _
          go_simp
          rw [← hw5]
          clear z9 hw5
          have gg6wm1 := tn (gg4wm1) gm5
          have gg6wa3 := tn ((gb_refl wa3 none)) gm5
          have hh6 := tn hh4 gm5
          refine hK9.out _ _ hh6 (fun _ => ?_)
          clear hK9 K9
          (try simp only [Act.put, List.setIfInBounds_toArray, List.set_cons_zero, List.set_cons_succ])
          refine wpAnyH_ready (rs := [5]) (by kernel_rfl) (by simp) ?_
          refine AllReadyH.cons (o := { dst := some 32, op := Op.convert 33 9 (Operand.tmp 31), type := _, pos := _, after := _, guard := _ }) rfl (fun K9 hK9 => ?_) AllReadyH.nil
          have z9 := conv_str (range_bts (blk_all (hb5.kept (gb_refl wm5 none) (by simp))) (by rw [unhide HML]; unfold maxLen; omega))
          rw [unhide HML, ← unhide HTX] at z9
          go_simp
          clear z9
          refine hK9.out _ _ hh6 (fun _ => ?_)
          clear hK9 K9
          (try simp only [Act.put, List.setIfInBounds_toArray, List.set_cons_zero, List.set_cons_succ])
          refine wpAnyH_take (i := 6) (oi := { dst := some 33, op := Op.build 28 #[(2, Operand.const (Value.int IntKind.u64 1)), (3, (Operand.tmp 29)), (4, (Operand.tmp 32))], type := _, pos := _, after := _, guard := _ }) (v := .agg C0.toArray) rfl (by kernel_rfl) (by kernel_rfl) (by kernel_rfl) (fun _ _ _ h => h) (yieldsIf_built (by rfl) _ _ rfl _ (Eq.trans (b := Try.prog.built 28 [(2, .int .u64 1), (3, .string TA), (4, .string TX)]) (by kernel_rfl) (unhide HBL))) hh6 ?_
          (try simp only [Act.put, List.setIfInBounds_toArray, List.set_cons_zero, List.set_cons_succ])
          refine wpAnyH_ready (rs := [8]) (by kernel_rfl) (by simp) ?_
          refine AllReadyH.cons (o := { dst := none, op := Op.store 28 (Operand.tmp 7) (Operand.tmp 33), type := _, pos := _, after := _, guard := _ }) rfl (fun K9 hK9 => ?_) AllReadyH.nil
          have hX7 := hB3.kept gg6wa3 (by simp)
          rw [if_pos (by rfl)]
          refine wp_store_row _ _ _ rfl wm1.heap.size C0.toArray rfl rfl _ _ hX7 (unhide HI) (by simpa using unhide HZ) (unhide HO) ?_
          obtain ⟨wf, hwf⟩ : ∃ V, V = wm5.setRow wm1.heap.size C0.toArray := ⟨_, rfl⟩
          have hf : w.grownBy wf none := by rw [hwf]; exact gb_row hh6 _ (Or.inl hh2.size)
          have hBf : Blk wf wm1.heap.size 28 C0 := by rw [hwf]; exact hX7.row C0
          rw [← hwf]
          refine hK9.out _ _ hf (fun _ => ?_)
          clear hK9 K9 hwf
          (try simp only [Act.put])
          refine wpAnyH_done (by kernel_rfl) ?_ _
          refine NoPanic.normal ?_
          exact unhide FIN wf WD.heap.size wa3.heap.size wm1.heap.size hf hBf hh2.size
        · have z9 := unhide HMX wa3
          obtain ⟨wm5, hw5, hb5, gm5⟩ : ∃ W, W = wa3.alloc (.cells VX 5) ∧ Blk W wa3.heap.size 5 (ZX.map bv) ∧ wa3.grownBy W none := by rw [unhide HVX]; exact box_new _ _ _
          go_simp
          rw [← hw5]
          clear z9 hw5
          have gg6wm1 := tn (gg4wm1) gm5
          have gg6wa3 := tn ((gb_refl wa3 none)) gm5
          have hh6 := tn hh4 gm5
          refine hK9.out _ _ hh6 (fun _ => ?_)
          clear hK9 K9
          (try simp only [Act.put, List.setIfInBounds_toArray, List.set_cons_zero, List.set_cons_succ])
          refine wpAnyH_ready (rs := [2, 5]) (by kernel_rfl) (by simp) ?_
          refine AllReadyH.cons (o := { dst := some 29, op := Op.convert 33 9 (Operand.tmp 28), type := _, pos := _, after := _, guard := _ }) rfl (fun K9 hK9 => ?_) (AllReadyH.cons (o := { dst := some 32, op := Op.convert 33 9 (Operand.tmp 31), type := _, pos := _, after := _, guard := _ }) rfl (fun K9 hK9 => ?_) AllReadyH.nil)
          · have z9 := conv_str (range_bts (blk_all (hb1.kept gg6wm1 (by simp))) (by rw [unhide HNL]; unfold maxLen; omega))
            rw [unhide HNL, ← unhide HTA] at z9
            go_simp
            clear z9
            refine hK9.out _ _ hh6 (fun _ => ?_)
            clear hK9 K9
            (try simp only [Act.put, List.setIfInBounds_toArray, List.set_cons_zero, List.set_cons_succ])
            refine wpAnyH_ready (rs := [5]) (by kernel_rfl) (by simp) ?_
            refine AllReadyH.cons (o := { dst := some 32, op := Op.convert 33 9 (Operand.tmp 31), type := _, pos := _, after := _, guard := _ }) rfl (fun K9 hK9 => ?_) AllReadyH.nil
            have z9 := conv_str (range_bts (blk_all (hb5.kept (gb_refl wm5 none) (by simp))) (by rw [unhide HML]; unfold maxLen; omega))
            rw [unhide HML, ← unhide HTX] at z9
            go_simp
            clear z9
            refine hK9.out _ _ hh6 (fun _ => ?_)
            clear hK9 K9
            (try simp only [Act.put, List.setIfInBounds_toArray, List.set_cons_zero, List.set_cons_succ])
            refine wpAnyH_take (i := 6) (oi := { dst := some 33, op := Op.build 28 #[(2, Operand.const (Value.int IntKind.u64 1)), (3, (Operand.tmp 29)), (4, (Operand.tmp 32))], type := _, pos := _, after := _, guard := _ }) (v := .agg C0.toArray) rfl (by kernel_rfl) (by kernel_rfl) (by kernel_rfl) (fun _ _ _ h => h) (yieldsIf_built (by rfl) _ _ rfl _ (Eq.trans (b := Try.prog.built 28 [(2, .int .u64 1), (3, .string TA), (4, .string TX)]) (by kernel_rfl) (unhide HBL))) hh6 ?_
            (try simp only [Act.put, List.setIfInBounds_toArray, List.set_cons_zero, List.set_cons_succ])
            refine wpAnyH_ready (rs := [8]) (by kernel_rfl) (by simp) ?_
            refine AllReadyH.cons (o := { dst := none, op := Op.store 28 (Operand.tmp 7) (Operand.tmp 33), type := _, pos := _, after := _, guard := _ }) rfl (fun K9 hK9 => ?_) AllReadyH.nil
            have hX7 := hB3.kept gg6wa3 (by simp)
            rw [if_pos (by rfl)]
            refine wp_store_row _ _ _ rfl wm1.heap.size C0.toArray rfl rfl _ _ hX7 (unhide HI) (by simpa using unhide HZ) (unhide HO) ?_
            obtain ⟨wf, hwf⟩ : ∃ V, V = wm5.setRow wm1.heap.size C0.toArray := ⟨_, rfl⟩
            have hf : w.grownBy wf none := by rw [hwf]; exact gb_row hh6 _ (Or.inl hh2.size)
            have hBf : Blk wf wm1.heap.size 28 C0 := by rw [hwf]; exact hX7.row C0
            rw [← hwf]
            refine hK9.out _ _ hf (fun _ => ?_)
            clear hK9 K9 hwf
            (try simp only [Act.put])
            refine wpAnyH_done (by kernel_rfl) ?_ _
            refine NoPanic.normal ?_
            exact unhide FIN wf WD.heap.size wa3.heap.size wm1.heap.size hf hBf hh2.size
          · have z9 := conv_str (range_bts (blk_all (hb5.kept (gb_refl wm5 none) (by simp))) (by rw [unhide HML]; unfold maxLen; omega))
            rw [unhide HML, ← unhide HTX] at z9
            go_simp
            clear z9
            refine hK9.out _ _ hh6 (fun _ => ?_)
            clear hK9 K9
            (try simp only [Act.put, List.setIfInBounds_toArray, List.set_cons_zero, List.set_cons_succ])
            refine wpAnyH_ready (rs := [2]) (by kernel_rfl) (by simp) ?_
            refine AllReadyH.cons (o := { dst := some 29, op := Op.convert 33 9 (Operand.tmp 28), type := _, pos := _, after := _, guard := _ }) rfl (fun K9 hK9 => ?_) AllReadyH.nil
            have z9 := conv_str (range_bts (blk_all (hb1.kept gg6wm1 (by simp))) (by rw [unhide HNL]; unfold maxLen; omega))
            rw [unhide HNL, ← unhide HTA] at z9
            go_simp
            clear z9
            refine hK9.out _ _ hh6 (fun _ => ?_)
            clear hK9 K9
            (try simp only [Act.put, List.setIfInBounds_toArray, List.set_cons_zero, List.set_cons_succ])
            refine wpAnyH_take (i := 6) (oi := { dst := some 33, op := Op.build 28 #[(2, Operand.const (Value.int IntKind.u64 1)), (3, (Operand.tmp 29)), (4, (Operand.tmp 32))], type := _, pos := _, after := _, guard := _ }) (v := .agg C0.toArray) rfl (by kernel_rfl) (by kernel_rfl) (by kernel_rfl) (fun _ _ _ h => h) (yieldsIf_built (by rfl) _ _ rfl _ (Eq.trans (b := Try.prog.built 28 [(2, .int .u64 1), (3, .string TA), (4, .string TX)]) (by kernel_rfl) (unhide HBL))) hh6 ?_
            (try simp only [Act.put, List.setIfInBounds_toArray, List.set_cons_zero, List.set_cons_succ])
            refine wpAnyH_ready (rs := [8]) (by kernel_rfl) (by simp) ?_
            refine AllReadyH.cons (o := { dst := none, op := Op.store 28 (Operand.tmp 7) (Operand.tmp 33), type := _, pos := _, after := _, guard := _ }) rfl (fun K9 hK9 => ?_) AllReadyH.nil
            have hX7 := hB3.kept gg6wa3 (by simp)
            rw [if_pos (by rfl)]
            refine wp_store_row _ _ _ rfl wm1.heap.size C0.toArray rfl rfl _ _ hX7 (unhide HI) (by simpa using unhide HZ) (unhide HO) ?_
            obtain ⟨wf, hwf⟩ : ∃ V, V = wm5.setRow wm1.heap.size C0.toArray := ⟨_, rfl⟩
            have hf : w.grownBy wf none := by rw [hwf]; exact gb_row hh6 _ (Or.inl hh2.size)
            have hBf : Blk wf wm1.heap.size 28 C0 := by rw [hwf]; exact hX7.row C0
            rw [← hwf]
            refine hK9.out _ _ hf (fun _ => ?_)
            clear hK9 K9 hwf
            (try simp only [Act.put])
            refine wpAnyH_done (by kernel_rfl) ?_ _
            refine NoPanic.normal ?_
            exact unhide FIN wf WD.heap.size wa3.heap.size wm1.heap.size hf hBf hh2.size
  · as_aux_lemma =>
      have z9 := unhide HMX WD
      obtain ⟨wm1, hw1, hb1, gm1⟩ : ∃ W, W = WD.alloc (.cells VX 5) ∧ Blk W WD.heap.size 5 (ZX.map bv) ∧ WD.grownBy W none := by rw [unhide HVX]; exact box_new _ _ _
      go_simp
      rw [← hw1]
      clear z9 hw1
      have hh2 := tn h0 gm1
      refine hK9.out _ _ hh2 (fun _ => ?_)
      clear hK9 K9
      (try simp only [Act.put, List.setIfInBounds_toArray, List.set_cons_zero, List.set_cons_succ])
      refine wpAnyH_ready (rs := [1, 5, 7]) (by kernel_rfl) (by simp) ?_
      refine AllReadyH.cons (o := { dst := some 28, op := Op.makeSlice 33 (Operand.tmp 27) (Operand.tmp 27), type := _, pos := _, after := _, guard := _ }) rfl (fun K9 hK9 => ?_) (AllReadyH.cons (o := { dst := some 32, op := Op.convert 33 9 (Operand.tmp 31), type := _, pos := _, after := _, guard := _ }) rfl (fun K9 hK9 => ?_) (AllReadyH.cons (o := { dst := some 7, op := Op.alloc 28, type := _, pos := _, after := _, guard := _ }) rfl (fun K9 hK9 => ?_) AllReadyH.nil))
      · have z9 := unhide HMA wm1
        obtain ⟨wm3, hw3, hb3, gm3⟩ : ∃ W, W = wm1.alloc (.cells VA 5) ∧ Blk W wm1.heap.size 5 (ZA.map bv) ∧ wm1.grownBy W none := by rw [unhide HVA]; exact box_new _ _ _
        go_simp
        rw [← hw3]
        clear z9 hw3
        have gg4wm1 := tn ((gb_refl wm1 none)) gm3
        have hh4 := tn hh2 gm3
        refine hK9.out _ _ hh4 (fun _ => ?_)
        clear hK9 K9
        (try simp only [Act.put, List.setIfInBounds_toArray, List.set_cons_zero, List.set_cons_succ])
        refine wpAnyH_ready (rs := [2, 5, 7]) (by kernel_rfl) (by simp) ?_
        refine AllReadyH.cons (o := { dst := some 29, op := Op.convert 33 9 (Operand.tmp 28), type := _, pos := _, after := _, guard := _ }) rfl (fun K9 hK9 => ?_) (AllReadyH.cons (o := { dst := some 32, op := Op.convert 33 9 (Operand.tmp 31), type := _, pos := _, after := _, guard := _ }) rfl (fun K9 hK9 => ?_) (AllReadyH.cons (o := { dst := some 7, op := Op.alloc 28, type := _, pos := _, after := _, guard := _ }) rfl (fun K9 hK9 => ?_) AllReadyH.nil))
        · have z9 := conv_str (range_bts (blk_all (hb3.kept (gb_refl wm3 none) (by simp))) (by rw [unhide HNL]; unfold maxLen; omega))
          rw [unhide HNL, ← unhide HTA] at z9
          go_simp
          clear z9
          refine hK9.out _ _ hh4 (fun _ => ?_)
          clear hK9 K9
          (try simp only [Act.put, List.setIfInBounds_toArray, List.set_cons_zero, List.set_cons_succ])
          refine wpAnyH_ready (rs := [5, 7]) (by kernel_rfl) (by simp) ?_
          refine AllReadyH.cons (o := { dst := some 32, op := Op.convert 33 9 (Operand.tmp 31), type := _, pos := _, after := _, guard := _ }) rfl (fun K9 hK9 => ?_) (AllReadyH.cons (o := { dst := some 7, op := Op.alloc 28, type := _, pos := _, after := _, guard := _ }) rfl (fun K9 hK9 => ?_) AllReadyH.nil)
          · have z9 := conv_str (range_bts (blk_all (hb1.kept gg4wm1 (by simp))) (by rw [unhide HML]; unfold maxLen; omega))
            rw [unhide HML, ← unhide HTX] at z9
            go_simp
            clear z9
            refine hK9.out _ _ hh4 (fun _ => ?_)
            clear hK9 K9
            (try simp only [Act.put, List.setIfInBounds_toArray, List.set_cons_zero, List.set_cons_succ])
            refine wpAnyH_take (i := 6) (oi := { dst := some 33, op := Op.build 28 #[(2, Operand.const (Value.int IntKind.u64 1)), (3, (Operand.tmp 29)), (4, (Operand.tmp 32))], type := _, pos := _, after := _, guard := _ }) (v := .agg C0.toArray) rfl (by kernel_rfl) (by kernel_rfl) (by kernel_rfl) (fun _ _ _ h => h) (yieldsIf_built (by rfl) _ _ rfl _ (Eq.trans (b := Try.prog.built 28 [(2, .int .u64 1), (3, .string TA), (4, .string TX)]) (by kernel_rfl) (unhide HBL))) hh4 ?_
            (try simp only [Act.put, List.setIfInBounds_toArray, List.set_cons_zero, List.set_cons_succ])
            refine wpAnyH_ready (rs := [7]) (by kernel_rfl) (by simp) ?_
            refine AllReadyH.cons (o := { dst := some 7, op := Op.alloc 28, type := _, pos := _, after := _, guard := _ }) rfl (fun K9 hK9 => ?_) AllReadyH.nil
            obtain ⟨wa5, hw5, hB5, ga5⟩ : ∃ W, W = wm3.alloc (.cells ZC 28) ∧ Blk W wm3.heap.size 28 ZC.toList ∧ wm3.grownBy W none := by simpa using box_new wm3 28 ZC.toList
            have z9 := zvC wm3
            go_simp
            rw [← hw5]
            clear z9 hw5
            have gg6wm1 := tn (gg4wm1) ga5
            have gg6wm3 := tn ((gb_refl wm3 none)) ga5
            have hh6 := tn hh4 ga5
            refine hK9.out _ _ hh6 (fun _ => ?_)
            clear hK9 K9
            (try simp only [Act.put, List.setIfInBounds_toArray, List.set_cons_zero, List.set_cons_succ])
            refine wpAnyH_ready (rs := [8]) (by kernel_rfl) (by simp) ?_
            refine AllReadyH.cons (o := { dst := none, op := Op.store 28 (Operand.tmp 7) (Operand.tmp 33), type := _, pos := _, after := _, guard := _ }) rfl (fun K9 hK9 => ?_) AllReadyH.nil
            have hX7 := hB5.kept (gb_refl wa5 none) (by simp)
            rw [if_pos (by rfl)]
            refine wp_store_row _ _ _ rfl wm3.heap.size C0.toArray rfl rfl _ _ hX7 (unhide HI) (by simpa using unhide HZ) (unhide HO) ?_
            obtain ⟨wf, hwf⟩ : ∃ V, V = wa5.setRow wm3.heap.size C0.toArray := ⟨_, rfl⟩
            have hf : w.grownBy wf none := by rw [hwf]; exact gb_row hh6 _ (Or.inl hh4.size)
            have hBf : Blk wf wm3.heap.size 28 C0 := by rw [hwf]; exact hX7.row C0
            rw [← hwf]
            refine hK9.out _ _ hf (fun _ => ?_)
            clear hK9 K9 hwf
            (try simp only [Act.put])
            refine wpAnyH_done (by kernel_rfl) ?_ _
            refine NoPanic.normal ?_
            exact unhide FIN wf wm1.heap.size WD.heap.size wm3.heap.size hf hBf hh4.size
          · obtain ⟨wa5, hw5, hB5, ga5⟩ : ∃ W, W = wm3.alloc (.cells ZC 28) ∧ Blk W wm3.heap.size 28 ZC.toList ∧ wm3.grownBy W none := by simpa using box_new wm3 28 ZC.toList
            have z9 := zvC wm3
            go_simp
            rw [← hw5]
            clear z9 hw5
            have gg6wm1 := tn (gg4wm1) ga5
            have gg6wm3 := tn ((gb_refl wm3 none)) ga5
            have hh6 := tn hh4 ga5
            refine hK9.out _ _ hh6 (fun _ => ?_)
            clear hK9 K9
            (try simp only [Act.put, List.setIfInBounds_toArray, List.set_cons_zero, List.set_cons_succ])
            refine wpAnyH_ready (rs := [5]) (by kernel_rfl) (by simp) ?_
            refine AllReadyH.cons (o := { dst := some 32, op := Op.convert 33 9 (Operand.tmp 31), type := _, pos := _, after := _, guard := _ }) rfl (fun K9 hK9 => ?_) AllReadyH.nil
            have z9 := conv_str (range_bts (blk_all (hb1.kept gg6wm1 (by simp))) (by rw [unhide HML]; unfold maxLen; omega))
            rw [unhide HML, ← unhide HTX] at z9
            go_simp
            clear z9
            refine hK9.out _ _ hh6 (fun _ => ?_)
            clear hK9 K9
            (try simp only [Act.put, List.setIfInBounds_toArray, List.set_cons_zero, List.set_cons_succ])
            refine wpAnyH_take (i := 6) (oi := { dst := some 33, op := Op.build 28 #[(2, Operand.const (Value.int IntKind.u64 1)), (3, (Operand.tmp 29)), (4, (Operand.tmp 32))], type := _, pos := _, after := _, guard := _ }) (v := .agg C0.toArray) rfl (by kernel_rfl) (by kernel_rfl) (by kernel_rfl) (fun _ _ _ h => h) (yieldsIf_built (by rfl) _ _ rfl _ (Eq.trans (b := Try.prog.built 28 [(2, .int .u64 1), (3, .string TA), (4, .string TX)]) (by kernel_rfl) (unhide HBL))) hh6 ?_
            (try simp only [Act.put, List.setIfInBounds_toArray, List.set_cons_zero, List.set_cons_succ])
            refine wpAnyH_ready (rs := [8]) (by kernel_rfl) (by simp) ?_
            refine AllReadyH.cons (o := { dst := none, op := Op.store 28 (Operand.tmp 7) (Operand.tmp 33), type := _, pos := _, after := _, guard := _ }) rfl (fun K9 hK9 => ?_) AllReadyH.nil
            have hX7 := hB5.kept (gb_refl wa5 none) (by simp)
            rw [if_pos (by rfl)]
            refine wp_store_row _ _ _ rfl wm3.heap.size C0.toArray rfl rfl _ _ hX7 (unhide HI) (by simpa using unhide HZ) (unhide HO) ?_
            obtain ⟨wf, hwf⟩ : ∃ V, V = wa5.setRow wm3.heap.size C0.toArray := ⟨_, rfl⟩
            have hf : w.grownBy wf none := by rw [hwf]; exact gb_row hh6 _ (Or.inl hh4.size)
            have hBf : Blk wf wm3.heap.size 28 C0 := by rw [hwf]; exact hX7.row C0
            rw [← hwf]
            refine hK9.out _ _ hf (fun _ => ?_)
            clear hK9 K9 hwf
            (try simp only [Act.put])
            refine wpAnyH_done (by kernel_rfl) ?_ _
            refine NoPanic.normal ?_
            exact unhide FIN wf wm1.heap.size WD.heap.size wm3.heap.size hf hBf hh4.size
        · have z9 := conv_str (range_bts (blk_all (hb1.kept gg4wm1 (by simp))) (by rw [unhide HML]; unfold maxLen; omega))
          rw [unhide HML, ← unhide HTX] at z9
          go_simp
          clear z9
          refine hK9.out _ _ hh4 (fun _ => ?_)
          clear hK9 K9
          (try simp only [Act.put, List.setIfInBounds_toArray, List.set_cons_zero, List.set_cons_succ])
          refine wpAnyH_ready (rs := [2, 7]) (by kernel_rfl) (by simp) ?_
          refine AllReadyH.cons (o := { dst := some 29, op := Op.convert 33 9 (Operand.tmp 28), type := _, pos := _, after := _, guard := _ }) rfl (fun K9 hK9 => ?_) (AllReadyH.cons (o := { dst := some 7, op := Op.alloc 28, type := _, pos := _, after := _, guard := _ }) rfl (fun K9 hK9 => ?_) AllReadyH.nil)
          · have z9 := conv_str (range_bts (blk_all (hb3.kept (gb_refl wm3 none) (by simp))) (by rw [unhide HNL]; unfold maxLen; omega))
            rw [unhide HNL, ← unhide HTA] at z9
            go_simp
            clear z9
            refine hK9.out _ _ hh4 (fun _ => ?_)
            clear hK9 K9
            (try simp only [Act.put, List.setIfInBounds_toArray, List.set_cons_zero, List.set_cons_succ])
            refine wpAnyH_take (i := 6) (oi := { dst := some 33, op := Op.build 28 #[(2, Operand.const (Value.int IntKind.u64 1)), (3, (Operand.tmp 29)), (4, (Operand.tmp 32))], type := _, pos := _, after := _, guard := _ }) (v := .agg C0.toArray) rfl (by kernel_rfl) (by kernel_rfl) (by kernel_rfl) (fun _ _ _ h => h) (yieldsIf_built (by rfl) _ _ rfl _ (Eq.trans (b := Try.prog.built 28 [(2, .int .u64 1), (3, .string TA), (4, .string TX)]) (by kernel_rfl) (unhide HBL))) hh4 ?_
            (try simp only [Act.put, List.setIfInBounds_toArray, List.set_cons_zero, List.set_cons_succ])
            refine wpAnyH_ready (rs := [7]) (by kernel_rfl) (by simp) ?_
            refine AllReadyH.cons (o := { dst := some 7, op := Op.alloc 28, type := _, pos := _, after := _, guard := _ }) rfl (fun K9 hK9 => ?_) AllReadyH.nil
            obtain ⟨wa5, hw5, hB5, ga5⟩ : ∃ W, W = wm3.alloc (.cells ZC 28) ∧ Blk W wm3.heap.size 28 ZC.toList ∧ wm3.grownBy W none := by simpa using box_new wm3 28 ZC.toList
            have z9 := zvC wm3
            go_simp
            rw [← hw5]
            clear z9 hw5
            have gg6wm1 := tn (gg4wm1) ga5
            have gg6wm3 := tn ((gb_refl wm3 none)) ga5
            have hh6 := tn hh4 ga5
            refine hK9.out _ _ hh6 (fun _ => ?_)
            clear hK9 K9
            (try simp only [Act.put, List.setIfInBounds_toArray, List.set_cons_zero, List.set_cons_succ])
            refine wpAnyH_ready (rs := [8]) (by kernel_rfl) (by simp) ?_
            refine AllReadyH.cons (o := { dst := none, op := Op.store 28 (Operand.tmp 7) (Operand.tmp 33), type := _, pos := _, after := _, guard := _ }) rfl (fun K9 hK9 => ?_) AllReadyH.nil
            have hX7 := hB5.kept (gb_refl wa5 none) (by simp)
            rw [if_pos (by rfl)]
            refine wp_store_row _ _ _ rfl wm3.heap.size C0.toArray rfl rfl _ _ hX7 (unhide HI) (by simpa using unhide HZ) (unhide HO) ?_
            obtain ⟨wf, hwf⟩ : ∃ V, V = wa5.setRow wm3.heap.size C0.toArray := ⟨_, rfl⟩
            have hf : w.grownBy wf none := by rw [hwf]; exact gb_row hh6 _ (Or.inl hh4.size)
            have hBf : Blk wf wm3.heap.size 28 C0 := by rw [hwf]; exact hX7.row C0
            rw [← hwf]
            refine hK9.out _ _ hf (fun _ => ?_)
            clear hK9 K9 hwf
            (try simp only [Act.put])
            refine wpAnyH_done (by kernel_rfl) ?_ _
            refine NoPanic.normal ?_
            exact unhide FIN wf wm1.heap.size WD.heap.size wm3.heap.size hf hBf hh4.size
          · obtain ⟨wa5, hw5, hB5, ga5⟩ : ∃ W, W = wm3.alloc (.cells ZC 28) ∧ Blk W wm3.heap.size 28 ZC.toList ∧ wm3.grownBy W none := by simpa using box_new wm3 28 ZC.toList
            have z9 := zvC wm3
            go_simp
            rw [← hw5]
            clear z9 hw5
            have gg6wm1 := tn (gg4wm1) ga5
            have gg6wm3 := tn ((gb_refl wm3 none)) ga5
            have hh6 := tn hh4 ga5
            refine hK9.out _ _ hh6 (fun _ => ?_)
            clear hK9 K9
            (try simp only [Act.put, List.setIfInBounds_toArray, List.set_cons_zero, List.set_cons_succ])
            refine wpAnyH_ready (rs := [2]) (by kernel_rfl) (by simp) ?_
            refine AllReadyH.cons (o := { dst := some 29, op := Op.convert 33 9 (Operand.tmp 28), type := _, pos := _, after := _, guard := _ }) rfl (fun K9 hK9 => ?_) AllReadyH.nil
            have z9 := conv_str (range_bts (blk_all (hb3.kept gg6wm3 (by simp))) (by rw [unhide HNL]; unfold maxLen; omega))
            rw [unhide HNL, ← unhide HTA] at z9
            go_simp
            clear z9
            refine hK9.out _ _ hh6 (fun _ => ?_)
            clear hK9 K9
            (try simp only [Act.put, List.setIfInBounds_toArray, List.set_cons_zero, List.set_cons_succ])
            refine wpAnyH_take (i := 6) (oi := { dst := some 33, op := Op.build 28 #[(2, Operand.const (Value.int IntKind.u64 1)), (3, (Operand.tmp 29)), (4, (Operand.tmp 32))], type := _, pos := _, after := _, guard := _ }) (v := .agg C0.toArray) rfl (by kernel_rfl) (by kernel_rfl) (by kernel_rfl) (fun _ _ _ h => h) (yieldsIf_built (by rfl) _ _ rfl _ (Eq.trans (b := Try.prog.built 28 [(2, .int .u64 1), (3, .string TA), (4, .string TX)]) (by kernel_rfl) (unhide HBL))) hh6 ?_
            (try simp only [Act.put, List.setIfInBounds_toArray, List.set_cons_zero, List.set_cons_succ])
            refine wpAnyH_ready (rs := [8]) (by kernel_rfl) (by simp) ?_
            refine AllReadyH.cons (o := { dst := none, op := Op.store 28 (Operand.tmp 7) (Operand.tmp 33), type := _, pos := _, after := _, guard := _ }) rfl (fun K9 hK9 => ?_) AllReadyH.nil
            have hX7 := hB5.kept (gb_refl wa5 none) (by simp)
            rw [if_pos (by rfl)]
            refine wp_store_row _ _ _ rfl wm3.heap.size C0.toArray rfl rfl _ _ hX7 (unhide HI) (by simpa using unhide HZ) (unhide HO) ?_
            obtain ⟨wf, hwf⟩ : ∃ V, V = wa5.setRow wm3.heap.size C0.toArray := ⟨_, rfl⟩
            have hf : w.grownBy wf none := by rw [hwf]; exact gb_row hh6 _ (Or.inl hh4.size)
            have hBf : Blk wf wm3.heap.size 28 C0 := by rw [hwf]; exact hX7.row C0
            rw [← hwf]
            refine hK9.out _ _ hf (fun _ => ?_)
            clear hK9 K9 hwf
            (try simp only [Act.put])
            refine wpAnyH_done (by kernel_rfl) ?_ _
            refine NoPanic.normal ?_
            exact unhide FIN wf wm1.heap.size WD.heap.size wm3.heap.size hf hBf hh4.size
        · obtain ⟨wa5, hw5, hB5, ga5⟩ : ∃ W, W = wm3.alloc (.cells ZC 28) ∧ Blk W wm3.heap.size 28 ZC.toList ∧ wm3.grownBy W none := by simpa using box_new wm3 28 ZC.toList
          have z9 := zvC wm3
          go_simp
          rw [← hw5]
          clear z9 hw5
          have gg6wm1 := tn (gg4wm1) ga5
          have gg6wm3 := tn ((gb_refl wm3 none)) ga5
          have hh6 := tn hh4 ga5
          refine hK9.out _ _ hh6 (fun _ => ?_)
          clear hK9 K9
          (try simp only [Act.put, List.setIfInBounds_toArray, List.set_cons_zero, List.set_cons_succ])
          refine wpAnyH_ready (rs := [2, 5]) (by kernel_rfl) (by simp) ?_
          refine AllReadyH.cons (o := { dst := some 29, op := Op.convert 33 9 (Operand.tmp 28), type := _, pos := _, after := _, guard := _ }) rfl (fun K9 hK9 => ?_) (AllReadyH.cons (o := { dst := some 32, op := Op.convert 33 9 (Operand.tmp 31), type := _, pos := _, after := _, guard := _ }) rfl (fun K9 hK9 => ?_) AllReadyH.nil)
          · have z9 := conv_str (range_bts (blk_all (hb3.kept gg6wm3 (by simp))) (by rw [unhide HNL]; unfold maxLen; omega))
            rw [unhide HNL, ← unhide HTA] at z9
            go_simp
            clear z9
            refine hK9.out _ _ hh6 (fun _ => ?_)
            clear hK9 K9
            (try simp only [Act.put, List.setIfInBounds_toArray, List.set_cons_zero, List.set_cons_succ])
            refine wpAnyH_ready (rs := [5]) (by kernel_rfl) (by simp) ?_
            refine AllReadyH.cons (o := { dst := some 32, op := Op.convert 33 9 (Operand.tmp 31), type := _, pos := _, after := _, guard := _ }) rfl (fun K9 hK9 => ?_) AllReadyH.nil
            have z9 := conv_str (range_bts (blk_all (hb1.kept gg6wm1 (by simp))) (by rw [unhide HML]; unfold maxLen; omega))
            rw [unhide HML, ← unhide HTX] at z9
            go_simp
            clear z9
            refine hK9.out _ _ hh6 (fun _ => ?_)
            clear hK9 K9
            (try simp only [Act.put, List.setIfInBounds_toArray, List.set_cons_zero, List.set_cons_succ])
            refine wpAnyH_take (i := 6) (oi := { dst := some 33, op := Op.build 28 #[(2, Operand.const (Value.int IntKind.u64 1)), (3, (Operand.tmp 29)), (4, (Operand.tmp 32))], type := _, pos := _, after := _, guard := _ }) (v := .agg C0.toArray) rfl (by kernel_rfl) (by kernel_rfl) (by kernel_rfl) (fun _ _ _ h => h) (yieldsIf_built (by rfl) _ _ rfl _ (Eq.trans (b := Try.prog.built 28 [(2, .int .u64 1), (3, .string TA), (4, .string TX)]) (by kernel_rfl) (unhide HBL))) hh6 ?_
            (try simp only [Act.put, List.setIfInBounds_toArray, List.set_cons_zero, List.set_cons_succ])
            refine wpAnyH_ready (rs := [8]) (by kernel_rfl) (by simp) ?_
            refine AllReadyH.cons (o := { dst := none, op := Op.store 28 (Operand.tmp 7) (Operand.tmp 33), type := _, pos := _, after := _, guard := _ }) rfl (fun K9 hK9 => ?_) AllReadyH.nil
            have hX7 := hB5.kept (gb_refl wa5 none) (by simp)
            rw [if_pos (by rfl)]
            refine wp_store_row _ _ _ rfl wm3.heap.size C0.toArray rfl rfl _ _ hX7 (unhide HI) (by simpa using unhide HZ) (unhide HO) ?_
            obtain ⟨wf, hwf⟩ : ∃ V, V = wa5.setRow wm3.heap.size C0.toArray := ⟨_, rfl⟩
            have hf : w.grownBy wf none := by rw [hwf]; exact gb_row hh6 _ (Or.inl hh4.size)
            have hBf : Blk wf wm3.heap.size 28 C0 := by rw [hwf]; exact hX7.row C0
            rw [← hwf]
            refine hK9.out _ _ hf (fun _ => ?_)
            clear hK9 K9 hwf
            (try simp only [Act.put])
            refine wpAnyH_done (by kernel_rfl) ?_ _
            refine NoPanic.normal ?_
            exact unhide FIN wf wm1.heap.size WD.heap.size wm3.heap.size hf hBf hh4.size
          · have z9 := conv_str (range_bts (blk_all (hb1.kept gg6wm1 (by simp))) (by rw [unhide HML]; unfold maxLen; omega))
            rw [unhide HML, ← unhide HTX] at z9
            go_simp
            clear z9
            refine hK9.out _ _ hh6 (fun _ => ?_)
            clear hK9 K9
            (try simp only [Act.put, List.setIfInBounds_toArray, List.set_cons_zero, List.set_cons_succ])
            refine wpAnyH_ready (rs := [2]) (by kernel_rfl) (by simp) ?_
            refine AllReadyH.cons (o := { dst := some 29, op := Op.convert 33 9 (Operand.tmp 28), type := _, pos := _, after := _, guard := _ }) rfl (fun K9 hK9 => ?_) AllReadyH.nil
            have z9 := conv_str (range_bts (blk_all (hb3.kept gg6wm3 (by simp))) (by rw [unhide HNL]; unfold maxLen; omega))
            rw [unhide HNL, ← unhide HTA] at z9
            go_simp
            clear z9
            refine hK9.out _ _ hh6 (fun _ => ?_)
            clear hK9 K9
            (try simp only [Act.put, List.setIfInBounds_toArray, List.set_cons_zero, List.set_cons_succ])
            refine wpAnyH_take (i := 6) (oi := { dst := some 33, op := Op.build 28 #[(2, Operand.const (Value.int IntKind.u64 1)), (3, (Operand.tmp 29)), (4, (Operand.tmp 32))], type := _, pos := _, after := _, guard := _ }) (v := .agg C0.toArray) rfl (by kernel_rfl) (by kernel_rfl) (by kernel_rfl) (fun _ _ _ h => h) (yieldsIf_built (by rfl) _ _ rfl _ (Eq.trans (b := Try.prog.built 28 [(2, .int .u64 1), (3, .string TA), (4, .string TX)]) (by kernel_rfl) (unhide HBL))) hh6 ?_
            (try simp only [Act.put, List.setIfInBounds_toArray, List.set_cons_zero, List.set_cons_succ])
            refine wpAnyH_ready (rs := [8]) (by kernel_rfl) (by simp) ?_
            refine AllReadyH.cons (o := { dst := none, op := Op.store 28 (Operand.tmp 7) (Operand.tmp 33), type := _, pos := _, after := _, guard := _ }) rfl (fun K9 hK9 => ?_) AllReadyH.nil
            have hX7 := hB5.kept (gb_refl wa5 none) (by simp)
            rw [if_pos (by rfl)]
            refine wp_store_row _ _ _ rfl wm3.heap.size C0.toArray rfl rfl _ _ hX7 (unhide HI) (by simpa using unhide HZ) (unhide HO) ?_
            obtain ⟨wf, hwf⟩ : ∃ V, V = wa5.setRow wm3.heap.size C0.toArray := ⟨_, rfl⟩
            have hf : w.grownBy wf none := by rw [hwf]; exact gb_row hh6 _ (Or.inl hh4.size)
            have hBf : Blk wf wm3.heap.size 28 C0 := by rw [hwf]; exact hX7.row C0
            rw [← hwf]
            refine hK9.out _ _ hf (fun _ => ?_)
            clear hK9 K9 hwf
            (try simp only [Act.put])
            refine wpAnyH_done (by kernel_rfl) ?_ _
            refine NoPanic.normal ?_
            exact unhide FIN wf wm1.heap.size WD.heap.size wm3.heap.size hf hBf hh4.size
      · have z9 := conv_str (range_bts (blk_all (hb1.kept (gb_refl wm1 none) (by simp))) (by rw [unhide HML]; unfold maxLen; omega))
        rw [unhide HML, ← unhide HTX] at z9
        go_simp
        clear z9
        refine hK9.out _ _ hh2 (fun _ => ?_)
        clear hK9 K9
        (try simp only [Act.put, List.setIfInBounds_toArray, List.set_cons_zero, List.set_cons_succ])
        refine wpAnyH_ready (rs := [1, 7]) (by kernel_rfl) (by simp) ?_
        refine AllReadyH.cons (o := { dst := some 28, op := Op.makeSlice 33 (Operand.tmp 27) (Operand.tmp 27), type := _, pos := _, after := _, guard := _ }) rfl (fun K9 hK9 => ?_) (AllReadyH.cons (o := { dst := some 7, op := Op.alloc 28, type := _, pos := _, after := _, guard := _ }) rfl (fun K9 hK9 => ?_) AllReadyH.nil)
        · have z9 := unhide HMA wm1
          obtain ⟨wm3, hw3, hb3, gm3⟩ : ∃ W, W = wm1.alloc (.cells VA 5) ∧ Blk W wm1.heap.size 5 (ZA.map bv) ∧ wm1.grownBy W none := by rw [unhide HVA]; exact box_new _ _ _
          go_simp
          rw [← hw3]
          clear z9 hw3
          have gg4wm1 := tn ((gb_refl wm1 none)) gm3
          have hh4 := tn hh2 gm3
          refine hK9.out _ _ hh4 (fun _ => ?_)
          clear hK9 K9
          (try simp only [Act.put, List.setIfInBounds_toArray, List.set_cons_zero, List.set_cons_succ])
          refine wpAnyH_ready (rs := [2, 7]) (by kernel_rfl) (by simp) ?_
          refine AllReadyH.cons (o := { dst := some 29, op := Op.convert 33 9 (Operand.tmp 28), type := _, pos := _, after := _, guard := _ }) rfl (fun K9 hK9 => ?_) (AllReadyH.cons (o := { dst := some 7, op := Op.alloc 28, type := _, pos := _, after := _, guard := _ }) rfl (fun K9 hK9 => ?_) AllReadyH.nil)
          · have z9 := conv_str (range_bts (blk_all (hb3.kept (gb_refl wm3 none) (by simp))) (by rw [unhide HNL]; unfold maxLen; omega))
            rw [unhide HNL, ← unhide HTA] at z9
            go_simp
            clear z9
            refine hK9.out _ _ hh4 (fun _ => ?_)
            clear hK9 K9
            (try simp only [Act.put, List.setIfInBounds_toArray, List.set_cons_zero, List.set_cons_succ])
            refine wpAnyH_take (i := 6) (oi := { dst := some 33, op := Op.build 28 #[(2, Operand.const (Value.int IntKind.u64 1)), (3, (Operand.tmp 29)), (4, (Operand.tmp 32))], type := _, pos := _, after := _, guard := _ }) (v := .agg C0.toArray) rfl (by kernel_rfl) (by kernel_rfl) (by kernel_rfl) (fun _ _ _ h => h) (yieldsIf_built (by rfl) _ _ rfl _ (Eq.trans (b := Try.prog.built 28 [(2, .int .u64 1), (3, .string TA), (4, .string TX)]) (by kernel_rfl) (unhide HBL))) hh4 ?_
            (try simp only [Act.put, List.setIfInBounds_toArray, List.set_cons_zero, List.set_cons_succ])
            refine wpAnyH_ready (rs := [7]) (by kernel_rfl) (by simp) ?_
            refine AllReadyH.cons (o := { dst := some 7, op := Op.alloc 28, type := _, pos := _, after := _, guard := _ }) rfl (fun K9 hK9 => ?_) AllReadyH.nil
            obtain ⟨wa5, hw5, hB5, ga5⟩ : ∃ W, W = wm3.alloc (.cells ZC 28) ∧ Blk W wm3.heap.size 28 ZC.toList ∧ wm3.grownBy W none := by simpa using box_new wm3 28 ZC.toList
            have z9 := zvC wm3
            go_simp
            rw [← hw5]
            clear z9 hw5
            have gg6wm1 := tn (gg4wm1) ga5
            have gg6wm3 := tn ((gb_refl wm3 none)) ga5
            have hh6 := tn hh4 ga5
            refine hK9.out _ _ hh6 (fun _ => ?_)
            clear hK9 K9
            (try simp only [Act.put, List.setIfInBounds_toArray, List.set_cons_zero, List.set_cons_succ])
            refine wpAnyH_ready (rs := [8]) (by kernel_rfl) (by simp) ?_
            refine AllReadyH.cons (o := { dst := none, op := Op.store 28 (Operand.tmp 7) (Operand.tmp 33), type := _, pos := _, after := _, guard := _ }) rfl (fun K9 hK9 => ?_) AllReadyH.nil
            have hX7 := hB5.kept (gb_refl wa5 none) (by simp)
            rw [if_pos (by rfl)]
            refine wp_store_row _ _ _ rfl wm3.heap.size C0.toArray rfl rfl _ _ hX7 (unhide HI) (by simpa using unhide HZ) (unhide HO) ?_
            obtain ⟨wf, hwf⟩ : ∃ V, V = wa5.setRow wm3.heap.size C0.toArray := ⟨_, rfl⟩
            have hf : w.grownBy wf none := by rw [hwf]; exact gb_row hh6 _ (Or.inl hh4.size)
            have hBf : Blk wf wm3.heap.size 28 C0 := by rw [hwf]; exact hX7.row C0
            rw [← hwf]
            refine hK9.out _ _ hf (fun _ => ?_)
            clear hK9 K9 hwf
            (try simp only [Act.put])
            refine wpAnyH_done (by kernel_rfl) ?_ _
            refine NoPanic.normal ?_
            exact unhide FIN wf wm1.heap.size WD.heap.size wm3.heap.size hf hBf hh4.size
          · obtain ⟨wa5, hw5, hB5, ga5⟩ : ∃ W, W = wm3.alloc (.cells ZC 28) ∧ Blk W wm3.heap.size 28 ZC.toList ∧ wm3.grownBy W none := by simpa using box_new wm3 28 ZC.toList
            have z9 := zvC wm3
            go_simp
            rw [← hw5]
            clear z9 hw5
            have gg6wm1 := tn (gg4wm1) ga5
            have gg6wm3 := tn ((gb_refl wm3 none)) ga5
            have hh6 := tn hh4 ga5
            refine hK9.out _ _ hh6 (fun _ => ?_)
            clear hK9 K9
            (try simp only [Act.put, List.setIfInBounds_toArray, List.set_cons_zero, List.set_cons_succ])
            refine wpAnyH_ready (rs := [2]) (by kernel_rfl) (by simp) ?_
            refine AllReadyH.cons (o := { dst := some 29, op := Op.convert 33 9 (Operand.tmp 28), type := _, pos := _, after := _, guard := _ }) rfl (fun K9 hK9 => ?_) AllReadyH.nil
            have z9 := conv_str (range_bts (blk_all (hb3.kept gg6wm3 (by simp))) (by rw [unhide HNL]; unfold maxLen; omega))
            rw [unhide HNL, ← unhide HTA] at z9
            go_simp
            clear z9
            refine hK9.out _ _ hh6 (fun _ => ?_)
            clear hK9 K9
            (try simp only [Act.put, List.setIfInBounds_toArray, List.set_cons_zero, List.set_cons_succ])
            refine wpAnyH_take (i := 6) (oi := { dst := some 33, op := Op.build 28 #[(2, Operand.const (Value.int IntKind.u64 1)), (3, (Operand.tmp 29)), (4, (Operand.tmp 32))], type := _, pos := _, after := _, guard := _ }) (v := .agg C0.toArray) rfl (by kernel_rfl) (by kernel_rfl) (by kernel_rfl) (fun _ _ _ h => h) (yieldsIf_built (by rfl) _ _ rfl _ (Eq.trans (b := Try.prog.built 28 [(2, .int .u64 1), (3, .string TA), (4, .string TX)]) (by kernel_rfl) (unhide HBL))) hh6 ?_
            (try simp only [Act.put, List.setIfInBounds_toArray, List.set_cons_zero, List.set_cons_succ])
            refine wpAnyH_ready (rs := [8]) (by kernel_rfl) (by simp) ?_
            refine AllReadyH.cons (o := { dst := none, op := Op.store 28 (Operand.tmp 7) (Operand.tmp 33), type := _, pos := _, after := _, guard := _ }) rfl (fun K9 hK9 => ?_) AllReadyH.nil
            have hX7 := hB5.kept (gb_refl wa5 none) (by simp)
            rw [if_pos (by rfl)]
            refine wp_store_row _ _ _ rfl wm3.heap.size C0.toArray rfl rfl _ _ hX7 (unhide HI) (by simpa using unhide HZ) (unhide HO) ?_
            obtain ⟨wf, hwf⟩ : ∃ V, V = wa5.setRow wm3.heap.size C0.toArray := ⟨_, rfl⟩
            have hf : w.grownBy wf none := by rw [hwf]; exact gb_row hh6 _ (Or.inl hh4.size)
            have hBf : Blk wf wm3.heap.size 28 C0 := by rw [hwf]; exact hX7.row C0
            rw [← hwf]
            refine hK9.out _ _ hf (fun _ => ?_)
            clear hK9 K9 hwf
            (try simp only [Act.put])
            refine wpAnyH_done (by kernel_rfl) ?_ _
            refine NoPanic.normal ?_
            exact unhide FIN wf wm1.heap.size WD.heap.size wm3.heap.size hf hBf hh4.size
        · obtain ⟨wa3, hw3, hB3, ga3⟩ : ∃ W, W = wm1.alloc (.cells ZC 28) ∧ Blk W wm1.heap.size 28 ZC.toList ∧ wm1.grownBy W none := by simpa using box_new wm1 28 ZC.toList
          have z9 := zvC wm1
          go_simp
          rw [← hw3]
          clear z9 hw3
          have gg4wm1 := tn ((gb_refl wm1 none)) ga3
          have hh4 := tn hh2 ga3
          refine hK9.out _ _ hh4 (fun _ => ?_)
          clear hK9 K9
          (try simp only [Act.put, List.setIfInBounds_toArray, List.set_cons_zero, List.set_cons_succ])
          refine wpAnyH_ready (rs := [1]) (by kernel_rfl) (by simp) ?_
          refine AllReadyH.cons (o := { dst := some 28, op := Op.makeSlice 33 (Operand.tmp 27) (Operand.tmp 27), type := _, pos := _, after := _, guard := _ }) rfl (fun K9 hK9 => ?_) AllReadyH.nil
          have z9 := unhide HMA wa3
          obtain ⟨wm5, hw5, hb5, gm5⟩ : ∃ W, W = wa3.alloc (.cells VA 5) ∧ Blk W wa3.heap.size 5 (ZA.map bv) ∧ wa3.grownBy W none := by rw [unhide HVA]; exact box_new _ _ _
          go_simp
          rw [← hw5]
          clear z9 hw5
          have gg6wm1 := tn (gg4wm1) gm5
          have gg6wa3 := tn ((gb_refl wa3 none)) gm5
          have hh6 := tn hh4 gm5
          refine hK9.out _ _ hh6 (fun _ => ?_)
          clear hK9 K9
          (try simp only [Act.put, List.setIfInBounds_toArray, List.set_cons_zero, List.set_cons_succ])
          refine wpAnyH_ready (rs := [2]) (by kernel_rfl) (by simp) ?_
          refine AllReadyH.cons (o := { dst := some 29, op := Op.convert 33 9 (Operand.tmp 28), type := _, pos := _, after := _, guard := _ }) rfl (fun K9 hK9 => ?_) AllReadyH.nil
          have z9 := conv_str (range_bts (blk_all (hb5.kept (gb_refl wm5 none) (by simp))) (by rw [unhide HNL]; unfold maxLen; omega))
          rw [unhide HNL, ← unhide HTA] at z9
          go_simp
          clear z9
          refine hK9.out _ _ hh6 (fun _ => ?_)
          clear hK9 K9
          (try simp only [Act.put, List.setIfInBounds_toArray, List.set_cons_zero, List.set_cons_succ])
          refine wpAnyH_take (i := 6) (oi := { dst := some 33, op := Op.build 28 #[(2, Operand.const (Value.int IntKind.u64 1)), (3, (Operand.tmp 29)), (4, (Operand.tmp 32))], type := _, pos := _, after := _, guard := _ }) (v := .agg C0.toArray) rfl (by kernel_rfl) (by kernel_rfl) (by kernel_rfl) (fun _ _ _ h => h) (yieldsIf_built (by rfl) _ _ rfl _ (Eq.trans (b := Try.prog.built 28 [(2, .int .u64 1), (3, .string TA), (4, .string TX)]) (by kernel_rfl) (unhide HBL))) hh6 ?_
          (try simp only [Act.put, List.setIfInBounds_toArray, List.set_cons_zero, List.set_cons_succ])
          refine wpAnyH_ready (rs := [8]) (by kernel_rfl) (by simp) ?_
          refine AllReadyH.cons (o := { dst := none, op := Op.store 28 (Operand.tmp 7) (Operand.tmp 33), type := _, pos := _, after := _, guard := _ }) rfl (fun K9 hK9 => ?_) AllReadyH.nil
          have hX7 := hB3.kept gg6wa3 (by simp)
          rw [if_pos (by rfl)]
          refine wp_store_row _ _ _ rfl wm1.heap.size C0.toArray rfl rfl _ _ hX7 (unhide HI) (by simpa using unhide HZ) (unhide HO) ?_
          obtain ⟨wf, hwf⟩ : ∃ V, V = wm5.setRow wm1.heap.size C0.toArray := ⟨_, rfl⟩
          have hf : w.grownBy wf none := by rw [hwf]; exact gb_row hh6 _ (Or.inl hh2.size)
          have hBf : Blk wf wm1.heap.size 28 C0 := by rw [hwf]; exact hX7.row C0
          rw [← hwf]
          refine hK9.out _ _ hf (fun _ => ?_)
          clear hK9 K9 hwf
          (try simp only [Act.put])
          refine wpAnyH_done (by kernel_rfl) ?_ _
          refine NoPanic.normal ?_
          exact unhide FIN wf wa3.heap.size WD.heap.size wm1.heap.size hf hBf hh2.size
      · obtain ⟨wa3, hw3, hB3, ga3⟩ : ∃ W, W = wm1.alloc (.cells ZC 28) ∧ Blk W wm1.heap.size 28 ZC.toList ∧ wm1.grownBy W none := by simpa using box_new wm1 28 ZC.toList
        have z9 := zvC wm1
        go_simp
        rw [← hw3]
        clear z9 hw3
        have gg4wm1 := tn ((gb_refl wm1 none)) ga3
        have hh4 := tn hh2 ga3
        refine hK9.out _ _ hh4 (fun _ => ?_)
        clear hK9 K9
        (try simp only [Act.put, List.setIfInBounds_toArray, List.set_cons_zero, List.set_cons_succ])
        refine wpAnyH_ready (rs := [1, 5]) (by kernel_rfl) (by simp) ?_
        refine AllReadyH.cons (o := { dst := some 28, op := Op.makeSlice 33 (Operand.tmp 27) (Operand.tmp 27), type := _, pos := _, after := _, guard := _ }) rfl (fun K9 hK9 => ?_) (AllReadyH.cons (o := { dst := some 32, op := Op.convert 33 9 (Operand.tmp 31), type := _, pos := _, after := _, guard := _ }) rfl (fun K9 hK9 => ?_) AllReadyH.nil)
        · have z9 := unhide HMA wa3
          obtain ⟨wm5, hw5, hb5, gm5⟩ : ∃ W, W = wa3.alloc (.cells VA 5) ∧ Blk W wa3.heap.size 5 (ZA.map bv) ∧ wa3.grownBy W none := by rw [unhide HVA]; exact box_new _ _ _
          go_simp
          rw [← hw5]
          clear z9 hw5
          have gg6wm1 := tn (gg4wm1) gm5
          have gg6wa3 := tn ((gb_refl wa3 none)) gm5
          have hh6 := tn hh4 gm5
          refine hK9.out _ _ hh6 (fun _ => ?_)
          clear hK9 K9
          (try simp only [Act.put, List.setIfInBounds_toArray, List.set_cons_zero, List.set_cons_succ])
          refine wpAnyH_ready (rs := [2, 5]) (by kernel_rfl) (by simp) ?_
          refine AllReadyH.cons (o := { dst := some 29, op := Op.convert 33 9 (Operand.tmp 28), type := _, pos := _, after := _, guard := _ }) rfl (fun K9 hK9 => ?_) (AllReadyH.cons (o := { dst := some 32, op := Op.convert 33 9 (Operand.tmp 31), type := _, pos := _, after := _, guard := _ }) rfl (fun K9 hK9 => ?_) AllReadyH.nil)
          · have z9 := conv_str (range_bts (blk_all (hb5.kept (gb_refl wm5 none) (by simp))) (by rw [unhide HNL]; unfold maxLen; omega))
            rw [unhide HNL, ← unhide HTA] at z9
            go_simp
            clear z9
            refine hK9.out _ _ hh6 (fun _ => ?_)
            clear hK9 K9
            (try simp only [Act.put, List.setIfInBounds_toArray, List.set_cons_zero, List.set_cons_succ])
            refine wpAnyH_ready (rs := [5]) (by kernel_rfl) (by simp) ?_
            refine AllReadyH.cons (o := { dst := some 32, op := Op.convert 33 9 (Operand.tmp 31), type := _, pos := _, after := _, guard := _ }) rfl (fun K9 hK9 => ?_) AllReadyH.nil
            have z9 := conv_str (range_bts (blk_all (hb1.kept gg6wm1 (by simp))) (by rw [unhide HML]; unfold maxLen; omega))
            rw [unhide HML, ← unhide HTX] at z9
            go_simp
            clear z9
            refine hK9.out _ _ hh6 (fun _ => ?_)
            clear hK9 K9
            (try simp only [Act.put, List.setIfInBounds_toArray, List.set_cons_zero, List.set_cons_succ])
            refine wpAnyH_take (i := 6) (oi := { dst := some 33, op := Op.build 28 #[(2, Operand.const (Value.int IntKind.u64 1)), (3, (Operand.tmp 29)), (4, (Operand.tmp 32))], type := _, pos := _, after := _, guard := _ }) (v := .agg C0.toArray) rfl (by kernel_rfl) (by kernel_rfl) (by kernel_rfl) (fun _ _ _ h => h) (yieldsIf_built (by rfl) _ _ rfl _ (Eq.trans (b := Try.prog.built 28 [(2, .int .u64 1), (3, .string TA), (4, .string TX)]) (by kernel_rfl) (unhide HBL))) hh6 ?_
            (try simp only [Act.put, List.setIfInBounds_toArray, List.set_cons_zero, List.set_cons_succ])
            refine wpAnyH_ready (rs := [8]) (by kernel_rfl) (by simp) ?_
            refine AllReadyH.cons (o := { dst := none, op := Op.store 28 (Operand.tmp 7) (Operand.tmp 33), type := _, pos := _, after := _, guard := _ }) rfl (fun K9 hK9 => ?_) AllReadyH.nil
            have hX7 := hB3.kept gg6wa3 (by simp)
            rw [if_pos (by rfl)]
            refine wp_store_row _ _ _ rfl wm1.heap.size C0.toArray rfl rfl _ _ hX7 (unhide HI) (by simpa using unhide HZ) (unhide HO) ?_
            obtain ⟨wf, hwf⟩ : ∃ V, V = wm5.setRow wm1.heap.size C0.toArray := ⟨_, rfl⟩
            have hf : w.grownBy wf none := by rw [hwf]; exact gb_row hh6 _ (Or.inl hh2.size)
            have hBf : Blk wf wm1.heap.size 28 C0 := by rw [hwf]; exact hX7.row C0
            rw [← hwf]
            refine hK9.out _ _ hf (fun _ => ?_)
            clear hK9 K9 hwf
            (try simp only [Act.put])
            refine wpAnyH_done (by kernel_rfl) ?_ _
            refine NoPanic.normal ?_
            exact unhide FIN wf wa3.heap.size WD.heap.size wm1.heap.size hf hBf hh2.size
          · have z9 := conv_str (range_bts (blk_all (hb1.kept gg6wm1 (by simp))) (by rw [unhide HML]; unfold maxLen; omega))
            rw [unhide HML, ← unhide HTX] at z9
            go_simp
            clear z9
            refine hK9.out _ _ hh6 (fun _ => ?_)
            clear hK9 K9
            (try simp only [Act.put, List.setIfInBounds_toArray, List.set_cons_zero, List.set_cons_succ])
            refine wpAnyH_ready (rs := [2]) (by kernel_rfl) (by simp) ?_
            refine AllReadyH.cons (o := { dst := some 29, op := Op.convert 33 9 (Operand.tmp 28), type := _, pos := _, after := _, guard := _ }) rfl (fun K9 hK9 => ?_) AllReadyH.nil
            have z9 := conv_str (range_bts (blk_all (hb5.kept (gb_refl wm5 none) (by simp))) (by rw [unhide HNL]; unfold maxLen; omega))
            rw [unhide HNL, ← unhide HTA] at z9
            go_simp
            clear z9
            refine hK9.out _ _ hh6 (fun _ => ?_)
            clear hK9 K9
            (try simp only [Act.put, List.setIfInBounds_toArray, List.set_cons_zero, List.set_cons_succ])
            refine wpAnyH_take (i := 6) (oi := { dst := some 33, op := Op.build 28 #[(2, Operand.const (Value.int IntKind.u64 1)), (3, (Operand.tmp 29)), (4, (Operand.tmp 32))], type := _, pos := _, after := _, guard := _ }) (v := .agg C0.toArray) rfl (by kernel_rfl) (by kernel_rfl) (by kernel_rfl) (fun _ _ _ h => h) (yieldsIf_built (by rfl) _ _ rfl _ (Eq.trans (b := Try.prog.built 28 [(2, .int .u64 1), (3, .string TA), (4, .string TX)]) (by kernel_rfl) (unhide HBL))) hh6 ?_
            (try simp only [Act.put, List.setIfInBounds_toArray, List.set_cons_zero, List.set_cons_succ])
            refine wpAnyH_ready (rs := [8]) (by kernel_rfl) (by simp) ?_
            refine AllReadyH.cons (o := { dst := none, op := Op.store 28 (Operand.tmp 7) (Operand.tmp 33), type := _, pos := _, after := _, guard := _ }) rfl (fun K9 hK9 => ?_) AllReadyH.nil
            have hX7 := hB3.kept gg6wa3 (by simp)
            rw [if_pos (by rfl)]
            refine wp_store_row _ _ _ rfl wm1.heap.size C0.toArray rfl rfl _ _ hX7 (unhide HI) (by simpa using unhide HZ) (unhide HO) ?_
            obtain ⟨wf, hwf⟩ : ∃ V, V = wm5.setRow wm1.heap.size C0.toArray := ⟨_, rfl⟩
            have hf : w.grownBy wf none := by rw [hwf]; exact gb_row hh6 _ (Or.inl hh2.size)
            have hBf : Blk wf wm1.heap.size 28 C0 := by rw [hwf]; exact hX7.row C0
            rw [← hwf]
            refine hK9.out _ _ hf (fun _ => ?_)
            clear hK9 K9 hwf
            (try simp only [Act.put])
            refine wpAnyH_done (by kernel_rfl) ?_ _
            refine NoPanic.normal ?_
            exact unhide FIN wf wa3.heap.size WD.heap.size wm1.heap.size hf hBf hh2.size
        · have z9 := conv_str (range_bts (blk_all (hb1.kept gg4wm1 (by simp))) (by rw [unhide HML]; unfold maxLen; omega))
          rw [unhide HML, ← unhide HTX] at z9
          go_simp
          clear z9
          refine hK9.out _ _ hh4 (fun _ => ?_)
          clear hK9 K9
          (try simp only [Act.put, List.setIfInBounds_toArray, List.set_cons_zero, List.set_cons_succ])
          refine wpAnyH_ready (rs := [1]) (by kernel_rfl) (by simp) ?_
          refine AllReadyH.cons (o := { dst := some 28, op := Op.makeSlice 33 (Operand.tmp 27) (Operand.tmp 27), type := _, pos := _, after := _, guard := _ }) rfl (fun K9 hK9 => ?_) AllReadyH.nil
          have z9 := unhide HMA wa3
          obtain ⟨wm5, hw5, hb5, gm5⟩ : ∃ W, W = wa3.alloc (.cells VA 5) ∧ Blk W wa3.heap.size 5 (ZA.map bv) ∧ wa3.grownBy W none := by rw [unhide HVA]; exact box_new _ _ _
          go_simp
          rw [← hw5]
          clear z9 hw5
          have gg6wm1 := tn (gg4wm1) gm5
          have gg6wa3 := tn ((gb_refl wa3 none)) gm5
          have hh6 := tn hh4 gm5
          refine hK9.out _ _ hh6 (fun _ => ?_)
          clear hK9 K9
          (try simp only [Act.put, List.setIfInBounds_toArray, List.set_cons_zero, List.set_cons_succ])
          refine wpAnyH_ready (rs := [2]) (by kernel_rfl) (by simp) ?_
          refine AllReadyH.cons (o := { dst := some 29, op := Op.convert 33 9 (Operand.tmp 28), type := _, pos := _, after := _, guard := _ }) rfl (fun K9 hK9 => ?_) AllReadyH.nil
          have z9 := conv_str (range_bts (blk_all (hb5.kept (gb_refl wm5 none) (by simp))) (by rw [unhide HNL]; unfold maxLen; omega))
          rw [unhide HNL, ← unhide HTA] at z9
          go_simp
          clear z9
          refine hK9.out _ _ hh6 (fun _ => ?_)
          clear hK9 K9
          (try simp only [Act.put, List.setIfInBounds_toArray, List.set_cons_zero, List.set_cons_succ])
          refine wpAnyH_take (i := 6) (oi := { dst := some 33, op := Op.build 28 #[(2, Operand.const (Value.int IntKind.u64 1)), (3, (Operand.tmp 29)), (4, (Operand.tmp 32))], type := _, pos := _, after := _, guard := _ }) (v := .agg C0.toArray) rfl (by kernel_rfl) (by kernel_rfl) (by kernel_rfl) (fun _ _ _ h => h) (yieldsIf_built (by rfl) _ _ rfl _ (Eq.trans (b := Try.prog.built 28 [(2, .int .u64 1), (3, .string TA), (4, .string TX)]) (by kernel_rfl) (unhide HBL))) hh6 ?_
          (try simp only [Act.put, List.setIfInBounds_toArray, List.set_cons_zero, List.set_cons_succ])
          refine wpAnyH_ready (rs := [8]) (by kernel_rfl) (by simp) ?_
          refine AllReadyH.cons (o := { dst := none, op := Op.store 28 (Operand.tmp 7) (Operand.tmp 33), type := _, pos := _, after := _, guard := _ }) rfl (fun K9 hK9 => ?_) AllReadyH.nil
          have hX7 := hB3.kept gg6wa3 (by simp)
          rw [if_pos (by rfl)]
          refine wp_store_row _ _ _ rfl wm1.heap.size C0.toArray rfl rfl _ _ hX7 (unhide HI) (by simpa using unhide HZ) (unhide HO) ?_
          obtain ⟨wf, hwf⟩ : ∃ V, V = wm5.setRow wm1.heap.size C0.toArray := ⟨_, rfl⟩
          have hf : w.grownBy wf none := by rw [hwf]; exact gb_row hh6 _ (Or.inl hh2.size)
          have hBf : Blk wf wm1.heap.size 28 C0 := by rw [hwf]; exact hX7.row C0
          rw [← hwf]
          refine hK9.out _ _ hf (fun _ => ?_)
          clear hK9 K9 hwf
          (try simp only [Act.put])
          refine wpAnyH_done (by kernel_rfl) ?_ _
          refine NoPanic.normal ?_
          exact unhide FIN wf wa3.heap.size WD.heap.size wm1.heap.size hf hBf hh2.size
  · as_aux_lemma =>
      obtain ⟨wa1, hw1, hB1, ga1⟩ : ∃ W, W = WD.alloc (.cells ZC 28) ∧ Blk W WD.heap.size 28 ZC.toList ∧ WD.grownBy W none := by simpa using box_new WD 28 ZC.toList
      have z9 := zvC WD
      go_simp
      rw [← hw1]
      clear z9 hw1
      have hh2 := tn h0 ga1
      refine hK9.out _ _ hh2 (fun _ => ?_)
      clear hK9 K9
      (try simp only [Act.put, List.setIfInBounds_toArray, List.set_cons_zero, List.set_cons_succ])
      refine wpAnyH_ready (rs := [1, 4]) (by kernel_rfl) (by simp) ?_
      refine AllReadyH.cons (o := { dst := some 28, op := Op.makeSlice 33 (Operand.tmp 27) (Operand.tmp 27), type := _, pos := _, after := _, guard := _ }) rfl (fun K9 hK9 => ?_) (AllReadyH.cons (o := { dst := some 31, op := Op.makeSlice 33 (Operand.tmp 30) (Operand.tmp 30), type := _, pos := _, after := _, guard := _ }) rfl (fun K9 hK9 => ?_) AllReadyH.nil)
      · have z9 := unhide HMA wa1
        obtain ⟨wm3, hw3, hb3, gm3⟩ : ∃ W, W = wa1.alloc (.cells VA 5) ∧ Blk W wa1.heap.size 5 (ZA.map bv) ∧ wa1.grownBy W none := by rw [unhide HVA]; exact box_new _ _ _
        go_simp
        rw [← hw3]
        clear z9 hw3
        have gg4wa1 := tn ((gb_refl wa1 none)) gm3
        have hh4 := tn hh2 gm3
        refine hK9.out _ _ hh4 (fun _ => ?_)
        clear hK9 K9
        (try simp only [Act.put, List.setIfInBounds_toArray, List.set_cons_zero, List.set_cons_succ])
        refine wpAnyH_ready (rs := [2, 4]) (by kernel_rfl) (by simp) ?_
        refine AllReadyH.cons (o := { dst := some 29, op := Op.convert 33 9 (Operand.tmp 28), type := _, pos := _, after := _, guard := _ }) rfl (fun K9 hK9 => ?_) (AllReadyH.cons (o := { dst := some 31, op := Op.makeSlice 33 (Operand.tmp 30) (Operand.tmp 30), type := _, pos := _, after := _, guard := _ }) rfl (fun K9 hK9 => ?_) AllReadyH.nil)
        · have z9 := conv_str (range_bts (blk_all (hb3.kept (gb_refl wm3 none) (by simp))) (by rw [unhide HNL]; unfold maxLen; omega))
          rw [unhide HNL, ← unhide HTA] at z9
          go_simp
          clear z9
          refine hK9.out _ _ hh4 (fun _ => ?_)
          clear hK9 K9
          (try simp only [Act.put, List.setIfInBounds_toArray, List.set_cons_zero, List.set_cons_succ])
          refine wpAnyH_ready (rs := [4]) (by kernel_rfl) (by simp) ?_
          refine AllReadyH.cons (o := { dst := some 31, op := Op.makeSlice 33 (Operand.tmp 30) (Operand.tmp 30), type := _, pos := _, after := _, guard := _ }) rfl (fun K9 hK9 => ?_) AllReadyH.nil
          have z9 := unhide HMX wm3
          obtain ⟨wm5, hw5, hb5, gm5⟩ : ∃ W, W = wm3.alloc (.cells VX 5) ∧ Blk W wm3.heap.size 5 (ZX.map bv) ∧ wm3.grownBy W none := by rw [unhide HVX]; exact box_new _ _ _
          go_simp
          rw [← hw5]
          clear z9 hw5
          have gg6wa1 := tn (gg4wa1) gm5
          have gg6wm3 := tn ((gb_refl wm3 none)) gm5
          have hh6 := tn hh4 gm5
          refine hK9.out _ _ hh6 (fun _ => ?_)
          clear hK9 K9
          (try simp only [Act.put, List.setIfInBounds_toArray, List.set_cons_zero, List.set_cons_succ])
          refine wpAnyH_ready (rs := [5]) (by kernel_rfl) (by simp) ?_
          refine AllReadyH.cons (o := { dst := some 32, op := Op.convert 33 9 (Operand.tmp 31), type := _, pos := _, after := _, guard := _ }) rfl (fun K9 hK9 => ?_) AllReadyH.nil
          have z9 := conv_str (range_bts (blk_all (hb5.kept (gb_refl wm5 none) (by simp))) (by rw [unhide HML]; unfold maxLen; omega))
          rw [unhide HML, ← unhide HTX] at z9
          go_simp
          clear z9
          refine hK9.out _ _ hh6 (fun _ => ?_)
          clear hK9 K9
          (try simp only [Act.put, List.setIfInBounds_toArray, List.set_cons_zero, List.set_cons_succ])
          refine wpAnyH_take (i := 6) (oi := { dst := some 33, op := Op.build 28 #[(2, Operand.const (Value.int IntKind.u64 1)), (3, (Operand.tmp 29)), (4, (Operand.tmp 32))], type := _, pos := _, after := _, guard := _ }) (v := .agg C0.toArray) rfl (by kernel_rfl) (by kernel_rfl) (by kernel_rfl) (fun _ _ _ h => h) (yieldsIf_built (by rfl) _ _ rfl _ (Eq.trans (b := Try.prog.built 28 [(2, .int .u64 1), (3, .string TA), (4, .string TX)]) (by kernel_rfl) (unhide HBL))) hh6 ?_
          (try simp only [Act.put, List.setIfInBounds_toArray, List.set_cons_zero, List.set_cons_succ])
          refine wpAnyH_ready (rs := [8]) (by kernel_rfl) (by simp) ?_
          refine AllReadyH.cons (o := { dst := none, op := Op.store 28 (Operand.tmp 7) (Operand.tmp 33), type := _, pos := _, after := _, guard := _ }) rfl (fun K9 hK9 => ?_) AllReadyH.nil
          have hX7 := hB1.kept gg6wa1 (by simp)
          rw [if_pos (by rfl)]
          refine wp_store_row _ _ _ rfl WD.heap.size C0.toArray rfl rfl _ _ hX7 (unhide HI) (by simpa using unhide HZ) (unhide HO) ?_
          obtain ⟨wf, hwf⟩ : ∃ V, V = wm5.setRow WD.heap.size C0.toArray := ⟨_, rfl⟩
          have hf : w.grownBy wf none := by rw [hwf]; exact gb_row hh6 _ (Or.inl h0.size)
          have hBf : Blk wf WD.heap.size 28 C0 := by rw [hwf]; exact hX7.row C0
          rw [← hwf]
          refine hK9.out _ _ hf (fun _ => ?_)
          clear hK9 K9 hwf
          (try simp only [Act.put])
          refine wpAnyH_done (by kernel_rfl) ?_ _
          refine NoPanic.normal ?_
          exact unhide FIN wf wa1.heap.size wm3.heap.size WD.heap.size hf hBf h0.size
        · have z9 := unhide HMX wm3
          obtain ⟨wm5, hw5, hb5, gm5⟩ : ∃ W, W = wm3.alloc (.cells VX 5) ∧ Blk W wm3.heap.size 5 (ZX.map bv) ∧ wm3.grownBy W none := by rw [unhide HVX]; exact box_new _ _ _
          go_simp
          rw [← hw5]
          clear z9 hw5
          have gg6wa1 := tn (gg4wa1) gm5
          have gg6wm3 := tn ((gb_refl wm3 none)) gm5
          have hh6 := tn hh4 gm5
          refine hK9.out _ _ hh6 (fun _ => ?_)
          clear hK9 K9
          (try simp only [Act.put, List.setIfInBounds_toArray, List.set_cons_zero, List.set_cons_succ])
          refine wpAnyH_ready (rs := [2, 5]) (by kernel_rfl) (by simp) ?_
          refine AllReadyH.cons (o := { dst := some 29, op := Op.convert 33 9 (Operand.tmp 28), type := _, pos := _, after := _, guard := _ }) rfl (fun K9 hK9 => ?_) (AllReadyH.cons (o := { dst := some 32, op := Op.convert 33 9 (Operand.tmp 31), type := _, pos := _, after := _, guard := _ }) rfl (fun K9 hK9 => ?_) AllReadyH.nil)
          · have z9 := conv_str (range_bts (blk_all (hb3.kept gg6wm3 (by simp))) (by rw [unhide HNL]; unfold maxLen; omega))
            rw [unhide HNL, ← unhide HTA] at z9
            go_simp
            clear z9
            refine hK9.out _ _ hh6 (fun _ => ?_)
            clear hK9 K9
            (try simp only [Act.put, List.setIfInBounds_toArray, List.set_cons_zero, List.set_cons_succ])
            refine wpAnyH_ready (rs := [5]) (by kernel_rfl) (by simp) ?_
            refine AllReadyH.cons (o := { dst := some 32, op := Op.convert 33 9 (Operand.tmp 31), type := _, pos := _, after := _, guard := _ }) rfl (fun K9 hK9 => ?_) AllReadyH.nil
            have z9 := conv_str (range_bts (blk_all (hb5.kept (gb_refl wm5 none) (by simp))) (by rw [unhide HML]; unfold maxLen; omega))
            rw [unhide HML, ← unhide HTX] at z9
            go_simp
            clear z9
            refine hK9.out _ _ hh6 (fun _ => ?_)
            clear hK9 K9
            (try simp only [Act.put, List.setIfInBounds_toArray, List.set_cons_zero, List.set_cons_succ])
            refine wpAnyH_take (i := 6) (oi := { dst := some 33, op := Op.build 28 #[(2, Operand.const (Value.int IntKind.u64 1)), (3, (Operand.tmp 29)), (4, (Operand.tmp 32))], type := _, pos := _, after := _, guard := _ }) (v := .agg C0.toArray) rfl (by kernel_rfl) (by kernel_rfl) (by kernel_rfl) (fun _ _ _ h => h) (yieldsIf_built (by rfl) _ _ rfl _ (Eq.trans (b := Try.prog.built 28 [(2, .int .u64 1), (3, .string TA), (4, .string TX)]) (by kernel_rfl) (unhide HBL))) hh6 ?_
            (try simp only [Act.put, List.setIfInBounds_toArray, List.set_cons_zero, List.set_cons_succ])
            refine wpAnyH_ready (rs := [8]) (by kernel_rfl) (by simp) ?_
            refine AllReadyH.cons (o := { dst := none, op := Op.store 28 (Operand.tmp 7) (Operand.tmp 33), type := _, pos := _, after := _, guard := _ }) rfl (fun K9 hK9 => ?_) AllReadyH.nil
            have hX7 := hB1.kept gg6wa1 (by simp)
            rw [if_pos (by rfl)]
            refine wp_store_row _ _ _ rfl WD.heap.size C0.toArray rfl rfl _ _ hX7 (unhide HI) (by simpa using unhide HZ) (unhide HO) ?_
            obtain ⟨wf, hwf⟩ : ∃ V, V = wm5.setRow WD.heap.size C0.toArray := ⟨_, rfl⟩
            have hf : w.grownBy wf none := by rw [hwf]; exact gb_row hh6 _ (Or.inl h0.size)
            have hBf : Blk wf WD.heap.size 28 C0 := by rw [hwf]; exact hX7.row C0
            rw [← hwf]
            refine hK9.out _ _ hf (fun _ => ?_)
            clear hK9 K9 hwf
            (try simp only [Act.put])
            refine wpAnyH_done (by kernel_rfl) ?_ _
            refine NoPanic.normal ?_
            exact unhide FIN wf wa1.heap.size wm3.heap.size WD.heap.size hf hBf h0.size
          · have z9 := conv_str (range_bts (blk_all (hb5.kept (gb_refl wm5 none) (by simp))) (by rw [unhide HML]; unfold maxLen; omega))
            rw [unhide HML, ← unhide HTX] at z9
            go_simp
            clear z9
            refine hK9.out _ _ hh6 (fun _ => ?_)
            clear hK9 K9
            (try simp only [Act.put, List.setIfInBounds_toArray, List.set_cons_zero, List.set_cons_succ])
            refine wpAnyH_ready (rs := [2]) (by kernel_rfl) (by simp) ?_
            refine AllReadyH.cons (o := { dst := some 29, op := Op.convert 33 9 (Operand.tmp 28), type := _, pos := _, after := _, guard := _ }) rfl (fun K9 hK9 => ?_) AllReadyH.nil
            have z9 := conv_str (range_bts (blk_all (hb3.kept gg6wm3 (by simp))) (by rw [unhide HNL]; unfold maxLen; omega))
            rw [unhide HNL, ← unhide HTA] at z9
            go_simp
            clear z9
            refine hK9.out _ _ hh6 (fun _ => ?_)
            clear hK9 K9
            (try simp only [Act.put, List.setIfInBounds_toArray, List.set_cons_zero, List.set_cons_succ])
            refine wpAnyH_take (i := 6) (oi := { dst := some 33, op := Op.build 28 #[(2, Operand.const (Value.int IntKind.u64 1)), (3, (Operand.tmp 29)), (4, (Operand.tmp 32))], type := _, pos := _, after := _, guard := _ }) (v := .agg C0.toArray) rfl (by kernel_rfl) (by kernel_rfl) (by kernel_rfl) (fun _ _ _ h => h) (yieldsIf_built (by rfl) _ _ rfl _ (Eq.trans (b := Try.prog.built 28 [(2, .int .u64 1), (3, .string TA), (4, .string TX)]) (by kernel_rfl) (unhide HBL))) hh6 ?_
            (try simp only [Act.put, List.setIfInBounds_toArray, List.set_cons_zero, List.set_cons_succ])
            refine wpAnyH_ready (rs := [8]) (by kernel_rfl) (by simp) ?_
            refine AllReadyH.cons (o := { dst := none, op := Op.store 28 (Operand.tmp 7) (Operand.tmp 33), type := _, pos := _, after := _, guard := _ }) rfl (fun K9 hK9 => ?_) AllReadyH.nil
            have hX7 := hB1.kept gg6wa1 (by simp)
            rw [if_pos (by rfl)]
            refine wp_store_row _ _ _ rfl WD.heap.size C0.toArray rfl rfl _ _ hX7 (unhide HI) (by simpa using unhide HZ) (unhide HO) ?_
            obtain ⟨wf, hwf⟩ : ∃ V, V = wm5.setRow WD.heap.size C0.toArray := ⟨_, rfl⟩
            have hf : w.grownBy wf none := by rw [hwf]; exact gb_row hh6 _ (Or.inl h0.size)
            have hBf : Blk wf WD.heap.size 28 C0 := by rw [hwf]; exact hX7.row C0
            rw [← hwf]
            refine hK9.out _ _ hf (fun _ => ?_)
            clear hK9 K9 hwf
            (try simp only [Act.put])
            refine wpAnyH_done (by kernel_rfl) ?_ _
            refine NoPanic.normal ?_
            exact unhide FIN wf wa1.heap.size wm3.heap.size WD.heap.size hf hBf h0.size
      · have z9 := unhide HMX wa1
        obtain ⟨wm3, hw3, hb3, gm3⟩ : ∃ W, W = wa1.alloc (.cells VX 5) ∧ Blk W wa1.heap.size 5 (ZX.map bv) ∧ wa1.grownBy W none := by rw [unhide HVX]; exact box_new _ _ _
        go_simp
        rw [← hw3]
        clear z9 hw3
        have gg4wa1 := tn ((gb_refl wa1 none)) gm3
        have hh4 := tn hh2 gm3
        refine hK9.out _ _ hh4 (fun _ => ?_)
        clear hK9 K9
        (try simp only [Act.put, List.setIfInBounds_toArray, List.set_cons_zero, List.set_cons_succ])
        refine wpAnyH_ready (rs := [1, 5]) (by kernel_rfl) (by simp) ?_
        refine AllReadyH.cons (o := { dst := some 28, op := Op.makeSlice 33 (Operand.tmp 27) (Operand.tmp 27), type := _, pos := _, after := _, guard := _ }) rfl (fun K9 hK9 => ?_) (AllReadyH.cons (o := { dst := some 32, op := Op.convert 33 9 (Operand.tmp 31), type := _, pos := _, after := _, guard := _ }) rfl (fun K9 hK9 => ?_) AllReadyH.nil)
        · have z9 := unhide HMA wm3
          obtain ⟨wm5, hw5, hb5, gm5⟩ : ∃ W, W = wm3.alloc (.cells VA 5) ∧ Blk W wm3.heap.size 5 (ZA.map bv) ∧ wm3.grownBy W none := by rw [unhide HVA]; exact box_new _ _ _
          go_simp
          rw [← hw5]
          clear z9 hw5
          have gg6wa1 := tn (gg4wa1) gm5
          have gg6wm3 := tn ((gb_refl wm3 none)) gm5
          have hh6 := tn hh4 gm5
          refine hK9.out _ _ hh6 (fun _ => ?_)
          clear hK9 K9
          (try simp only [Act.put, List.setIfInBounds_toArray, List.set_cons_zero, List.set_cons_succ])
          refine wpAnyH_ready (rs := [2, 5]) (by kernel_rfl) (by simp) ?_
          refine AllReadyH.cons (o := { dst := some 29, op := Op.convert 33 9 (Operand.tmp 28), type := _, pos := _, after := _, guard := _ }) rfl (fun K9 hK9 => ?_) (AllReadyH.cons (o := { dst := some 32, op := Op.convert 33 9 (Operand.tmp 31), type := _, pos := _, after := _, guard := _ }) rfl (fun K9 hK9 => ?_) AllReadyH.nil)
          · have z9 := conv_str (range_bts (blk_all (hb5.kept (gb_refl wm5 none) (by simp))) (by rw [unhide HNL]; unfold maxLen; omega))
            rw [unhide HNL, ← unhide HTA] at z9
            go_simp
            clear z9
            refine hK9.out _ _ hh6 (fun _ => ?_)
            clear hK9 K9
            (try simp only [Act.put, List.setIfInBounds_toArray, List.set_cons_zero, List.set_cons_succ])
            refine wpAnyH_ready (rs := [5]) (by kernel_rfl) (by simp) ?_
            refine AllReadyH.cons (o := { dst := some 32, op := Op.convert 33 9 (Operand.tmp 31), type := _, pos := _, after := _, guard := _ }) rfl (fun K9 hK9 => ?_) AllReadyH.nil
            have z9 := conv_str (range_bts (blk_all (hb3.kept gg6wm3 (by simp))) (by rw [unhide HML]; unfold maxLen; omega))
            rw [unhide HML, ← unhide HTX] at z9
            go_simp
            clear z9
            refine hK9.out _ _ hh6 (fun _ => ?_)
            clear hK9 K9
            (try simp only [Act.put, List.setIfInBounds_toArray, List.set_cons_zero, List.set_cons_succ])
            refine wpAnyH_take (i := 6) (oi := { dst := some 33, op := Op.build 28 #[(2, Operand.const (Value.int IntKind.u64 1)), (3, (Operand.tmp 29)), (4, (Operand.tmp 32))], type := _, pos := _, after := _, guard := _ }) (v := .agg C0.toArray) rfl (by kernel_rfl) (by kernel_rfl) (by kernel_rfl) (fun _ _ _ h => h) (yieldsIf_built (by rfl) _ _ rfl _ (Eq.trans (b := Try.prog.built 28 [(2, .int .u64 1), (3, .string TA), (4, .string TX)]) (by kernel_rfl) (unhide HBL))) hh6 ?_
            (try simp only [Act.put, List.setIfInBounds_toArray, List.set_cons_zero, List.set_cons_succ])
            refine wpAnyH_ready (rs := [8]) (by kernel_rfl) (by simp) ?_
            refine AllReadyH.cons (o := { dst := none, op := Op.store 28 (Operand.tmp 7) (Operand.tmp 33), type := _, pos := _, after := _, guard := _ }) rfl (fun K9 hK9 => ?_) AllReadyH.nil
            have hX7 := hB1.kept gg6wa1 (by simp)
            rw [if_pos (by rfl)]
            refine wp_store_row _ _ _ rfl WD.heap.size C0.toArray rfl rfl _ _ hX7 (unhide HI) (by simpa using unhide HZ) (unhide HO) ?_
            obtain ⟨wf, hwf⟩ : ∃ V, V = wm5.setRow WD.heap.size C0.toArray := ⟨_, rfl⟩
            have hf : w.grownBy wf none := by rw [hwf]; exact gb_row hh6 _ (Or.inl h0.size)
            have hBf : Blk wf WD.heap.size 28 C0 := by rw [hwf]; exact hX7.row C0
            rw [← hwf]
            refine hK9.out _ _ hf (fun _ => ?_)
            clear hK9 K9 hwf
            (try simp only [Act.put])
            refine wpAnyH_done (by kernel_rfl) ?_ _
            refine NoPanic.normal ?_
            exact unhide FIN wf wm3.heap.size wa1.heap.size WD.heap.size hf hBf h0.size
          · have z9 := conv_str (range_bts (blk_all (hb3.kept gg6wm3 (by simp))) (by rw [unhide HML]; unfold maxLen; omega))
            rw [unhide HML, ← unhide HTX] at z9
            go_simp
            clear z9
            refine hK9.out _ _ hh6 (fun _ => ?_)
            clear hK9 K9
            (try simp only [Act.put, List.setIfInBounds_toArray, List.set_cons_zero, List.set_cons_succ])
            refine wpAnyH_ready (rs := [2]) (by kernel_rfl) (by simp) ?_
            refine AllReadyH.cons (o := { dst := some 29, op := Op.convert 33 9 (Operand.tmp 28), type := _, pos := _, after := _, guard := _ }) rfl (fun K9 hK9 => ?_) AllReadyH.nil
            have z9 := conv_str (range_bts (blk_all (hb5.kept (gb_refl wm5 none) (by simp))) (by rw [unhide HNL]; unfold maxLen; omega))
            rw [unhide HNL, ← unhide HTA] at z9
            go_simp
            clear z9
            refine hK9.out _ _ hh6 (fun _ => ?_)
            clear hK9 K9
            (try simp only [Act.put, List.setIfInBounds_toArray, List.set_cons_zero, List.set_cons_succ])
            refine wpAnyH_take (i := 6) (oi := { dst := some 33, op := Op.build 28 #[(2, Operand.const (Value.int IntKind.u64 1)), (3, (Operand.tmp 29)), (4, (Operand.tmp 32))], type := _, pos := _, after := _, guard := _ }) (v := .agg C0.toArray) rfl (by kernel_rfl) (by kernel_rfl) (by kernel_rfl) (fun _ _ _ h => h) (yieldsIf_built (by rfl) _ _ rfl _ (Eq.trans (b := Try.prog.built 28 [(2, .int .u64 1), (3, .string TA), (4, .string TX)]) (by kernel_rfl) (unhide HBL))) hh6 ?_
            (try simp only [Act.put, List.setIfInBounds_toArray, List.set_cons_zero, List.set_cons_succ])
            refine wpAnyH_ready (rs := [8]) (by kernel_rfl) (by simp) ?_
            refine AllReadyH.cons (o := { dst := none, op := Op.store 28 (Operand.tmp 7) (Operand.tmp 33), type := _, pos := _, after := _, guard := _ }) rfl (fun K9 hK9 => ?_) AllReadyH.nil
            have hX7 := hB1.kept gg6wa1 (by simp)
            rw [if_pos (by rfl)]
            refine wp_store_row _ _ _ rfl WD.heap.size C0.toArray rfl rfl _ _ hX7 (unhide HI) (by simpa using unhide HZ) (unhide HO) ?_
            obtain ⟨wf, hwf⟩ : ∃ V, V = wm5.setRow WD.heap.size C0.toArray := ⟨_, rfl⟩
            have hf : w.grownBy wf none := by rw [hwf]; exact gb_row hh6 _ (Or.inl h0.size)
            have hBf : Blk wf WD.heap.size 28 C0 := by rw [hwf]; exact hX7.row C0
            rw [← hwf]
            refine hK9.out _ _ hf (fun _ => ?_)
            clear hK9 K9 hwf
            (try simp only [Act.put])
            refine wpAnyH_done (by kernel_rfl) ?_ _
            refine NoPanic.normal ?_
            exact unhide FIN wf wm3.heap.size wa1.heap.size WD.heap.size hf hBf h0.size
        · have z9 := conv_str (range_bts (blk_all (hb3.kept (gb_refl wm3 none) (by simp))) (by rw [unhide HML]; unfold maxLen; omega))
          rw [unhide HML, ← unhide HTX] at z9
          go_simp
          clear z9
          refine hK9.out _ _ hh4 (fun _ => ?_)
          clear hK9 K9
          (try simp only [Act.put, List.setIfInBounds_toArray, List.set_cons_zero, List.set_cons_succ])
          refine wpAnyH_ready (rs := [1]) (by kernel_rfl) (by simp) ?_
          refine AllReadyH.cons (o := { dst := some 28, op := Op.makeSlice 33 (Operand.tmp 27) (Operand.tmp 27), type := _, pos := _, after := _, guard := _ }) rfl (fun K9 hK9 => ?_) AllReadyH.nil
          have z9 := unhide HMA wm3
          obtain ⟨wm5, hw5, hb5, gm5⟩ : ∃ W, W = wm3.alloc (.cells VA 5) ∧ Blk W wm3.heap.size 5 (ZA.map bv) ∧ wm3.grownBy W none := by rw [unhide HVA]; exact box_new _ _ _
          go_simp
          rw [← hw5]
          clear z9 hw5
          have gg6wa1 := tn (gg4wa1) gm5
          have gg6wm3 := tn ((gb_refl wm3 none)) gm5
          have hh6 := tn hh4 gm5
          refine hK9.out _ _ hh6 (fun _ => ?_)
          clear hK9 K9
          (try simp only [Act.put, List.setIfInBounds_toArray, List.set_cons_zero, List.set_cons_succ])
          refine wpAnyH_ready (rs := [2]) (by kernel_rfl) (by simp) ?_
          refine AllReadyH.cons (o := { dst := some 29, op := Op.convert 33 9 (Operand.tmp 28), type := _, pos := _, after := _, guard := _ }) rfl (fun K9 hK9 => ?_) AllReadyH.nil
          have z9 := conv_str (range_bts (blk_all (hb5.kept (gb_refl wm5 none) (by simp))) (by rw [unhide HNL]; unfold maxLen; omega))
          rw [unhide HNL, ← unhide HTA] at z9
          go_simp
          clear z9
          refine hK9.out _ _ hh6 (fun _ => ?_)
          clear hK9 K9
          (try simp only [Act.put, List.setIfInBounds_toArray, List.set_cons_zero, List.set_cons_succ])
          refine wpAnyH_take (i := 6) (oi := { dst := some 33, op := Op.build 28 #[(2, Operand.const (Value.int IntKind.u64 1)), (3, (Operand.tmp 29)), (4, (Operand.tmp 32))], type := _, pos := _, after := _, guard := _ }) (v := .agg C0.toArray) rfl (by kernel_rfl) (by kernel_rfl) (by kernel_rfl) (fun _ _ _ h => h) (yieldsIf_built (by rfl) _ _ rfl _ (Eq.trans (b := Try.prog.built 28 [(2, .int .u64 1), (3, .string TA), (4, .string TX)]) (by kernel_rfl) (unhide HBL))) hh6 ?_
          (try simp only [Act.put, List.setIfInBounds_toArray, List.set_cons_zero, List.set_cons_succ])
          refine wpAnyH_ready (rs := [8]) (by kernel_rfl) (by simp) ?_
          refine AllReadyH.cons (o := { dst := none, op := Op.store 28 (Operand.tmp 7) (Operand.tmp 33), type := _, pos := _, after := _, guard := _ }) rfl (fun K9 hK9 => ?_) AllReadyH.nil
          have hX7 := hB1.kept gg6wa1 (by simp)
          rw [if_pos (by rfl)]
          refine wp_store_row _ _ _ rfl WD.heap.size C0.toArray rfl rfl _ _ hX7 (unhide HI) (by simpa using unhide HZ) (unhide HO) ?_
          obtain ⟨wf, hwf⟩ : ∃ V, V = wm5.setRow WD.heap.size C0.toArray := ⟨_, rfl⟩
          have hf : w.grownBy wf none := by rw [hwf]; exact gb_row hh6 _ (Or.inl h0.size)
          have hBf : Blk wf WD.heap.size 28 C0 := by rw [hwf]; exact hX7.row C0
          rw [← hwf]
          refine hK9.out _ _ hf (fun _ => ?_)
          clear hK9 K9 hwf
          (try simp only [Act.put])
          refine wpAnyH_done (by kernel_rfl) ?_ _
          refine NoPanic.normal ?_
          exact unhide FIN wf wm3.heap.size wa1.heap.size WD.heap.size hf hBf h0.size

end Go.Proofs.Ytcemdlcimhoeeaa
