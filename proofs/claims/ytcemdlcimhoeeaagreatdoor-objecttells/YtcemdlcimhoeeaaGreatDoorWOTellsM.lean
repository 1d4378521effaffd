/- ObjectTells answers true of any object, and nothing that was in memory has changed: a note. Condition: sha's tables are laid. -/
import Derived.Test.YtcemdlcimhoeeaaGreatDoorOId
import Derived.Test.YtcemdlcimhoeeaaGreatDoorOEq
import Derived.Test.YtcemdlcimhoeeaaGreatDoorRLnk
import Derived.Test.YtcemdlcimhoeeaaGreatDoorLSame
import Derived.Test.YtcemdlcimhoeeaaGreatDoorMNeq
import Derived.Test.YtcemdlcimhoeeaaGreatDoorMGrd
import Derived.Test.YtcemdlcimhoeeaaGreatDoorROId
namespace Go.Proofs.YtcemdlcimhoeeaaGreatDoor
open Go.RowKit

set_option maxRecDepth 100000 in
set_option maxHeartbeats 16000000 in
theorem tells_M (w : World) (k : Int) (ao : Option Addr) (c : Nat) (d : List UInt8) (hb : Bts w ao c d) (hT : Tabs w) (hd : d.length ≤ 20000) (hy3 : (telM k d).1 = 0) : Calls Tryz.prog 3 #[.agg #[.int .i64 k, .slice ao d.length c]] w fun e w' => e = .returned (.bool true) ∧ w.grownBy w' none := by
  obtain ⟨n, hn⟩ : ∃ n, n = d.length := ⟨_, rfl⟩
  have hn2 : ¬ (20000 : Int) < (n : Int) := by omega
  obtain ⟨W0, hW0, hB0, g0⟩ : ∃ W1, W1 = w.alloc (.cells #[.int .i64 k, .slice ao n c] 24) ∧ Blk W1 w.heap.size 24 [.int .i64 k, .slice ao n c] ∧ w.grownBy W1 none := box_new w _ _
  have c0 := hB0.cell 0
  have c1 := hB0.cell 1
  simp only [List.getElem?_cons_zero, List.getElem?_cons_succ] at c0 c1
  obtain ⟨SD, hSD⟩ : ∃ S, S = str d := ⟨_, rfl⟩
  have kb : ∀ V, W0.grownBy V none → Bts V ao c d := fun V gV => hb.kept (tn g0 gV) (fun _ e => by cases e)
  obtain ⟨tT1, tT2, tT3⟩ := tel_T k d
  obtain ⟨tC1, tC2, tC3, tC4, tC5⟩ := tel_C k d
  obtain ⟨tM1, tM2, tM3, tM4⟩ := tel_M k d
  have hy2 : (telC k d).1 ≠ 0 := fun e => by have h1 := (tC2 e).1; have h2 := (tM2 hy3).1; omega
  obtain ⟨⟨Y1, es⟩, hT1⟩ : ∃ R, R = telT k d := ⟨_, rfl⟩
  obtain ⟨⟨Y2, ch⟩, hC1⟩ : ∃ R, R = telC k d := ⟨_, rfl⟩
  obtain ⟨⟨Z2, rch⟩, hC2⟩ : ∃ R, R = rtC k d := ⟨_, rfl⟩
  obtain ⟨⟨Y3, mk⟩, hM1⟩ : ∃ R, R = telM k d := ⟨_, rfl⟩
  obtain ⟨⟨Z3, rmk⟩, hM2⟩ : ∃ R, R = rtM k d := ⟨_, rfl⟩
  simp only [← hT1, ← hC1, ← hC2, ← hM1, ← hM2] at tT1 tT2 tT3 tC1 tC2 tC3 tC4 tC5 tM1 tM2 tM3 tM4 hy3 hy2
  subst tC1 tM1
  have HOWN : Hid (∀ V, W0.grownBy V none → Calls Tryz.prog 6 #[.agg #[.int .i64 k, .slice ao n c]] V fun e w' => e = .returned (.agg #[.int .i64 k, .string SD]) ∧ V.grownBy w' none) := hide fun V gV => by
    have := lown_any V k ao c d (kb V gV)
    rwa [← hn, ← hSD] at this
  have HTT : Hid (∀ V, W0.grownBy V none → Calls Tryz.prog 7 #[.agg #[.int .i64 k, .slice ao n c]] V fun e w' => ∃ v y, e = .returned (.tuple #[v, .int .i64 y]) ∧ y = Y1 ∧ w'.ownsRow V.heap.size 97 34 v es.length (es.flatMap enC) ∧ V.grownBy w' none) := hide fun V gV => by
    have := treeOf_any V k ao c d (kb V gV) (by omega)
    rwa [← hn, ← hT1] at this
  have HRT : Hid (∀ V : World, Calls Tryz.prog 8 #[.agg #[.int .i64 k, .string SD]] V fun e w' => ∃ v y, e = .returned (.tuple #[v, .int .i64 y]) ∧ y = Y1 ∧ w'.ownsRow V.heap.size 61 3 v es.length (es.flatMap reC) ∧ V.grownBy w' none) := hide fun V => by
    have := rtreeOf_any V k d (by omega)
    rwa [← hSD, tT1] at this
  have HCC : Hid (∀ V, W0.grownBy V none → Calls Tryz.prog 9 #[.agg #[.int .i64 k, .slice ao n c]] V fun e w' => ∃ po pc y, e = .returned (.tuple #[.agg (chC ch po pc).toArray, .int .i64 y]) ∧ y = Z2 ∧ w'.ownsRow V.heap.size 38 32 (.slice po ch.pars.length pc) ch.pars.length (ch.pars.flatMap (·.map bv)) ∧ V.grownBy w' none) := hide fun V gV => by
    have := changeOf_any V k ao c d (kb V gV) (by omega)
    rwa [← hn, ← hC1] at this
  have HRC : Hid (∀ V : World, Calls Tryz.prog 10 #[.agg #[.int .i64 k, .string SD]] V fun e w' => ∃ po pc y, e = .returned (.tuple #[.agg (rcC rch po pc).toArray, .int .i64 y]) ∧ y = Z2 ∧ Stg w' V.heap.size (.slice po rch.pars.length pc) rch.pars ∧ V.grownBy w' none) := hide fun V => by
    have := rchangeOf_any V k d (by omega)
    rwa [← hSD, ← hC2] at this
  have HMM : Hid (∀ V, W0.grownBy V none → Calls Tryz.prog 11 #[.agg #[.int .i64 k, .slice ao n c]] V fun e w' => ∃ y, e = .returned (.tuple #[.agg (mkC mk).toArray, .int .i64 y]) ∧ y = Z3 ∧ V.grownBy w' none) := hide fun V gV => by
    have := markOf_any V k ao c d (kb V gV) (by omega)
    rwa [← hn, ← hM1] at this
  have HRM : Hid (∀ V : World, Calls Tryz.prog 12 #[.agg #[.int .i64 k, .string SD]] V fun e w' => e = .returned (.tuple #[.agg (rmC rmk).toArray, .int .i64 Z3]) ∧ V.grownBy w' none) := hide fun V => by
    have := rmarkOf_any V k d (by omega)
    rwa [← hSD, ← hM2] at this
  obtain ⟨Y, hY⟩ : ∃ y, y = checkL k d := ⟨_, rfl⟩
  obtain ⟨SS, hSS⟩ : ∃ S, S = shaL (putL k d) := ⟨_, rfl⟩
  have HSL : Hid (SS.length = 32) := hide (by rw [hSS]; exact shaL_length _)
  obtain ⟨L, hL⟩ : ∃ L, L = linksL k d := ⟨_, rfl⟩
  have HL32 : Hid (∀ x ∈ L, x.length = 32) := hide (by rw [hL]; exact (links_occ k d).2)
  have HLL : Hid (L.length ≤ 33) := hide (by rw [hL]; exact links_len k d)
  have HID : Hid (∀ V, W0.grownBy V none → Calls Tryz.prog 17 #[.agg #[.int .i64 k, .slice ao n c]] V fun e w' => e = .returned (.agg (SS.map bv).toArray) ∧ V.grownBy w' none) := hide fun V gV => by
    have := oid_any V k ao c d (kb V gV) (by omega) (hT.kept0 (tn g0 gV))
    rwa [← hn, ← hSS] at this
  have HRID : Hid (∀ V : World, Calls Tryz.prog 18 #[.agg #[.int .i64 k, .string SD]] V fun e w' => e = .returned (.string (str SS)) ∧ V.grownBy w' none) := hide fun V => by
    have := rdid_any V k d (by omega)
    rwa [← hSD, ← hSS] at this
  have HCK : Hid (∀ V, W0.grownBy V none → Calls Tryz.prog 4 #[.agg #[.int .i64 k, .slice ao n c]] V fun e w' => e = .returned (.int .i64 Y) ∧ V.grownBy w' none) := hide fun V gV => by
    have := check_any V k ao c d (kb V gV)
    rwa [← hn, ← hY] at this
  have HRCK : Hid (∀ V : World, Calls Tryz.prog 19 #[.agg #[.int .i64 k, .string SD]] V fun e w' => e = .returned (.int .i64 Y) ∧ V.grownBy w' none) := hide fun V => by
    have := rcheck_any V k d (by omega)
    rwa [← hSD, ← hY] at this
  have HLK : Hid (∀ V, W0.grownBy V none → Calls Tryz.prog 21 #[.agg #[.int .i64 k, .slice ao n c]] V fun e w' => ∃ v, e = .returned v ∧ w'.ownsRow V.heap.size 38 32 v L.length (L.flatMap (·.map bv)) ∧ V.grownBy w' none) := hide fun V gV => by
    have := olinks_any V k ao c d (kb V gV)
    rwa [← hn, ← hL] at this
  have HRLK : Hid (∀ V : World, Calls Tryz.prog 22 #[.agg #[.int .i64 k, .string SD]] V fun e w' => ∃ v, e = .returned v ∧ Stg w' V.heap.size v L ∧ V.grownBy w' none) := hide fun V => by
    have := rlinks_any V k d (by omega)
    rwa [← hSD, ← hL] at this
  have HEL := hide tT2
  have HEI := hide tT3
  have HTL := hide tC3
  have HPL := hide tC4
  have HPI := hide tC5
  have HMT := hide tM4
  have hrm := (tM2 hy3).2.symm
  subst hy3
  subst hrm
  have HY2 := hide hy2
  clear tT1 tT2 tT3 tC2 tC3 tC4 tC5 tM2 tM3 tM4 hT1 hC1 hC2 hM1 hM2 hY hSS hL hSD kb hT hd hb
  obtain ⟨ZC, hZC, zvC⟩ := zero_chg
  obtain ⟨ZR, hZR, zvR⟩ := zero_rchg
  obtain ⟨ZM, hZM, zvM⟩ : ∃ Z : Array Value, Z.size = 34 ∧ ∀ w, (zeroValue 51).run Tryz.prog w = .ok (.agg Z) w := ⟨_, rfl, fun w => (by kernel_rfl : (zeroValue 51).run Tryz.prog w = .ok (.agg (mkC zeroMk).toArray) w)⟩
  obtain ⟨ZN, hZN, zvN⟩ := zero_rmrk
  obtain ⟨ZI, hZI, zvI⟩ := zero_id
  have HZC := hide hZC
  have HZR := hide hZR
  have HZM := hide hZM
  have HZN := hide hZN
  have HZI := hide hZI
  have HW0 := hide hW0
  rw [← hn]
  clear hZC hZR hZM hZN hZI hW0 hB0 hn
  go_enter Tryz.func3, Tryz.ntmps3
  go_wp2_with (rw [← unhide HW0])
  refine (unhide HOWN W0 (gb_refl _ _)).mono ?_
  rintro e w1 ⟨rfl, g1⟩
  obtain ⟨W1, hW1, hB1, g1b⟩ : ∃ W, W = w1.alloc (.cells #[.int .i64 k, .string SD] 29) ∧ Blk W w1.heap.size 29 [.int .i64 k, .string SD] ∧ w1.grownBy W none := box_new w1 _ _
  have G1 := tn g1 g1b
  have d0 := G1.cell c0 (by simp)
  have d1 := G1.cell c1 (by simp)
  have q0 := hB1.cell 0
  have q1 := hB1.cell 1
  simp only [List.getElem?_cons_zero, List.getElem?_cons_succ] at q0 q1
  have HW1 := hide hW1
  have HG1 := hide G1
  clear c0 c1 hW1 hB1 g1 g1b G1
  go_wp2_with (rw [← unhide HW1])
  refine (unhide HTT W1 (unhide HG1)).mono ?_
  rintro e w2 ⟨tv, y, rfl, hy9, hO2, g2⟩
  subst y
  obtain ⟨ta, tc, e2, hE2⟩ := Ens.own hO2 (unhide HEI)
  subst e2
  have HE2 := hide hE2
  have HG2 := hide (tn (unhide HG1) g2)
  replace d0 := g2.cell d0 (by simp)
  replace d1 := g2.cell d1 (by simp)
  replace q0 := g2.cell q0 (by simp)
  replace q1 := g2.cell q1 (by simp)
  obtain ⟨m, hm⟩ : ∃ m, m = es.length := ⟨_, rfl⟩
  rw [← hm]
  have HM := hide hm
  clear hO2 hE2 g2 hm
  go_wp2_with fail
  refine (unhide HRT w2).mono ?_
  rintro e w3 ⟨rv, y, rfl, hy9, hO3, g3⟩
  subst y
  obtain ⟨ro, rc, e3, hE3⟩ := Rens.own hO3
  rw [← unhide HM] at e3
  subst e3
  have HE3 := hide hE3
  have HE3b := hide ((unhide HE2).none g3)
  have HG3 := hide (tn (unhide HG2) g3)
  replace d0 := g3.cell d0 (by simp)
  replace d1 := g3.cell d1 (by simp)
  replace q0 := g3.cell q0 (by simp)
  replace q1 := g3.cell q1 (by simp)
  clear hO3 hE3 g3
  go_wp2_with fail
  refine (unhide HCC w3 (unhide HG3)).mono ?_
  rintro e w4 ⟨po, pc, y, rfl, hy9, hO4, g4⟩
  subst y
  obtain ⟨CC, hCC⟩ : ∃ C, C = chC ch po pc := ⟨_, rfl⟩
  rw [← hCC]
  have hCl : CC.length = 36 := by rw [hCC]; exact chC_len _ _ _ (unhide HTL)
  have HI4 : Hid ((Tryz.prog.info? 42).map (·.size) = some CC.toArray.size) := hide (by rw [show CC.toArray.size = 36 by simpa using hCl]; exact info_chg)
  have HS4 : Hid (ZC.size = CC.toArray.size) := hide (by rw [show CC.toArray.size = 36 by simpa using hCl]; exact unhide HZC)
  have HO4 : Hid (CC.toArray.all (·.oneCell') = true) := hide (by rw [hCC]; exact all_oneCell_toArray (chC_one _ _ _))
  obtain ⟨W4, hW4, hB4, g4b⟩ := row_new w4 42 ZC CC
  have G4 := tn g4 g4b
  have hP4 : Ids W4 po pc ch.pars := by
    obtain ⟨a1, b1, z1, z2⟩ := Ids.own (own_id hO4 g4b (fun x e => by cases e)) (unhide HPI)
    injection z1 with z3 z4 z5
    subst z3 z5
    exact z2
  have HP4 := hide hP4
  have HG4 := hide (tn (unhide HG3) G4)
  have HG34 := hide G4
  replace d0 := G4.cell d0 (by simp)
  replace d1 := G4.cell d1 (by simp)
  replace q0 := G4.cell q0 (by simp)
  replace q1 := G4.cell q1 (by simp)
  have HCC2 := hide hCC
  have HCL := hide hCl
  have HB4 := hide hB4
  have HW4 := hide hW4
  clear hO4 g4 g4b G4 hCC hCl hB4 hW4 hP4
  go_wp2_with (refine wpList_store_row rfl 42 _ _ rfl w4.heap.size CC.toArray rfl rfl _ _ (heap_alloc_new _ _) (unhide HI4) (unhide HS4) (unhide HO4) ?_; rw [← unhide HW4])
  refine (unhide HRC W4).mono ?_
  rintro e w5 ⟨rpo, rpc, y, rfl, hy9, hS5, g5⟩
  subst y
  obtain ⟨RC, hRC⟩ : ∃ C, C = rcC rch rpo rpc := ⟨_, rfl⟩
  rw [← hRC]
  have hRl : RC.toArray.size = 5 := by rw [hRC]; rfl
  have HI5 : Hid ((Tryz.prog.info? 47).map (·.size) = some RC.toArray.size) := hide (by rw [hRl]; exact info_rchg3)
  have HS5 : Hid (ZR.size = RC.toArray.size) := hide (by rw [hRl]; exact unhide HZR)
  have HO5 : Hid (RC.toArray.all (·.oneCell') = true) := hide (by rw [hRC]; exact all_oneCell_toArray (rcC_one _ _ _))
  obtain ⟨W5, hW5, hB5, g5b⟩ := row_new w5 47 ZR RC
  have G5 := tn g5 g5b
  have HST5 : Hid (Stl W5 W4.heap.size rpo rpc rch.pars) := hide (by
    have z0 := hS5.kept g5b
    obtain ⟨a1, b1, z1, z2⟩ := z0.open
    injection z1 with z3 z4 z5
    subst z3 z5
    exact z2)
  have HG5 := hide (tn (unhide HG4) G5)
  have HG35 := hide (tn (unhide HG34) G5)
  have HG45 := hide G5
  replace d0 := G5.cell d0 (by simp)
  replace d1 := G5.cell d1 (by simp)
  replace q0 := G5.cell q0 (by simp)
  replace q1 := G5.cell q1 (by simp)
  have HRC2 := hide hRC
  have HB5 := hide hB5
  have HW5 := hide hW5
  clear hS5 g5 g5b G5 hRC hRl hB5 hW5
  go_wp2_with (refine wpList_store_row rfl 47 _ _ rfl w5.heap.size RC.toArray rfl rfl _ _ (heap_alloc_new _ _) (unhide HI5) (unhide HS5) (unhide HO5) ?_; rw [← unhide HW5])
  refine (unhide HMM W5 (unhide HG5)).mono ?_
  rintro e w6 ⟨y, rfl, hy9, g6⟩
  subst y
  obtain ⟨MC, hMC⟩ : ∃ C, C = mkC mk := ⟨_, rfl⟩
  rw [← hMC]
  have hMl : MC.length = 34 := by rw [hMC]; exact mkC_len _ (unhide HMT)
  have HI6 : Hid ((Tryz.prog.info? 51).map (·.size) = some MC.toArray.size) := hide (by rw [show MC.toArray.size = 34 by simpa using hMl]; exact info_mrk)
  have HS6 : Hid (ZM.size = MC.toArray.size) := hide (by rw [show MC.toArray.size = 34 by simpa using hMl]; exact unhide HZM)
  have HO6 : Hid (MC.toArray.all (·.oneCell') = true) := hide (by rw [hMC]; exact all_oneCell_toArray (mkC_one _))
  have HJ6 : Hid ((Tryz.prog.info? 51).map (·.size) = some MC.length) := hide (by rw [hMl]; exact info_mrk)
  obtain ⟨W6, hW6, hB6, g6b⟩ := row_new w6 51 ZM MC
  have G6 := tn g6 g6b
  have HG6 := hide (tn (unhide HG5) G6)
  have HG36 := hide (tn (unhide HG35) G6)
  have HG46 := hide (tn (unhide HG45) G6)
  have HG56 := hide G6
  replace d0 := G6.cell d0 (by simp)
  replace d1 := G6.cell d1 (by simp)
  replace q0 := G6.cell q0 (by simp)
  replace q1 := G6.cell q1 (by simp)
  have HMC := hide hMC
  have HB6 := hide hB6
  have HW6 := hide hW6
  clear g6 g6b G6 hMC hMl hB6 hW6
  go_wp2_with (refine wpList_store_row rfl 51 _ _ rfl w6.heap.size MC.toArray rfl rfl _ _ (heap_alloc_new _ _) (unhide HI6) (unhide HS6) (unhide HO6) ?_; rw [← unhide HW6])
  refine (unhide HRM W6).mono ?_
  rintro e w7 ⟨rfl, g7⟩
  obtain ⟨RM, hRM⟩ : ∃ C, C = rmC mk := ⟨_, rfl⟩
  rw [← hRM]
  have hNl : RM.toArray.size = 3 := by rw [hRM]; rfl
  have HI7 : Hid ((Tryz.prog.info? 55).map (·.size) = some RM.toArray.size) := hide (by rw [hNl]; exact info_rmrk3)
  have HJ7 : Hid ((Tryz.prog.info? 55).map (·.size) = some RM.length) := hide (by rw [show RM.length = 3 by simpa using hNl]; exact info_rmrk3)
  have HS7 : Hid (ZN.size = RM.toArray.size) := hide (by rw [hNl]; exact unhide HZN)
  have HO7 : Hid (RM.toArray.all (·.oneCell') = true) := hide (by rw [hRM]; exact all_oneCell_toArray (rmC_one _))
  obtain ⟨W7, hW7, hB7, g7b⟩ := row_new w7 55 ZN RM
  have G7 := tn g7 g7b
  have HG7 := hide (tn (unhide HG6) G7)
  have HG37 := hide (tn (unhide HG36) G7)
  have HG47 := hide (tn (unhide HG46) G7)
  have HG57 := hide (tn (unhide HG56) G7)
  replace d0 := G7.cell d0 (by simp)
  replace d1 := G7.cell d1 (by simp)
  replace q0 := G7.cell q0 (by simp)
  replace q1 := G7.cell q1 (by simp)
  have hrM := blk_all ((unhide HB6).kept G7 (by simp))
  have hrN := blk_all hB7
  have HRM2 := hide hRM
  have HW7 := hide hW7
  have h0 : W7.grownBy W7.drew none := gb_drew (gb_refl _ _)
  clear g7 g7b G7 hRM hNl hB7 hW7
  go_upto_region 10 with (refine wpList_store_row rfl 55 _ _ rfl w7.heap.size RM.toArray rfl rfl _ _ (heap_alloc_new _ _) (unhide HI7) (unhide HS7) (unhide HO7) ?_; rw [← unhide HW7])
  have cmk : ∀ V : World, Calls Tryz.prog 13 #[.agg MC.toArray] V fun e w' => e = .returned (.agg (rmC mk).toArray) ∧ V.grownBy w' none := fun V => by
    rw [unhide HMC]; exact lmark_any V mk (unhide HMT)
  have hq1 : ∀ V : World, (binOp .neq 55 (.agg (rmC mk).toArray) (.agg RM.toArray)).run Tryz.prog V = .ok (.bool false) V := fun V => by
    rw [unhide HRM2]
    exact (neq_rmrk V _ _ _ _ _ _).trans (by simp)
  refine wp_region_noPanic ?_
  refine wp_region_held_drew (S := fun V => W7.grownBy V none) (by kernel_rfl) h0 (fun _ => ?_)
  obtain ⟨WD, hWD⟩ : ∃ V, V = W7.drew := ⟨_, rfl⟩
  rw [← hWD]
  rw [← hWD] at h0
  clear hWD
  refine wpAnyH_take (i := 0) (oi := { dst := some 62, op := Op.move (Operand.tmp 5), type := _, pos := _, after := _, guard := _ }) (v := .int .i64 Y1) rfl (by kernel_rfl) (by kernel_rfl) (by kernel_rfl) (fun _ _ _ h => h) (Or.inl ⟨by rfl, fun V (hV : W7.grownBy V none) => by go_simp⟩) h0 ?_
  (try simp only [Act.put, List.setIfInBounds_toArray, List.set_cons_zero, List.set_cons_succ])
  refine wpAnyH_take (i := 1) (oi := { dst := some 63, op := Op.move (Operand.tmp 7), type := _, pos := _, after := _, guard := _ }) (v := .int .i64 Y1) rfl (by kernel_rfl) (by kernel_rfl) (by kernel_rfl) (fun _ _ _ h => h) (Or.inl ⟨by rfl, fun V (hV : W7.grownBy V none) => by go_simp⟩) h0 ?_
  (try simp only [Act.put, List.setIfInBounds_toArray, List.set_cons_zero, List.set_cons_succ])
  refine wpAnyH_take (i := 2) (oi := { dst := some 64, op := Op.binOp BinOp.neq 3 (Operand.tmp 62) (Operand.tmp 63) 3, type := _, pos := _, after := _, guard := _ }) (v := .bool false) rfl (by kernel_rfl) (by kernel_rfl) (by kernel_rfl) (fun _ _ _ h => h) (Or.inl ⟨by rfl, fun V (hV : W7.grownBy V none) => by go_simp⟩) h0 ?_
  (try simp only [Act.put, List.setIfInBounds_toArray, List.set_cons_zero, List.set_cons_succ])
  refine wpAnyH_take (i := 3) (oi := { dst := some 65, op := Op.move (Operand.tmp 64), type := _, pos := _, after := _, guard := _ }) (v := .bool false) rfl (by kernel_rfl) (by kernel_rfl) (by kernel_rfl) (fun _ _ _ h => h) (Or.inl ⟨by rfl, fun V (hV : W7.grownBy V none) => by go_simp⟩) h0 ?_
  (try simp only [Act.put, List.setIfInBounds_toArray, List.set_cons_zero, List.set_cons_succ])
  refine wpAnyH_take (i := 4) (oi := { dst := some 66, op := Op.move (Operand.tmp 9), type := _, pos := _, after := _, guard := _ }) (v := .int .i64 Z2) rfl (by kernel_rfl) (by kernel_rfl) (by kernel_rfl) (fun _ _ _ h => h) (Or.inl ⟨by rfl, fun V (hV : W7.grownBy V none) => by go_simp⟩) h0 ?_
  (try simp only [Act.put, List.setIfInBounds_toArray, List.set_cons_zero, List.set_cons_succ])
  refine wpAnyH_take (i := 5) (oi := { dst := some 67, op := Op.move (Operand.tmp 11), type := _, pos := _, after := _, guard := _ }) (v := .int .i64 Z2) rfl (by kernel_rfl) (by kernel_rfl) (by kernel_rfl) (fun _ _ _ h => h) (Or.inl ⟨by rfl, fun V (hV : W7.grownBy V none) => by go_simp⟩) h0 ?_
  (try simp only [Act.put, List.setIfInBounds_toArray, List.set_cons_zero, List.set_cons_succ])
  refine wpAnyH_take (i := 6) (oi := { dst := some 68, op := Op.binOp BinOp.neq 3 (Operand.tmp 66) (Operand.tmp 67) 3, type := _, pos := _, after := _, guard := _ }) (v := .bool false) rfl (by kernel_rfl) (by kernel_rfl) (by kernel_rfl) (fun _ _ _ h => h) (Or.inl ⟨by rfl, fun V (hV : W7.grownBy V none) => by go_simp⟩) h0 ?_
  (try simp only [Act.put, List.setIfInBounds_toArray, List.set_cons_zero, List.set_cons_succ])
  refine wpAnyH_take (i := 7) (oi := { dst := some 69, op := Op.pick (Operand.tmp 65) (Operand.const (Value.bool true)) (Operand.tmp 68), type := _, pos := _, after := _, guard := _ }) (v := .bool false) rfl (by kernel_rfl) (by kernel_rfl) (by kernel_rfl) (fun _ _ _ h => h) (Or.inl ⟨by rfl, fun V (hV : W7.grownBy V none) => by go_simp⟩) h0 ?_
  (try simp only [Act.put, List.setIfInBounds_toArray, List.set_cons_zero, List.set_cons_succ])
  refine wpAnyH_take (i := 8) (oi := { dst := some 70, op := Op.move (Operand.tmp 69), type := _, pos := _, after := _, guard := _ }) (v := .bool false) rfl (by kernel_rfl) (by kernel_rfl) (by kernel_rfl) (fun _ _ _ h => h) (Or.inl ⟨by rfl, fun V (hV : W7.grownBy V none) => by go_simp⟩) h0 ?_
  (try simp only [Act.put, List.setIfInBounds_toArray, List.set_cons_zero, List.set_cons_succ])
  refine wpAnyH_take (i := 9) (oi := { dst := some 71, op := Op.move (Operand.tmp 13), type := _, pos := _, after := _, guard := _ }) (v := .int .i64 0) rfl (by kernel_rfl) (by kernel_rfl) (by kernel_rfl) (fun _ _ _ h => h) (Or.inl ⟨by rfl, fun V (hV : W7.grownBy V none) => by go_simp⟩) h0 ?_
  (try simp only [Act.put, List.setIfInBounds_toArray, List.set_cons_zero, List.set_cons_succ])
  refine wpAnyH_take (i := 10) (oi := { dst := some 72, op := Op.move (Operand.tmp 15), type := _, pos := _, after := _, guard := _ }) (v := .int .i64 0) rfl (by kernel_rfl) (by kernel_rfl) (by kernel_rfl) (fun _ _ _ h => h) (Or.inl ⟨by rfl, fun V (hV : W7.grownBy V none) => by go_simp⟩) h0 ?_
  (try simp only [Act.put, List.setIfInBounds_toArray, List.set_cons_zero, List.set_cons_succ])
  refine wpAnyH_take (i := 11) (oi := { dst := some 73, op := Op.binOp BinOp.neq 3 (Operand.tmp 71) (Operand.tmp 72) 3, type := _, pos := _, after := _, guard := _ }) (v := .bool false) rfl (by kernel_rfl) (by kernel_rfl) (by kernel_rfl) (fun _ _ _ h => h) (Or.inl ⟨by rfl, fun V (hV : W7.grownBy V none) => by go_simp⟩) h0 ?_
  (try simp only [Act.put, List.setIfInBounds_toArray, List.set_cons_zero, List.set_cons_succ])
  refine wpAnyH_take (i := 12) (oi := { dst := some 74, op := Op.pick (Operand.tmp 70) (Operand.const (Value.bool true)) (Operand.tmp 73), type := _, pos := _, after := _, guard := _ }) (v := .bool false) rfl (by kernel_rfl) (by kernel_rfl) (by kernel_rfl) (fun _ _ _ h => h) (Or.inl ⟨by rfl, fun V (hV : W7.grownBy V none) => by go_simp⟩) h0 ?_
  (try simp only [Act.put, List.setIfInBounds_toArray, List.set_cons_zero, List.set_cons_succ])
  refine wpAnyH_take (i := 13) (oi := { dst := some 75, op := Op.move (Operand.tmp 74), type := _, pos := _, after := _, guard := _ }) (v := .bool false) rfl (by kernel_rfl) (by kernel_rfl) (by kernel_rfl) (fun _ _ _ h => h) (Or.inl ⟨by rfl, fun V (hV : W7.grownBy V none) => by go_simp⟩) h0 ?_
  (try simp only [Act.put, List.setIfInBounds_toArray, List.set_cons_zero, List.set_cons_succ])
  refine wpAnyH_take (i := 14) (oi := { dst := some 76, op := Op.move (Operand.tmp 4), type := _, pos := _, after := _, guard := _ }) (v := .slice ta m tc) rfl (by kernel_rfl) (by kernel_rfl) (by kernel_rfl) (fun _ _ _ h => h) (Or.inl ⟨by rfl, fun V (hV : W7.grownBy V none) => by go_simp⟩) h0 ?_
  (try simp only [Act.put, List.setIfInBounds_toArray, List.set_cons_zero, List.set_cons_succ])
  refine wpAnyH_take (i := 16) (oi := { dst := some 78, op := Op.move (Operand.tmp 6), type := _, pos := _, after := _, guard := _ }) (v := .slice ro m rc) rfl (by kernel_rfl) (by kernel_rfl) (by kernel_rfl) (fun _ _ _ h => h) (Or.inl ⟨by rfl, fun V (hV : W7.grownBy V none) => by go_simp⟩) h0 ?_
  (try simp only [Act.put, List.setIfInBounds_toArray, List.set_cons_zero, List.set_cons_succ])
  refine wpAnyH_take (i := 15) (oi := { dst := some 77, op := Op.call { callee := Callee.builtin Builtin.len, args := #[(Operand.tmp 76)], argTypes := #[31] }, type := _, pos := _, after := _, guard := _ }) (v := .int .i64 (m : Int)) rfl (by kernel_rfl) (by kernel_rfl) (by kernel_rfl) (fun _ _ _ h => h) (Or.inl ⟨by rfl, fun V (hV : W7.grownBy V none) => by go_simp⟩) h0 ?_
  (try simp only [Act.put, List.setIfInBounds_toArray, List.set_cons_zero, List.set_cons_succ])
  refine wpAnyH_take (i := 17) (oi := { dst := some 79, op := Op.call { callee := Callee.builtin Builtin.len, args := #[(Operand.tmp 78)], argTypes := #[34] }, type := _, pos := _, after := _, guard := _ }) (v := .int .i64 (m : Int)) rfl (by kernel_rfl) (by kernel_rfl) (by kernel_rfl) (fun _ _ _ h => h) (Or.inl ⟨by rfl, fun V (hV : W7.grownBy V none) => by go_simp⟩) h0 ?_
  (try simp only [Act.put, List.setIfInBounds_toArray, List.set_cons_zero, List.set_cons_succ])
  refine wpAnyH_take (i := 18) (oi := { dst := some 80, op := Op.binOp BinOp.neq 3 (Operand.tmp 77) (Operand.tmp 79) 3, type := _, pos := _, after := _, guard := _ }) (v := .bool false) rfl (by kernel_rfl) (by kernel_rfl) (by kernel_rfl) (fun _ _ _ h => h) (Or.inl ⟨by rfl, fun V (hV : W7.grownBy V none) => by go_simp⟩) h0 ?_
  (try simp only [Act.put, List.setIfInBounds_toArray, List.set_cons_zero, List.set_cons_succ])
  refine wpAnyH_take (i := 19) (oi := { dst := some 81, op := Op.pick (Operand.tmp 75) (Operand.const (Value.bool true)) (Operand.tmp 80), type := _, pos := _, after := _, guard := _ }) (v := .bool false) rfl (by kernel_rfl) (by kernel_rfl) (by kernel_rfl) (fun _ _ _ h => h) (Or.inl ⟨by rfl, fun V (hV : W7.grownBy V none) => by go_simp⟩) h0 ?_
  (try simp only [Act.put, List.setIfInBounds_toArray, List.set_cons_zero, List.set_cons_succ])
  refine wpAnyH_take (i := 20) (oi := { dst := some 82, op := Op.move (Operand.tmp 81), type := _, pos := _, after := _, guard := _ }) (v := .bool false) rfl (by kernel_rfl) (by kernel_rfl) (by kernel_rfl) (fun _ _ _ h => h) (Or.inl ⟨by rfl, fun V (hV : W7.grownBy V none) => by go_simp⟩) h0 ?_
  (try simp only [Act.put, List.setIfInBounds_toArray, List.set_cons_zero, List.set_cons_succ])
  refine wpAnyH_take (i := 21) (oi := { dst := some 83, op := Op.load 51 (Operand.tmp 12), type := _, pos := _, after := _, guard := _ }) (v := .agg MC.toArray) rfl (by kernel_rfl) (by kernel_rfl) (by kernel_rfl) (fun _ _ _ h => h) (yieldsIf_load_mid (by rfl) _ _ rfl _ _ rfl MC _ (fun V hV => range_kept hrM hV (by simp)) Tryz.underlying51 rfl (unhide HJ6)) h0 ?_
  (try simp only [Act.put, List.setIfInBounds_toArray, List.set_cons_zero, List.set_cons_succ])
  refine wpAnyH_take (i := 23) (oi := { dst := some 85, op := Op.load 55 (Operand.tmp 14), type := _, pos := _, after := _, guard := _ }) (v := .agg RM.toArray) rfl (by kernel_rfl) (by kernel_rfl) (by kernel_rfl) (fun _ _ _ h => h) (yieldsIf_load_mid (by rfl) _ _ rfl _ _ rfl RM _ (fun V hV => range_kept hrN hV (by simp)) Tryz.underlying55 rfl (unhide HJ7)) h0 ?_
  (try simp only [Act.put, List.setIfInBounds_toArray, List.set_cons_zero, List.set_cons_succ])
  refine wpAnyH_ready (rs := [22]) (by kernel_rfl) (by simp) ?_
  refine AllReadyH.cons (o := { dst := some 84, op := Op.call { callee := Callee.value (Operand.func 13), args := #[(Operand.tmp 83)], argTypes := #[51] }, type := _, pos := _, after := _, guard := _ }) rfl (fun K9 hK9 => ?_) AllReadyH.nil
  go_simp
  go_at_call 13
  refine (cmk WD).mono ?_
  rintro e w8 ⟨rfl, g8a⟩
  go_wp2_with fail
  have h8 := tn h0 g8a
  refine hK9.out _ _ h8 (fun _ => ?_)
  clear hK9 K9
  (try simp only [Act.put, List.setIfInBounds_toArray, List.set_cons_zero, List.set_cons_succ])
  refine wpAnyH_take (i := 24) (oi := { dst := some 86, op := Op.binOp BinOp.neq 55 (Operand.tmp 84) (Operand.tmp 85) 55, type := _, pos := _, after := _, guard := _ }) (v := .bool false) rfl (by kernel_rfl) (by kernel_rfl) (by kernel_rfl) (fun _ _ _ h => h) (yieldsIf_ne (by rfl) _ _ _ _ rfl _ _ _ rfl rfl guard_rmrk hq1) h8 ?_
  (try simp only [Act.put, List.setIfInBounds_toArray, List.set_cons_zero, List.set_cons_succ])
  refine wpAnyH_take (i := 25) (oi := { dst := some 87, op := Op.move (Operand.tmp 86), type := _, pos := _, after := _, guard := _ }) (v := .bool false) rfl (by kernel_rfl) (by kernel_rfl) (by kernel_rfl) (fun _ _ _ h => h) (Or.inl ⟨by rfl, fun V (hV : W7.grownBy V none) => by go_simp⟩) h8 ?_
  (try simp only [Act.put, List.setIfInBounds_toArray, List.set_cons_zero, List.set_cons_succ])
  refine wpAnyH_take (i := 26) (oi := { dst := some 88, op := Op.move (Operand.tmp 15), type := _, pos := _, after := _, guard := _ }) (v := undef) rfl (by kernel_rfl) (by kernel_rfl) (by kernel_rfl) (fun _ _ _ h => h) (Or.inr ⟨by rfl, rfl⟩) h8 ?_
  (try simp only [Act.put, List.setIfInBounds_toArray, List.set_cons_zero, List.set_cons_succ])
  refine wpAnyH_take (i := 27) (oi := { dst := some 89, op := Op.binOp BinOp.eql 3 (Operand.tmp 88) (Operand.const (Value.int IntKind.i64 0)) 3, type := _, pos := _, after := _, guard := _ }) (v := undef) rfl (by kernel_rfl) (by kernel_rfl) (by kernel_rfl) (fun _ _ _ h => h) (Or.inr ⟨by rfl, rfl⟩) h8 ?_
  (try simp only [Act.put, List.setIfInBounds_toArray, List.set_cons_zero, List.set_cons_succ])
  refine wpAnyH_take (i := 28) (oi := { dst := some 90, op := Op.pick (Operand.tmp 87) (Operand.tmp 89) (Operand.const (Value.bool false)), type := _, pos := _, after := _, guard := _ }) (v := .bool false) rfl (by kernel_rfl) (by kernel_rfl) (by kernel_rfl) (fun _ _ _ h => h) (Or.inl ⟨by rfl, fun V (hV : W7.grownBy V none) => by go_simp⟩) h8 ?_
  (try simp only [Act.put, List.setIfInBounds_toArray, List.set_cons_zero, List.set_cons_succ])
  refine wpAnyH_take (i := 29) (oi := { dst := some 91, op := Op.pick (Operand.tmp 82) (Operand.const (Value.bool true)) (Operand.tmp 90), type := _, pos := _, after := _, guard := _ }) (v := .bool false) rfl (by kernel_rfl) (by kernel_rfl) (by kernel_rfl) (fun _ _ _ h => h) (Or.inl ⟨by rfl, fun V (hV : W7.grownBy V none) => by go_simp⟩) h8 ?_
  (try simp only [Act.put, List.setIfInBounds_toArray, List.set_cons_zero, List.set_cons_succ])
  refine wpAnyH_take (i := 30) (oi := { dst := some 92, op := Op.move (Operand.tmp 91), type := _, pos := _, after := _, guard := _ }) (v := .bool false) rfl (by kernel_rfl) (by kernel_rfl) (by kernel_rfl) (fun _ _ _ h => h) (Or.inl ⟨by rfl, fun V (hV : W7.grownBy V none) => by go_simp⟩) h8 ?_
  (try simp only [Act.put, List.setIfInBounds_toArray, List.set_cons_zero, List.set_cons_succ])
  refine wpAnyH_take (i := 31) (oi := { dst := some 93, op := Op.move (Operand.tmp 15), type := _, pos := _, after := _, guard := _ }) (v := .int .i64 0) rfl (by kernel_rfl) (by kernel_rfl) (by kernel_rfl) (fun _ _ _ h => h) (Or.inl ⟨by rfl, fun V (hV : W7.grownBy V none) => by go_simp⟩) h8 ?_
  (try simp only [Act.put, List.setIfInBounds_toArray, List.set_cons_zero, List.set_cons_succ])
  refine wpAnyH_take (i := 32) (oi := { dst := some 94, op := Op.binOp BinOp.neq 3 (Operand.tmp 93) (Operand.const (Value.int IntKind.i64 0)) 3, type := _, pos := _, after := _, guard := _ }) (v := .bool false) rfl (by kernel_rfl) (by kernel_rfl) (by kernel_rfl) (fun _ _ _ h => h) (Or.inl ⟨by rfl, fun V (hV : W7.grownBy V none) => by go_simp⟩) h8 ?_
  (try simp only [Act.put, List.setIfInBounds_toArray, List.set_cons_zero, List.set_cons_succ])
  refine wpAnyH_take (i := 33) (oi := { dst := some 95, op := Op.move (Operand.tmp 94), type := _, pos := _, after := _, guard := _ }) (v := .bool false) rfl (by kernel_rfl) (by kernel_rfl) (by kernel_rfl) (fun _ _ _ h => h) (Or.inl ⟨by rfl, fun V (hV : W7.grownBy V none) => by go_simp⟩) h8 ?_
  (try simp only [Act.put, List.setIfInBounds_toArray, List.set_cons_zero, List.set_cons_succ])
  refine wpAnyH_take (i := 34) (oi := { dst := some 96, op := Op.load 51 (Operand.tmp 12), type := _, pos := _, after := _, guard := _ }) (v := undef) rfl (by kernel_rfl) (by kernel_rfl) (by kernel_rfl) (fun _ _ _ h => h) (Or.inr ⟨by rfl, rfl⟩) h8 ?_
  (try simp only [Act.put, List.setIfInBounds_toArray, List.set_cons_zero, List.set_cons_succ])
  refine wpAnyH_take (i := 35) (oi := { dst := some 97, op := Op.build 51 #[], type := _, pos := _, after := _, guard := _ }) (v := undef) rfl (by kernel_rfl) (by kernel_rfl) (by kernel_rfl) (fun _ _ _ h => h) (Or.inr ⟨by rfl, rfl⟩) h8 ?_
  (try simp only [Act.put, List.setIfInBounds_toArray, List.set_cons_zero, List.set_cons_succ])
  refine wpAnyH_take (i := 36) (oi := { dst := some 98, op := Op.binOp BinOp.neq 51 (Operand.tmp 96) (Operand.tmp 97) 51, type := _, pos := _, after := _, guard := _ }) (v := undef) rfl (by kernel_rfl) (by kernel_rfl) (by kernel_rfl) (fun _ _ _ h => h) (Or.inr ⟨by rfl, rfl⟩) h8 ?_
  (try simp only [Act.put, List.setIfInBounds_toArray, List.set_cons_zero, List.set_cons_succ])
  refine wpAnyH_take (i := 37) (oi := { dst := some 99, op := Op.pick (Operand.tmp 95) (Operand.tmp 98) (Operand.const (Value.bool false)), type := _, pos := _, after := _, guard := _ }) (v := .bool false) rfl (by kernel_rfl) (by kernel_rfl) (by kernel_rfl) (fun _ _ _ h => h) (Or.inl ⟨by rfl, fun V (hV : W7.grownBy V none) => by go_simp⟩) h8 ?_
  (try simp only [Act.put, List.setIfInBounds_toArray, List.set_cons_zero, List.set_cons_succ])
  refine wpAnyH_take (i := 38) (oi := { dst := some 100, op := Op.pick (Operand.tmp 92) (Operand.const (Value.bool true)) (Operand.tmp 99), type := _, pos := _, after := _, guard := _ }) (v := .bool false) rfl (by kernel_rfl) (by kernel_rfl) (by kernel_rfl) (fun _ _ _ h => h) (Or.inl ⟨by rfl, fun V (hV : W7.grownBy V none) => by go_simp⟩) h8 ?_
  (try simp only [Act.put, List.setIfInBounds_toArray, List.set_cons_zero, List.set_cons_succ])
  refine wpAnyH_done (by kernel_rfl) ?_ _
  refine NoPanic.normal ?_
  have HG8 := hide (tn (unhide HG7) h8)
  replace d0 := h8.cell d0 (by simp)
  replace d1 := h8.cell d1 (by simp)
  replace q0 := h8.cell q0 (by simp)
  replace q1 := h8.cell q1 (by simp)
  have HE8 := hide ((unhide HE3b).none (tn (unhide HG37) h8))
  have HR8 := hide ((unhide HE3).none (tn (unhide HG37) h8))
  have HP8 := hide ((unhide HP4).none (tn (unhide HG47) h8))
  have HT8 := hide ((unhide HST5).kept (tn (unhide HG57) h8))
  have HB8 := hide ((unhide HB4).kept (tn (unhide HG47) h8) (by simp))
  have HC8 := hide ((unhide HB5).kept (tn (unhide HG57) h8) (by simp))
  have cle : Calls Tryz.prog 14 #[.slice ta m tc] w8 fun e w' => ∃ v, e = .returned v ∧ w'.ownsRow w8.heap.size 61 3 v es.length (es.flatMap reC) ∧ w8.grownBy w' none := by
    rw [unhide HM]; exact lentries_any w8 ta tc es (unhide HE8) (by have := unhide HEL; omega)
  have hmb : m ≤ 32 := by have h1 := unhide HEL; have h2 := unhide HM; omega
  clear h0 h8 g8a hrM hrN cmk hq1
  (try clear hq2)
  go_wp2_with fail
  refine cle.mono ?_
  rintro e w9 ⟨ov, rfl, hO9, g9⟩
  obtain ⟨oo, oc, e9, hE9⟩ := Rens.own hO9
  rw [← unhide HM] at e9
  subst e9
  have HE9 := hide hE9
  have HR9 := hide ((unhide HR8).none g9)
  have HG9 := hide (tn (unhide HG8) g9)
  have HP9 := hide ((unhide HP8).none g9)
  have HT9 := hide ((unhide HT8).kept g9)
  have HB9 := hide ((unhide HB8).kept g9 (by simp))
  have HC9 := hide ((unhide HC8).kept g9 (by simp))
  replace d0 := g9.cell d0 (by simp)
  replace d1 := g9.cell d1 (by simp)
  replace q0 := g9.cell q0 (by simp)
  replace q1 := g9.cell q1 (by simp)
  clear cle hO9 hE9 g9
  go_wp2_with fail
  go_loopw [17] (fun i wr => ∃ j : Nat, i = .int .i64 j ∧ j ≤ m ∧ w9.grownBy wr none) (fun i _ => m - (intOf i).toNat)
  case atStart => exact ⟨0, rfl, Nat.zero_le _, gb_refl _ _⟩
  case round =>
    obtain ⟨j, rfl, hj, hg⟩ := hrel
    by_cases hlt : j < m
    · have hl : j < es.length := by have := unhide HM; omega
      obtain ⟨b1, o1, e1, hr1⟩ := (unhide HE9).at j hl
      obtain ⟨b2, o2, e2, hr2⟩ := (unhide HR9).at j hl
      have hx1 := hr1 j hl
      have hx2 := hr2 j hl
      obtain ⟨EC, hEC⟩ : ∃ C, C = reC es[j] := ⟨_, rfl⟩
      rw [← hEC] at hx1 hx2
      have hq : ∀ V : World, (binOp .neq 61 (.agg EC.toArray) (.agg EC.toArray)).run Tryz.prog V = .ok (.bool false) V := fun V => by
        rw [hEC]; exact neq_rent V _ _ _
      have HJ : Hid ((Tryz.prog.info? 61).map (·.size) = some EC.length) := hide (by rw [hEC]; kernel_rfl)
      subst e1 e2
      have h0 : w9.grownBy wr.drew none := gb_drew hg
      clear hr1 hr2 hEC hl d0 d1 q0 q1
      go_upto_region 16 with fail
      refine wp_region_noPanic ?_
      refine wp_region_held_drew (S := fun V => w9.grownBy V none) (by kernel_rfl) h0 (fun _ => ?_)
      refine wpAnyH_take (i := 0) (oi := { dst := some 109, op := Op.move (Operand.tmp 16), type := _, pos := _, after := _, guard := _ }) (v := .slice (some ⟨b1, o1, none⟩) m oc) rfl (by kernel_rfl) (by kernel_rfl) (by kernel_rfl) (fun _ _ _ h => h) (Or.inl ⟨by rfl, fun V (hV : w9.grownBy V none) => by go_simp⟩) h0 ?_
      (try simp only [Act.put, List.setIfInBounds_toArray, List.set_cons_zero, List.set_cons_succ])
      refine wpAnyH_take (i := 1) (oi := { dst := some 110, op := Op.move (Operand.tmp 17), type := _, pos := _, after := _, guard := _ }) (v := .int .i64 (j : Int)) rfl (by kernel_rfl) (by kernel_rfl) (by kernel_rfl) (fun _ _ _ h => h) (Or.inl ⟨by rfl, fun V (hV : w9.grownBy V none) => by go_simp⟩) h0 ?_
      (try simp only [Act.put, List.setIfInBounds_toArray, List.set_cons_zero, List.set_cons_succ])
      refine wpAnyH_take (i := 4) (oi := { dst := some 113, op := Op.move (Operand.tmp 6), type := _, pos := _, after := _, guard := _ }) (v := .slice (some ⟨b2, o2, none⟩) m rc) rfl (by kernel_rfl) (by kernel_rfl) (by kernel_rfl) (fun _ _ _ h => h) (Or.inl ⟨by rfl, fun V (hV : w9.grownBy V none) => by go_simp⟩) h0 ?_
      (try simp only [Act.put, List.setIfInBounds_toArray, List.set_cons_zero, List.set_cons_succ])
      refine wpAnyH_take (i := 5) (oi := { dst := some 114, op := Op.move (Operand.tmp 17), type := _, pos := _, after := _, guard := _ }) (v := .int .i64 (j : Int)) rfl (by kernel_rfl) (by kernel_rfl) (by kernel_rfl) (fun _ _ _ h => h) (Or.inl ⟨by rfl, fun V (hV : w9.grownBy V none) => by go_simp⟩) h0 ?_
      (try simp only [Act.put, List.setIfInBounds_toArray, List.set_cons_zero, List.set_cons_succ])
      refine wpAnyH_take (i := 2) (oi := { dst := some 111, op := Op.indexAddr 34 (Operand.tmp 109) (Operand.tmp 110), type := _, pos := _, after := _, guard := _ }) (v := .pointer (some ⟨b1, o1 + j * 3, none⟩)) rfl (by kernel_rfl) (by kernel_rfl) (by kernel_rfl) (fun _ _ _ h => h) (Or.inl ⟨by rfl, fun V (hV : w9.grownBy V none) => by go_simp⟩) h0 ?_
      (try simp only [Act.put, List.setIfInBounds_toArray, List.set_cons_zero, List.set_cons_succ])
      refine wpAnyH_take (i := 6) (oi := { dst := some 115, op := Op.indexAddr 34 (Operand.tmp 113) (Operand.tmp 114), type := _, pos := _, after := _, guard := _ }) (v := .pointer (some ⟨b2, o2 + j * 3, none⟩)) rfl (by kernel_rfl) (by kernel_rfl) (by kernel_rfl) (fun _ _ _ h => h) (Or.inl ⟨by rfl, fun V (hV : w9.grownBy V none) => by go_simp⟩) h0 ?_
      (try simp only [Act.put, List.setIfInBounds_toArray, List.set_cons_zero, List.set_cons_succ])
      refine wpAnyH_take (i := 3) (oi := { dst := some 112, op := Op.load 61 (Operand.tmp 111), type := _, pos := _, after := _, guard := _ }) (v := .agg EC.toArray) rfl (by kernel_rfl) (by kernel_rfl) (by kernel_rfl) (fun _ _ _ h => h) (yieldsIf_load_mid (by rfl) _ _ rfl _ _ rfl EC _ (fun V hV => range_kept hx1 hV (by simp)) Tryz.underlying61 rfl (unhide HJ)) h0 ?_
      (try simp only [Act.put, List.setIfInBounds_toArray, List.set_cons_zero, List.set_cons_succ])
      refine wpAnyH_take (i := 7) (oi := { dst := some 116, op := Op.load 61 (Operand.tmp 115), type := _, pos := _, after := _, guard := _ }) (v := .agg EC.toArray) rfl (by kernel_rfl) (by kernel_rfl) (by kernel_rfl) (fun _ _ _ h => h) (yieldsIf_load_mid (by rfl) _ _ rfl _ _ rfl EC _ (fun V hV => range_kept hx2 hV (by simp)) Tryz.underlying61 rfl (unhide HJ)) h0 ?_
      (try simp only [Act.put, List.setIfInBounds_toArray, List.set_cons_zero, List.set_cons_succ])
      refine wpAnyH_take (i := 8) (oi := { dst := some 117, op := Op.binOp BinOp.neq 61 (Operand.tmp 112) (Operand.tmp 116) 61, type := _, pos := _, after := _, guard := _ }) (v := .bool false) rfl (by kernel_rfl) (by kernel_rfl) (by kernel_rfl) (fun _ _ _ h => h) (yieldsIf_ne (by rfl) _ _ _ _ rfl _ _ _ rfl rfl guard_rent hq) h0 ?_
      (try simp only [Act.put, List.setIfInBounds_toArray, List.set_cons_zero, List.set_cons_succ])
      refine wpAnyH_done (by kernel_rfl) ?_ _
      refine NoPanic.normal ?_
      go_wp2_with fail
      go_roundw
      case rel => exact ⟨j + 1, by go_num, by omega, h0⟩
      case measure => simp [intOf]; omega
    · have HGr := hide (tn (unhide HG9) hg)
      replace d0 := hg.cell d0 (by simp)
      replace d1 := hg.cell d1 (by simp)
      replace q0 := hg.cell q0 (by simp)
      replace q1 := hg.cell q1 (by simp)
      have HPr := hide ((unhide HP9).none hg)
      have HTr := hide ((unhide HT9).kept hg)
      have hrC := blk_all ((unhide HB9).kept hg (by simp))
      have HCr := hide ((unhide HC9).kept hg (by simp))
      have HJ4 : Hid ((Tryz.prog.info? 42).map (·.size) = some CC.length) := hide (by rw [unhide HCL]; exact info_chg)
      have cch : Calls Tryz.prog 15 #[.agg CC.toArray] wr fun e w' => ∃ po pc, e = .returned (.agg (rcC ch po pc).toArray) ∧ Stl w' wr.heap.size po pc ch.pars ∧ wr.grownBy w' none := by
        rw [unhide HCC2]; exact lchange_any wr ch po pc (unhide HPr) (unhide HTL) (by have := unhide HPL; omega)
      go_wp2_with (refine wpList_load_mid rfl 42 _ rfl w4.heap.size 0 rfl CC _ hrC Tryz.underlying42 rfl (unhide HJ4) ?_)
      refine cch.mono ?_
      rintro e w10 ⟨p2, c2, rfl, hS10, g10⟩
      obtain ⟨DC, hDC⟩ : ∃ C, C = rcC ch p2 c2 := ⟨_, rfl⟩
      rw [← hDC]
      have hDl : DC.toArray.size = 5 := by rw [hDC]; rfl
      have HI10 : Hid ((Tryz.prog.info? 47).map (·.size) = some DC.toArray.size) := hide (by rw [hDl]; exact info_rchg3)
      have HS10 : Hid (ZR.size = DC.toArray.size) := hide (by rw [hDl]; exact unhide HZR)
      have HO10 : Hid (DC.toArray.all (·.oneCell') = true) := hide (by rw [hDC]; exact all_oneCell_toArray (rcC_one _ _ _))
      obtain ⟨W10, hW10, hB10, g10b⟩ := row_new w10 47 ZR DC
      have G10 := tn g10 g10b
      have HG10 := hide (tn (unhide HGr) G10)
      replace d0 := G10.cell d0 (by simp)
      replace d1 := G10.cell d1 (by simp)
      replace q0 := G10.cell q0 (by simp)
      replace q1 := G10.cell q1 (by simp)
      have HW10 := hide hW10
      have hz2 : ¬ Z2 = 0 := unhide HY2
      have hz2b : (Z2 == 0) = false := by simpa using hz2
      clear hDC hDl hW10 hB10 g10 g10b G10 hS10 cch hrC
      go_upto_region 19 with (refine wpList_store_row rfl 47 _ _ rfl w10.heap.size DC.toArray rfl rfl _ _ (heap_alloc_new _ _) (unhide HI10) (unhide HS10) (unhide HO10) ?_; rw [← unhide HW10])
      refine region_named fun O hO => ?_
      refine wpList_val (by rw [hO]; kernel_rfl) (.int .i64 Z2) (fun K9 hK9 => by go_simp; exact hK9) ?_
      (try simp only [Act.put, List.setIfInBounds_toArray, List.set_cons_zero, List.set_cons_succ])
      refine wpList_val (by rw [hO]; kernel_rfl) (.bool false) (fun K9 hK9 => by go_simp; exact hK9) ?_
      (try simp only [Act.put, List.setIfInBounds_toArray, List.set_cons_zero, List.set_cons_succ])
      refine wpList_val (by rw [hO]; kernel_rfl) (.bool false) (fun K9 hK9 => by go_simp; exact hK9) ?_
      (try simp only [Act.put, List.setIfInBounds_toArray, List.set_cons_zero, List.set_cons_succ])
      refine wpList_skip (by rw [hO]; kernel_rfl) ?_
      (try simp only [Act.put, List.setIfInBounds_toArray, List.set_cons_zero, List.set_cons_succ])
      refine wpList_skip (by rw [hO]; kernel_rfl) ?_
      (try simp only [Act.put, List.setIfInBounds_toArray, List.set_cons_zero, List.set_cons_succ])
      refine wpList_skip (by rw [hO]; kernel_rfl) ?_
      (try simp only [Act.put, List.setIfInBounds_toArray, List.set_cons_zero, List.set_cons_succ])
      refine wpList_skip (by rw [hO]; kernel_rfl) ?_
      (try simp only [Act.put, List.setIfInBounds_toArray, List.set_cons_zero, List.set_cons_succ])
      refine wpList_skip (by rw [hO]; kernel_rfl) ?_
      (try simp only [Act.put, List.setIfInBounds_toArray, List.set_cons_zero, List.set_cons_succ])
      refine wpList_skip (by rw [hO]; kernel_rfl) ?_
      (try simp only [Act.put, List.setIfInBounds_toArray, List.set_cons_zero, List.set_cons_succ])
      refine wpList_skip (by rw [hO]; kernel_rfl) ?_
      (try simp only [Act.put, List.setIfInBounds_toArray, List.set_cons_zero, List.set_cons_succ])
      refine wpList_skip (by rw [hO]; kernel_rfl) ?_
      (try simp only [Act.put, List.setIfInBounds_toArray, List.set_cons_zero, List.set_cons_succ])
      refine wpList_skip (by rw [hO]; kernel_rfl) ?_
      (try simp only [Act.put, List.setIfInBounds_toArray, List.set_cons_zero, List.set_cons_succ])
      refine wpList_skip (by rw [hO]; kernel_rfl) ?_
      (try simp only [Act.put, List.setIfInBounds_toArray, List.set_cons_zero, List.set_cons_succ])
      refine wpList_skip (by rw [hO]; kernel_rfl) ?_
      (try simp only [Act.put, List.setIfInBounds_toArray, List.set_cons_zero, List.set_cons_succ])
      refine wpList_skip (by rw [hO]; kernel_rfl) ?_
      (try simp only [Act.put, List.setIfInBounds_toArray, List.set_cons_zero, List.set_cons_succ])
      refine wpList_skip (by rw [hO]; kernel_rfl) ?_
      (try simp only [Act.put, List.setIfInBounds_toArray, List.set_cons_zero, List.set_cons_succ])
      refine wpList_skip (by rw [hO]; kernel_rfl) ?_
      (try simp only [Act.put, List.setIfInBounds_toArray, List.set_cons_zero, List.set_cons_succ])
      refine wpList_skip (by rw [hO]; kernel_rfl) ?_
      (try simp only [Act.put, List.setIfInBounds_toArray, List.set_cons_zero, List.set_cons_succ])
      refine wpList_skip (by rw [hO]; kernel_rfl) ?_
      (try simp only [Act.put, List.setIfInBounds_toArray, List.set_cons_zero, List.set_cons_succ])
      refine wpList_skip (by rw [hO]; kernel_rfl) ?_
      (try simp only [Act.put, List.setIfInBounds_toArray, List.set_cons_zero, List.set_cons_succ])
      refine wpList_skip (by rw [hO]; kernel_rfl) ?_
      (try simp only [Act.put, List.setIfInBounds_toArray, List.set_cons_zero, List.set_cons_succ])
      refine wpList_skip (by rw [hO]; kernel_rfl) ?_
      (try simp only [Act.put, List.setIfInBounds_toArray, List.set_cons_zero, List.set_cons_succ])
      refine wpList_skip (by rw [hO]; kernel_rfl) ?_
      (try simp only [Act.put, List.setIfInBounds_toArray, List.set_cons_zero, List.set_cons_succ])
      refine wpList_skip (by rw [hO]; kernel_rfl) ?_
      (try simp only [Act.put, List.setIfInBounds_toArray, List.set_cons_zero, List.set_cons_succ])
      refine wpList_skip (by rw [hO]; kernel_rfl) ?_
      (try simp only [Act.put, List.setIfInBounds_toArray, List.set_cons_zero, List.set_cons_succ])
      refine wpList_skip (by rw [hO]; kernel_rfl) ?_
      (try simp only [Act.put, List.setIfInBounds_toArray, List.set_cons_zero, List.set_cons_succ])
      refine wpList_skip (by rw [hO]; kernel_rfl) ?_
      (try simp only [Act.put, List.setIfInBounds_toArray, List.set_cons_zero, List.set_cons_succ])
      refine wpList_skip (by rw [hO]; kernel_rfl) ?_
      (try simp only [Act.put, List.setIfInBounds_toArray, List.set_cons_zero, List.set_cons_succ])
      refine wpList_skip (by rw [hO]; kernel_rfl) ?_
      (try simp only [Act.put, List.setIfInBounds_toArray, List.set_cons_zero, List.set_cons_succ])
      refine wpList_skip (by rw [hO]; kernel_rfl) ?_
      (try simp only [Act.put, List.setIfInBounds_toArray, List.set_cons_zero, List.set_cons_succ])
      refine wpList_skip (by rw [hO]; kernel_rfl) ?_
      (try simp only [Act.put, List.setIfInBounds_toArray, List.set_cons_zero, List.set_cons_succ])
      refine wpList_skip (by rw [hO]; kernel_rfl) ?_
      (try simp only [Act.put, List.setIfInBounds_toArray, List.set_cons_zero, List.set_cons_succ])
      refine wpList_skip (by rw [hO]; kernel_rfl) ?_
      (try simp only [Act.put, List.setIfInBounds_toArray, List.set_cons_zero, List.set_cons_succ])
      refine wpList_skip (by rw [hO]; kernel_rfl) ?_
      (try simp only [Act.put, List.setIfInBounds_toArray, List.set_cons_zero, List.set_cons_succ])
      refine wpList_skip (by rw [hO]; kernel_rfl) ?_
      (try simp only [Act.put, List.setIfInBounds_toArray, List.set_cons_zero, List.set_cons_succ])
      refine wpList_skip (by rw [hO]; kernel_rfl) ?_
      (try simp only [Act.put, List.setIfInBounds_toArray, List.set_cons_zero, List.set_cons_succ])
      refine wpList_skip (by rw [hO]; kernel_rfl) ?_
      (try simp only [Act.put, List.setIfInBounds_toArray, List.set_cons_zero, List.set_cons_succ])
      refine wpList_val (by rw [hO]; kernel_rfl) (.bool false) (fun K9 hK9 => by go_simp; exact hK9) ?_
      (try simp only [Act.put, List.setIfInBounds_toArray, List.set_cons_zero, List.set_cons_succ])
      go_wp2_with fail
      obtain ⟨w11, h11⟩ : ∃ V, V = W10 := ⟨_, rfl⟩
      rw [← h11] at HG10 d0 d1 q0 q1 ⊢
      have HG11 := HG10
      clear h11 HW10 hz2 hz2b
      refine (unhide HID w11 (unhide HG11)).mono ?_
      rintro e w12 ⟨rfl, g12⟩
      obtain ⟨IC, hIC⟩ : ∃ C, C = SS.map bv := ⟨_, rfl⟩
      rw [← hIC]
      have hIl : IC.toArray.size = 32 := by rw [hIC]; simpa using unhide HSL
      have HI12 : Hid ((Tryz.prog.info? 38).map (·.size) = some IC.toArray.size) := hide (by rw [hIl]; exact info_id)
      have HS12 : Hid (ZI.size = IC.toArray.size) := hide (by rw [hIl]; exact unhide HZI)
      have HO12 : Hid (IC.toArray.all (·.oneCell') = true) := hide (by rw [hIC]; exact all_oneCell_toArray (bv_one _))
      obtain ⟨W12, hW12, hB12, g12b⟩ := row_new w12 38 ZI IC
      have G12 := tn g12 g12b
      have HG12 := hide (tn (unhide HG11) G12)
      replace d0 := G12.cell d0 (by simp)
      replace d1 := G12.cell d1 (by simp)
      replace q0 := G12.cell q0 (by simp)
      replace q1 := G12.cell q1 (by simp)
      have hbI : Bts W12 (some ⟨w12.heap.size, 0, none⟩) 32 SS := by
        rw [hIC] at hB12
        have z := range_bts (blk_all hB12) (by rw [unhide HSL]; decide)
        rwa [unhide HSL] at z
      obtain ⟨TS, hTS⟩ : ∃ T, T = str SS := ⟨_, rfl⟩
      have HTS := hide hTS
      have crid : ∀ V : World, Calls Tryz.prog 18 #[.agg #[.int .i64 k, .string SD]] V fun e w' => e = .returned (.string TS) ∧ V.grownBy w' none := by
        rw [hTS]; exact unhide HRID
      obtain ⟨nl, hnl⟩ : ∃ n, n = L.length := ⟨_, rfl⟩
      have HNL := hide hnl
      have HW12 := hide hW12
      have h0 : W12.grownBy W12.drew none := gb_drew (gb_refl _ _)
      clear hIC hIl hW12 hB12 g12 g12b G12 hTS hnl
      go_upto_region 22 with (refine wpList_store_row rfl 38 _ _ rfl w12.heap.size IC.toArray rfl rfl _ _ (heap_alloc_new _ _) (unhide HI12) (unhide HS12) (unhide HO12) ?_; rw [← unhide HW12])
      refine wp_region_noPanic ?_
      refine wp_region_held_drew (S := fun V => W12.grownBy V none) (by kernel_rfl) h0 (fun _ => ?_)
      obtain ⟨WD, hWD⟩ : ∃ V, V = W12.drew := ⟨_, rfl⟩
      rw [← hWD]
      rw [← hWD] at h0
      clear hWD
      refine wpAnyH_take (i := 0) (oi := { dst := some 160, op := Op.slice 38 (Operand.tmp 19) none none none, type := _, pos := _, after := _, guard := _ }) (v := .slice (some ⟨w12.heap.size, 0, none⟩) 32 32) rfl (by kernel_rfl) (by kernel_rfl) (by kernel_rfl) (fun _ _ _ h => h) (Or.inl ⟨by rfl, fun V (hV : W12.grownBy V none) => by (have z0 := slice_wid w12.heap.size 0 V; go_simp)⟩) h0 ?_
      (try simp only [Act.put, List.setIfInBounds_toArray, List.set_cons_zero, List.set_cons_succ])
      refine wpAnyH_take (i := 2) (oi := { dst := some 162, op := Op.load 29 (Operand.tmp 3), type := _, pos := _, after := _, guard := _ }) (v := .agg #[.int .i64 k, .string SD]) rfl (by kernel_rfl) (by kernel_rfl) (by kernel_rfl) (fun _ _ _ h => h) (Or.inl ⟨by rfl, fun V (hV : W12.grownBy V none) => by (have z0 := hV.cell q0 (by simp); have z1 := hV.cell q1 (by simp); go_simp)⟩) h0 ?_
      (try simp only [Act.put, List.setIfInBounds_toArray, List.set_cons_zero, List.set_cons_succ])
      refine wpAnyH_take (i := 1) (oi := { dst := some 161, op := Op.convert 22 9 (Operand.tmp 160), type := _, pos := _, after := _, guard := _ }) (v := .string TS) rfl (by kernel_rfl) (by kernel_rfl) (by kernel_rfl) (fun _ _ _ h => h) (Or.inl ⟨by rfl, fun V (hV : W12.grownBy V none) => by (have z9 := conv_str (hbI.kept hV (fun _ e => by cases e)); rw [unhide HSL, ← unhide HTS] at z9; go_simp)⟩) h0 ?_
      (try simp only [Act.put, List.setIfInBounds_toArray, List.set_cons_zero, List.set_cons_succ])
      refine wpAnyH_ready (rs := [3]) (by kernel_rfl) (by simp) ?_
      refine AllReadyH.cons (o := { dst := some 163, op := Op.call { callee := Callee.value (Operand.func 18), args := #[(Operand.tmp 162)], argTypes := #[29] }, type := _, pos := _, after := _, guard := _ }) rfl (fun K9 hK9 => ?_) AllReadyH.nil
      go_simp
      go_at_call 18
      refine (crid WD).mono ?_
      rintro e wc1 ⟨rfl, gc1⟩
      go_wp2_with fail
      have hh2 := tn h0 gc1
      refine hK9.out _ _ hh2 (fun _ => ?_)
      clear hK9 K9
      (try simp only [Act.put, List.setIfInBounds_toArray, List.set_cons_zero, List.set_cons_succ])
      refine wpAnyH_take (i := 4) (oi := { dst := some 164, op := Op.binOp BinOp.eql 9 (Operand.tmp 161) (Operand.tmp 163) 9, type := _, pos := _, after := _, guard := _ }) (v := .bool true) rfl (by kernel_rfl) (by kernel_rfl) (by kernel_rfl) (fun _ _ _ h => h) (Or.inl ⟨by rfl, fun V (hV : W12.grownBy V none) => by go_simp⟩) hh2 ?_
      (try simp only [Act.put, List.setIfInBounds_toArray, List.set_cons_zero, List.set_cons_succ])
      refine wpAnyH_take (i := 5) (oi := { dst := some 165, op := Op.move (Operand.tmp 164), type := _, pos := _, after := _, guard := _ }) (v := .bool true) rfl (by kernel_rfl) (by kernel_rfl) (by kernel_rfl) (fun _ _ _ h => h) (Or.inl ⟨by rfl, fun V (hV : W12.grownBy V none) => by go_simp⟩) hh2 ?_
      (try simp only [Act.put, List.setIfInBounds_toArray, List.set_cons_zero, List.set_cons_succ])
      refine wpAnyH_take (i := 6) (oi := { dst := some 166, op := Op.load 24 (Operand.tmp 1), type := _, pos := _, after := _, guard := _ }) (v := .agg #[.int .i64 k, .slice ao n c]) rfl (by kernel_rfl) (by kernel_rfl) (by kernel_rfl) (fun _ _ _ h => h) (Or.inl ⟨by rfl, fun V (hV : W12.grownBy V none) => by (have z0 := hV.cell d0 (by simp); have z1 := hV.cell d1 (by simp); go_simp)⟩) hh2 ?_
      (try simp only [Act.put, List.setIfInBounds_toArray, List.set_cons_zero, List.set_cons_succ])
      refine wpAnyH_take (i := 8) (oi := { dst := some 168, op := Op.load 29 (Operand.tmp 3), type := _, pos := _, after := _, guard := _ }) (v := .agg #[.int .i64 k, .string SD]) rfl (by kernel_rfl) (by kernel_rfl) (by kernel_rfl) (fun _ _ _ h => h) (Or.inl ⟨by rfl, fun V (hV : W12.grownBy V none) => by (have z0 := hV.cell q0 (by simp); have z1 := hV.cell q1 (by simp); go_simp)⟩) hh2 ?_
      (try simp only [Act.put, List.setIfInBounds_toArray, List.set_cons_zero, List.set_cons_succ])
      refine wpAnyH_ready (rs := [7]) (by kernel_rfl) (by simp) ?_
      refine AllReadyH.cons (o := { dst := some 167, op := Op.call { callee := Callee.value (Operand.func 4), args := #[(Operand.tmp 166)], argTypes := #[24] }, type := _, pos := _, after := _, guard := _ }) rfl (fun K9 hK9 => ?_) AllReadyH.nil
      go_simp
      go_at_call 4
      refine (unhide HCK wc1 (tn (unhide HG12) hh2)).mono ?_
      rintro e wc3 ⟨rfl, gc3⟩
      go_wp2_with fail
      have gg4wc1 := tn ((gb_refl wc1 none)) gc3
      have hh4 := tn hh2 gc3
      refine hK9.out _ _ hh4 (fun _ => ?_)
      clear hK9 K9
      (try simp only [Act.put, List.setIfInBounds_toArray, List.set_cons_zero, List.set_cons_succ])
      refine wpAnyH_ready (rs := [9]) (by kernel_rfl) (by simp) ?_
      refine AllReadyH.cons (o := { dst := some 169, op := Op.call { callee := Callee.value (Operand.func 19), args := #[(Operand.tmp 168)], argTypes := #[29] }, type := _, pos := _, after := _, guard := _ }) rfl (fun K9 hK9 => ?_) AllReadyH.nil
      go_simp
      go_at_call 19
      refine (unhide HRCK wc3).mono ?_
      rintro e wc5 ⟨rfl, gc5⟩
      go_wp2_with fail
      have gg6wc1 := tn (gg4wc1) gc5
      have gg6wc3 := tn ((gb_refl wc3 none)) gc5
      have hh6 := tn hh4 gc5
      refine hK9.out _ _ hh6 (fun _ => ?_)
      clear hK9 K9
      (try simp only [Act.put, List.setIfInBounds_toArray, List.set_cons_zero, List.set_cons_succ])
      refine wpAnyH_take (i := 10) (oi := { dst := some 170, op := Op.binOp BinOp.eql 3 (Operand.tmp 167) (Operand.tmp 169) 3, type := _, pos := _, after := _, guard := _ }) (v := .bool true) rfl (by kernel_rfl) (by kernel_rfl) (by kernel_rfl) (fun _ _ _ h => h) (Or.inl ⟨by rfl, fun V (hV : W12.grownBy V none) => by go_simp⟩) hh6 ?_
      (try simp only [Act.put, List.setIfInBounds_toArray, List.set_cons_zero, List.set_cons_succ])
      refine wpAnyH_take (i := 11) (oi := { dst := some 171, op := Op.pick (Operand.tmp 165) (Operand.tmp 170) (Operand.const (Value.bool false)), type := _, pos := _, after := _, guard := _ }) (v := .bool true) rfl (by kernel_rfl) (by kernel_rfl) (by kernel_rfl) (fun _ _ _ h => h) (Or.inl ⟨by rfl, fun V (hV : W12.grownBy V none) => by go_simp⟩) hh6 ?_
      (try simp only [Act.put, List.setIfInBounds_toArray, List.set_cons_zero, List.set_cons_succ])
      refine wpAnyH_take (i := 12) (oi := { dst := some 172, op := Op.move (Operand.tmp 171), type := _, pos := _, after := _, guard := _ }) (v := .bool true) rfl (by kernel_rfl) (by kernel_rfl) (by kernel_rfl) (fun _ _ _ h => h) (Or.inl ⟨by rfl, fun V (hV : W12.grownBy V none) => by go_simp⟩) hh6 ?_
      (try simp only [Act.put, List.setIfInBounds_toArray, List.set_cons_zero, List.set_cons_succ])
      refine wpAnyH_take (i := 13) (oi := { dst := some 173, op := Op.load 24 (Operand.tmp 1), type := _, pos := _, after := _, guard := _ }) (v := .agg #[.int .i64 k, .slice ao n c]) rfl (by kernel_rfl) (by kernel_rfl) (by kernel_rfl) (fun _ _ _ h => h) (Or.inl ⟨by rfl, fun V (hV : W12.grownBy V none) => by (have z0 := hV.cell d0 (by simp); have z1 := hV.cell d1 (by simp); go_simp)⟩) hh6 ?_
      (try simp only [Act.put, List.setIfInBounds_toArray, List.set_cons_zero, List.set_cons_succ])
      refine wpAnyH_take (i := 16) (oi := { dst := some 176, op := Op.load 29 (Operand.tmp 3), type := _, pos := _, after := _, guard := _ }) (v := .agg #[.int .i64 k, .string SD]) rfl (by kernel_rfl) (by kernel_rfl) (by kernel_rfl) (fun _ _ _ h => h) (Or.inl ⟨by rfl, fun V (hV : W12.grownBy V none) => by (have z0 := hV.cell q0 (by simp); have z1 := hV.cell q1 (by simp); go_simp)⟩) hh6 ?_
      (try simp only [Act.put, List.setIfInBounds_toArray, List.set_cons_zero, List.set_cons_succ])
      refine wpAnyH_ready (rs := [14]) (by kernel_rfl) (by simp) ?_
      refine AllReadyH.cons (o := { dst := some 174, op := Op.call { callee := Callee.value (Operand.func 21), args := #[(Operand.tmp 173)], argTypes := #[24] }, type := _, pos := _, after := _, guard := _ }) rfl (fun K9 hK9 => ?_) AllReadyH.nil
      go_simp
      go_at_call 21
      refine (unhide HLK wc5 (tn (unhide HG12) hh6)).mono ?_
      rintro e wc7 ⟨v7, rfl, ho7, gc7⟩
      obtain ⟨ko7, kc7, ke7, hL7⟩ := Ids.own ho7 (unhide HL32)
      rw [← unhide HNL] at ke7
      subst ke7
      go_wp2_with fail
      have gg8wc1 := tn (gg6wc1) gc7
      have gg8wc3 := tn (gg6wc3) gc7
      have gg8wc5 := tn ((gb_refl wc5 none)) gc7
      have hh8 := tn hh6 gc7
      refine hK9.out _ _ hh8 (fun _ => ?_)
      clear hK9 K9
      (try simp only [Act.put, List.setIfInBounds_toArray, List.set_cons_zero, List.set_cons_succ])
      refine wpAnyH_ready (rs := [15]) (by kernel_rfl) (by simp) ?_
      refine AllReadyH.cons (o := { dst := some 175, op := Op.call { callee := Callee.value (Operand.func 20), args := #[(Operand.tmp 174)], argTypes := #[39] }, type := _, pos := _, after := _, guard := _ }) rfl (fun K9 hK9 => ?_) AllReadyH.nil
      go_simp
      go_at_call 20
      have ci9 : Calls Tryz.prog 20 #[.slice ko7 nl kc7] wc7 fun e w' => ∃ v, e = .returned v ∧ Stg w' wc7.heap.size v L ∧ wc7.grownBy w' none := by
        rw [unhide HNL]; exact lids_any _ _ _ _ (hL7.none (gb_refl wc7 none)) (by have := unhide HLL; omega)
      refine (ci9).mono ?_
      rintro e wc9 ⟨v9, rfl, ho9, gc9⟩
      obtain ⟨so9, sc9, se9, hS9⟩ := ho9.open
      rw [← unhide HNL] at se9
      subst se9
      go_wp2_with fail
      have gg10wc1 := tn (gg8wc1) gc9
      have gg10wc3 := tn (gg8wc3) gc9
      have gg10wc5 := tn (gg8wc5) gc9
      have gg10wc7 := tn ((gb_refl wc7 none)) gc9
      have hh10 := tn hh8 gc9
      refine hK9.out _ _ hh10 (fun _ => ?_)
      clear hK9 K9
      (try simp only [Act.put, List.setIfInBounds_toArray, List.set_cons_zero, List.set_cons_succ])
      refine wpAnyH_ready (rs := [17]) (by kernel_rfl) (by simp) ?_
      refine AllReadyH.cons (o := { dst := some 177, op := Op.call { callee := Callee.value (Operand.func 22), args := #[(Operand.tmp 176)], argTypes := #[29] }, type := _, pos := _, after := _, guard := _ }) rfl (fun K9 hK9 => ?_) AllReadyH.nil
      go_simp
      go_at_call 22
      refine (unhide HRLK wc9).mono ?_
      rintro e wc11 ⟨v11, rfl, ho11, gc11⟩
      obtain ⟨so11, sc11, se11, hS11⟩ := ho11.open
      rw [← unhide HNL] at se11
      subst se11
      go_wp2_with fail
      have gg12wc1 := tn (gg10wc1) gc11
      have gg12wc3 := tn (gg10wc3) gc11
      have gg12wc5 := tn (gg10wc5) gc11
      have gg12wc7 := tn (gg10wc7) gc11
      have gg12wc9 := tn ((gb_refl wc9 none)) gc11
      have hh12 := tn hh10 gc11
      refine hK9.out _ _ hh12 (fun _ => ?_)
      clear hK9 K9
      (try simp only [Act.put, List.setIfInBounds_toArray, List.set_cons_zero, List.set_cons_succ])
      refine wpAnyH_ready (rs := [18]) (by kernel_rfl) (by simp) ?_
      refine AllReadyH.cons (o := { dst := some 178, op := Op.call { callee := Callee.value (Operand.func 16), args := #[(Operand.tmp 175), (Operand.tmp 177)], argTypes := #[45, 45] }, type := _, pos := _, after := _, guard := _ }) rfl (fun K9 hK9 => ?_) AllReadyH.nil
      go_simp
      go_at_call 16
      have ci13 : Calls Tryz.prog 16 #[.slice so9 nl sc9, .slice so11 nl sc11] wc11 fun e w' => e = .returned (.bool true) ∧ wc11.grownBy w' none := by
        have z := lsame_any wc11 _ _ _ _ _ _ L L (hS9.kept gg12wc9) (hS11.kept (gb_refl wc11 none)) (by have := unhide HLL; omega)
        rw [decide_eq_true rfl] at z
        rw [unhide HNL]; exact z
      refine ci13.mono ?_
      rintro e wc13 ⟨rfl, gc13⟩
      go_wp2_with fail
      have gg14wc1 := tn (gg12wc1) gc13
      have gg14wc3 := tn (gg12wc3) gc13
      have gg14wc5 := tn (gg12wc5) gc13
      have gg14wc7 := tn (gg12wc7) gc13
      have gg14wc9 := tn (gg12wc9) gc13
      have gg14wc11 := tn ((gb_refl wc11 none)) gc13
      have hh14 := tn hh12 gc13
      refine hK9.out _ _ hh14 (fun _ => ?_)
      clear hK9 K9
      (try simp only [Act.put, List.setIfInBounds_toArray, List.set_cons_zero, List.set_cons_succ])
      refine wpAnyH_take (i := 19) (oi := { dst := some 179, op := Op.pick (Operand.tmp 172) (Operand.tmp 178) (Operand.const (Value.bool false)), type := _, pos := _, after := _, guard := _ }) (v := .bool true) rfl (by kernel_rfl) (by kernel_rfl) (by kernel_rfl) (fun _ _ _ h => h) (Or.inl ⟨by rfl, fun V (hV : W12.grownBy V none) => by go_simp⟩) hh14 ?_
      (try simp only [Act.put, List.setIfInBounds_toArray, List.set_cons_zero, List.set_cons_succ])
      refine wpAnyH_take (i := 20) (oi := { dst := some 180, op := Op.move (Operand.tmp 179), type := _, pos := _, after := _, guard := _ }) (v := .bool true) rfl (by kernel_rfl) (by kernel_rfl) (by kernel_rfl) (fun _ _ _ h => h) (Or.inl ⟨by rfl, fun V (hV : W12.grownBy V none) => by go_simp⟩) hh14 ?_
      (try simp only [Act.put, List.setIfInBounds_toArray, List.set_cons_zero, List.set_cons_succ])
      refine wpAnyH_ready (rs := [21]) (by kernel_rfl) (by simp) ?_
      refine AllReadyH.cons (o := { dst := some 181, op := Op.call { callee := Callee.value (Operand.func 5), args := #[], argTypes := #[] }, type := _, pos := _, after := _, guard := _ }) rfl (fun K9 hK9 => ?_) AllReadyH.nil
      go_simp
      go_at_call 5
      refine (oone_any wc13).mono ?_
      rintro e wc15 ⟨rfl, gc15⟩
      go_wp2_with fail
      have gg16wc1 := tn (gg14wc1) gc15
      have gg16wc3 := tn (gg14wc3) gc15
      have gg16wc5 := tn (gg14wc5) gc15
      have gg16wc7 := tn (gg14wc7) gc15
      have gg16wc9 := tn (gg14wc9) gc15
      have gg16wc11 := tn (gg14wc11) gc15
      have gg16wc13 := tn ((gb_refl wc13 none)) gc15
      have hh16 := tn hh14 gc15
      refine hK9.out _ _ hh16 (fun _ => ?_)
      clear hK9 K9
      (try simp only [Act.put, List.setIfInBounds_toArray, List.set_cons_zero, List.set_cons_succ])
      refine wpAnyH_take (i := 22) (oi := { dst := some 182, op := Op.pick (Operand.tmp 180) (Operand.tmp 181) (Operand.const (Value.bool false)), type := _, pos := _, after := _, guard := _ }) (v := .bool true) rfl (by kernel_rfl) (by kernel_rfl) (by kernel_rfl) (fun _ _ _ h => h) (Or.inl ⟨by rfl, fun V (hV : W12.grownBy V none) => by go_simp⟩) hh16 ?_
      (try simp only [Act.put, List.setIfInBounds_toArray, List.set_cons_zero, List.set_cons_succ])
      refine wpAnyH_take (i := 23) (oi := { dst := some 2, op := Op.assign (Operand.tmp 182), type := _, pos := _, after := _, guard := _ }) (v := .bool true) rfl (by kernel_rfl) (by kernel_rfl) (by kernel_rfl) (fun _ _ _ h => h) (Or.inl ⟨by rfl, fun V (hV : W12.grownBy V none) => by go_simp⟩) hh16 ?_
      (try simp only [Act.put, List.setIfInBounds_toArray, List.set_cons_zero, List.set_cons_succ])
      refine wpAnyH_done (by kernel_rfl) ?_ _
      refine NoPanic.normal ?_
      go_wp2
      go_ret
      exact ⟨rfl, tn g0 (tn (unhide HG12) hh16)⟩

end Go.Proofs.YtcemdlcimhoeeaaGreatDoor
