/- What ChangeOf's closure does: it reads the commit, keeps it, and makes it again. Of data of at most 1000000 bytes. -/
import Derived.Test.YtlifmipnoeioaaaGreatDoorOCloT
namespace Go.Proofs.YtlifmipnoeioaaaGreatDoor
open Go.RowKit

/-- The commit that was read lies there. -/
def KeptC (u : World) (vb : Nat) (c : ChgL) (w : World) : Prop := ∃ po pc, Blk w vb 72 (chC c po pc) ∧ w.ownsRow u.heap.size 33 32 (.slice po c.pars.length pc) c.pars.length (c.pars.flatMap (·.map bv))

theorem KeptC.none {u : World} {vb : Nat} {c : ChgL} {a b : World} (h : KeptC u vb c a) (g : a.grownBy b none) : KeptC u vb c b := by
  obtain ⟨po, pc, h1, h2⟩ := h
  exact ⟨po, pc, h1.kept g (by simp), own_id h2 g (fun x e => by cases e)⟩

theorem readC_ok (d : List UInt8) : (readC d).tree.length = 32 ∧ (∀ x ∈ (readC d).pars, x.length = 32) ∧ (readC d).pars.length ≤ 4 ∧ (readC d).author.length ≤ d.length ∧ (readC d).text.length ≤ d.length := by
  unfold readC
  simp only
  refine ⟨raw32_len _ _, runP_ids _ _, ?_, ?_, ?_⟩
  · rw [runP_len]; exact Nat.min_le_right _ _
  · refine Nat.le_trans (sizedS_le _ _) (Nat.le_trans (numS_len _ _ _) (Nat.le_trans (runP_left _ _) (Nat.le_trans (numS_len _ _ _) (rawS_len _ _ _))))
  · refine Nat.le_trans (sizedS_le _ _) (Nat.le_trans (sizedS_len _ _) (Nat.le_trans (numS_len _ _ _) (Nat.le_trans (runP_left _ _) (Nat.le_trans (numS_len _ _ _) (rawS_len _ _ _)))))

set_option maxRecDepth 100000 in
set_option maxHeartbeats 2000000 in
theorem cloC_any (u w : World) (rb vb : Nat) (d : List UInt8) (hl : d.length ≤ 1000000) (old : List Value) (ho36 : old.length = 36) (gu : u.grownBy w none) (hv : u.heap.size ≤ vb) (hr : u.heap.size ≤ rb) (hne : rb ≠ vb) (hR : Rd w rb d 0) (hB : Blk w vb 72 old) (bk : Nat) (bc : List Value) (hbk : Blk w bk 42 bc) (hkr : bk ≠ rb) (hkv : bk ≠ vb) (b2 : Nat) (t2 : TypeId) (cs2 : List Value) (hb2 : Blk w b2 t2 cs2) (h2r : b2 ≠ rb) (h2v : b2 ≠ vb) :
    Calls Tryz.prog 62 #[.pointer (some ⟨rb, 0, none⟩), .pointer (some ⟨vb, 0, none⟩)] w fun e w' => Again u w' 3 (ofChg (readC d)) (fun V => (KeptC u vb (readC d) V ∧ Blk V b2 t2 cs2) ∧ Blk V bk 42 bc) e := by
  have hvl := hB.lt
  have hbl := hbk.lt
  have hbl2 := hb2.lt
  have hrl := hR.lt
  obtain ⟨W1, hW1, hB1, g1⟩ : ∃ W1, W1 = w.alloc (.cells #[.int .i64 0, .slice none 0 0] 42) ∧ Blk W1 w.heap.size 42 [.int .i64 0, .slice none 0 0] ∧ w.grownBy W1 none := box_new w _ _
  have cr := readChg_any W1 rb d hl (hR.kept g1 (Or.inl rfl))
  obtain ⟨k1, k2, k3, k4, k5⟩ := readC_ok d
  obtain ⟨cm, hcm⟩ : ∃ c, c = readC d := ⟨_, rfl⟩
  rw [← hcm] at cr k1 k2 k3 k4 k5 ⊢
  have HK1 := hide k1
  have HK2 := hide k2
  have HK3 := hide k3
  have HK4 := hide (Nat.le_trans k4 hl)
  have HK5 := hide (Nat.le_trans k5 hl)
  have HW1 := hide hW1
  have HBV := hide (hB.kept g1 (by simp))
  have HB1 := hide hB1
  have HK := hide (hbk.kept g1 (by simp))
  have HJ := hide (hb2.kept g1 (by simp))
  have HG1 := hide (tn gu g1)
  have hus : u.heap.size ≤ w.heap.size := gu.size
  clear hW1 hB g1 hR hcm hB1 gu k1 k2 k3 k4 k5 hl hbk hb2
  go_enter Tryz.func62, Tryz.ntmps62
  go_wp2_with (rw [← unhide HW1])
  refine cr.mono ?_
  rintro e w2 ⟨v2, rfl, ho2, g2⟩
  have hs1 : w.heap.size < W1.heap.size := (unhide HB1).lt
  obtain ⟨ao, c, hv2⟩ := own_sl ho2
  subst hv2
  have hBv := (unhide HBV).kept g2 (by simp; omega)
  have hBo := (unhide HB1).kept g2 (by simp; omega)
  have hK2 := (unhide HK).kept g2 (by simpa using hkr)
  have hJ2 := (unhide HJ).kept g2 (by simpa using h2r)
  have G2 : u.grownBy w2 none := gb_trans (unhide HG1) g2 (fun x e => by cases e; exact Or.inl hr)
  have ho2' := own_low ho2 (unhide HG1).size
  obtain ⟨C, hC⟩ : ∃ C, C = chC cm ao c := ⟨_, rfl⟩
  rw [← chR_chC, ← hC]
  have hCl : C.length = 36 := by rw [hC]; exact chC_len _ _ _ (unhide HK1)
  have hCo : C.toArray.all (·.oneCell') = true := by rw [hC]; exact all_oneCell_toArray (chC_one _ _ _)
  obtain ⟨w3, hw3⟩ : ∃ V, V = w2.setRow vb C.toArray := ⟨_, rfl⟩
  have hB3 : Blk w3 vb 72 C := by rw [hw3]; exact hBv.row _
  have hA3 : Blk w3 w.heap.size 42 [.int .i64 0, .slice none 0 0] := by rw [hw3]; exact hBo.row_other _ _ (by omega)
  have hO3 : w3.ownsRow u.heap.size 33 32 (.slice ao cm.pars.length c) cm.pars.length (cm.pars.flatMap (·.map bv)) := by rw [hw3]; exact own_row_id ho2' hBv (by decide) _
  have G3 : u.grownBy w3 none := by rw [hw3]; exact gb_row G2 _ (Or.inl hv)
  have hr3 := blk_all hB3
  have hi3 : (Tryz.prog.info? 72).map (·.size) = some C.length := by rw [hCl]; exact info_chg
  have hi4 : (Tryz.prog.info? 72).map (·.size) = some C.toArray.size := by simpa using hi3
  have hos : old.toArray.size = C.toArray.size := by simp [ho36, hCl]
  have hE3 : Ids w3 ao c cm.pars := by
    obtain ⟨ao2, c2, e1, e2⟩ := Ids.own hO3 (unhide HK2)
    injection e1 with e3 e4 e5
    subst e3 e5
    exact e2
  have co := ofChg_any w3 cm ao c hE3 (unhide HK1) (unhide HK4) (unhide HK5) (by have := unhide HK3; omega)
  rw [← hC] at co
  have HI3 := hide hi3
  have HI4 := hide hi4
  have HOS := hide hos
  have HCO := hide hCo
  have HC := hide hC
  have HBV2 := hide hBv
  obtain ⟨r, hrr⟩ : ∃ r, r = ofChg cm := ⟨_, rfl⟩
  rw [← hrr] at co
  have HR := hide hrr
  have HW3 := hide hw3
  have HB3 := hide hB3
  have HA3 := hide hA3
  have HO3 := hide hO3
  have HK3 := hide (show Blk w3 bk 42 bc by rw [hw3]; exact hK2.row_other _ _ hkv.symm)
  have HJ3 := hide (show Blk w3 b2 t2 cs2 by rw [hw3]; exact hJ2.row_other _ _ h2v.symm)
  have HG3 := hide G3
  clear cr ho2 ho2' hBv hBo G2 hw3 hB3 hA3 hO3 G3 hE3 g2 hrr HG1 HB1 HBV hi3 hi4 hos hCo hC hCl hK2 hJ2
  go_wp2_with (first
    | (refine wpList_store_row rfl 72 _ _ rfl vb C.toArray rfl rfl _ _ (unhide HBV2) (unhide HI4) (unhide HOS) (unhide HCO) ?_; rw [← unhide HW3])
    | (refine wpList_load_mid rfl 72 _ rfl vb 0 rfl C _ hr3 Tryz.underlying72 rfl (unhide HI3) ?_; clear hr3))
  refine co.mono ?_
  rintro e w4 ⟨v4, rfl, hN4, g4⟩
  have hA4 := (unhide HA3).kept g4 (by simp)
  have hK4 := (unhide HK3).kept g4 (by simp)
  have hJ4 := (unhide HJ3).kept g4 (by simp)
  have hB4 := (unhide HB3).kept g4 (by simp)
  have hO4 := own_id (unhide HO3) g4 (fun x e => by cases e)
  have G4 := tn (unhide HG3) g4
  have h1c : v4.oneCell' = true := by obtain ⟨_, _, rfl, _⟩ := hN4; rfl
  obtain ⟨x, hx⟩ : ∃ x : Int, x = r.1 := ⟨_, rfl⟩
  rw [← hx]
  obtain ⟨K, hK⟩ : ∃ K : Int, K = (if x = 0 then 3 else 0) := ⟨_, rfl⟩
  rw [← hK]
  have HKK := hide hK
  have HX := hide hx
  clear co hK hx
  rw [unhide HC] at hB4
  go_wp2_with (refine wpList_store_row rfl 42 _ _ rfl w.heap.size #[.int .i64 K, v4] rfl rfl _ _ hA4 info_obj rfl (obj_one h1c) ?_)
  refine bodyPost_ret (results_row_tmp rfl _ _ _ _ _ _ _ rfl (hA4.row [.int .i64 K, v4]) Tryz.underlying42 rfl info_obj) rfl ?_
  have gF := gb_row (gb_refl w4 (some w.heap.size)) #[.int .i64 K, v4] (Or.inr rfl)
  rw [← unhide HR]
  refine ⟨v4, ?_, ?_, ⟨⟨⟨_, _, hB4.row_other _ _ (by omega), own_row_id hO4 hA4 (by decide) _⟩, hJ4.row_other _ _ (by omega)⟩, hK4.row_other _ _ (by omega)⟩, gb_row G4 _ (Or.inl hus)⟩
  · rw [← unhide HX, ← unhide HKK]
    rfl
  · obtain ⟨a', c', e1, e2, e3⟩ := hN4
    refine ⟨a', c', e1, e2.kept gF ?_⟩
    intro x e ad e5 e4
    cases e
    exact hA4.typ (by decide) (e4 ▸ (e3 ad e5).2)

end Go.Proofs.YtlifmipnoeioaaaGreatDoor

/- What MarkOf's closure does: it reads the note, keeps it, and makes it again. Of data of at most 1000000 bytes. -/
namespace Go.Proofs.YtlifmipnoeioaaaGreatDoor
open Go.RowKit

/-- The note that was read lies there. -/
def KeptM (vb : Nat) (m : MrkL) (w : World) : Prop := Blk w vb 123 (mkC m)

theorem KeptM.none {vb : Nat} {m : MrkL} {a b : World} (h : KeptM vb m a) (g : a.grownBy b none) : KeptM vb m b := Blk.kept h g (by simp)

theorem readM_ok (d : List UInt8) : (readM d).target.length = 32 ∧ (readM d).name.length ≤ d.length ∧ (readM d).text.length ≤ d.length := by
  unfold readM
  simp only
  refine ⟨raw32_len _ _, ?_, ?_⟩
  · exact Nat.le_trans (sizedS_le _ _) (rawS_len _ _ _)
  · exact Nat.le_trans (sizedS_le _ _) (Nat.le_trans (sizedS_len _ _) (rawS_len _ _ _))

set_option maxRecDepth 100000 in
set_option maxHeartbeats 2000000 in
theorem cloM_any (u w : World) (rb vb : Nat) (d : List UInt8) (hl : d.length ≤ 100000) (old : List Value) (ho36 : old.length = 34) (gu : u.grownBy w none) (hv : u.heap.size ≤ vb) (hr : u.heap.size ≤ rb) (hne : rb ≠ vb) (hR : Rd w rb d 0) (hB : Blk w vb 123 old) (bk : Nat) (bc : List Value) (hbk : Blk w bk 42 bc) (hkr : bk ≠ rb) (hkv : bk ≠ vb) (b2 : Nat) (t2 : TypeId) (cs2 : List Value) (hb2 : Blk w b2 t2 cs2) (h2r : b2 ≠ rb) (h2v : b2 ≠ vb) :
    Calls Tryz.prog 145 #[.pointer (some ⟨rb, 0, none⟩), .pointer (some ⟨vb, 0, none⟩)] w fun e w' => Again u w' 4 (ofMrk (readM d)) (fun V => (KeptM vb (readM d) V ∧ Blk V b2 t2 cs2) ∧ Blk V bk 42 bc) e := by
  have hvl := hB.lt
  have hbl := hbk.lt
  have hbl2 := hb2.lt
  have hrl := hR.lt
  obtain ⟨W1, hW1, hB1, g1⟩ : ∃ W1, W1 = w.alloc (.cells #[.int .i64 0, .slice none 0 0] 42) ∧ Blk W1 w.heap.size 42 [.int .i64 0, .slice none 0 0] ∧ w.grownBy W1 none := box_new w _ _
  have cr := readMrk_any W1 rb d (by omega) (hR.kept g1 (Or.inl rfl))
  obtain ⟨k1, k4, k5⟩ := readM_ok d
  obtain ⟨m, hcm⟩ : ∃ c, c = readM d := ⟨_, rfl⟩
  rw [← hcm] at cr k1 k4 k5 ⊢
  have HK1 := hide k1
  have HK4 := hide (Nat.le_trans k4 hl)
  have HK5 := hide (Nat.le_trans k5 hl)
  have HW1 := hide hW1
  have HBV := hide (hB.kept g1 (by simp))
  have HB1 := hide hB1
  have HK := hide (hbk.kept g1 (by simp))
  have HJ := hide (hb2.kept g1 (by simp))
  have HG1 := hide (tn gu g1)
  have hus : u.heap.size ≤ w.heap.size := gu.size
  clear hW1 hB g1 hR hcm hB1 gu k1 k4 k5 hl hbk hb2
  go_enter Tryz.func145, Tryz.ntmps145
  go_wp2_with (rw [← unhide HW1])
  refine cr.mono ?_
  rintro e w2 ⟨rfl, g2⟩
  have hs1 : w.heap.size < W1.heap.size := (unhide HB1).lt
  have hBv := (unhide HBV).kept g2 (by simp; omega)
  have hBo := (unhide HB1).kept g2 (by simp; omega)
  have hK2 := (unhide HK).kept g2 (by simpa using hkr)
  have hJ2 := (unhide HJ).kept g2 (by simpa using h2r)
  have G2 : u.grownBy w2 none := gb_trans (unhide HG1) g2 (fun x e => by cases e; exact Or.inl hr)
  obtain ⟨Z, hZ⟩ : ∃ Z : List Value, Z = chR (List.replicate 32 0) (.slice none 0 0) 0 [] [] := ⟨_, rfl⟩
  have hzv : ∀ w, (zeroValue 72).run Tryz.prog w = .ok (.agg Z.toArray) w := fun w => by rw [hZ]; exact zero_chgR w
  have hZl : Z.length = 36 := by rw [hZ]; rfl
  obtain ⟨C, hC⟩ : ∃ C, C = chR m.target (.slice none 0 0) 0 m.name m.text := ⟨_, rfl⟩
  rw [← hC]
  have hCl : C.length = 36 := by rw [hC]; exact chR_len _ _ _ _ _ (unhide HK1)
  have hCo : C.toArray.all (·.oneCell') = true := by rw [hC]; exact all_oneCell_toArray (chR_one _ _ _ _ _ rfl)
  obtain ⟨W3, hW3, hBC, g3⟩ := row_new w2 72 Z.toArray C
  obtain ⟨q1, q2, q3, q4⟩ := chR_at m.target (.slice none 0 0) 0 m.name m.text (unhide HK1)
  rw [← hC] at q3 q4
  have hcn : W3.cell? ⟨w2.heap.size, 34, none⟩ = some (.string (str m.name)) := by rw [hBC.cell 34, q3]
  have hct : W3.cell? ⟨w2.heap.size, 35, none⟩ = some (.string (str m.text)) := by rw [hBC.cell 35, q4]
  have hrT : W3.rangeAt w2.heap.size 0 (m.target.map bv) := by
    have h1 := blk_all hBC
    rw [hC] at h1
    exact ch_tree (c := ⟨m.target, [], 0, m.name, m.text⟩) (po := none) (pc := 0) h1
  have hiC : (Tryz.prog.info? 72).map (·.size) = some C.toArray.size := by rw [show C.toArray.size = 36 by simpa using hCl]; exact info_chg
  have hZC : Z.toArray.size = C.toArray.size := by simp [hZl, hCl]
  have hBv3 := hBv.kept g3 (by simp)
  have hBo3 := hBo.kept g3 (by simp)
  have G3a := tn G2 g3
  have hbt : Tryz.prog.built 123 [(0, .agg (m.target.map bv).toArray), (1, .string (str m.name)), (2, .string (str m.text))] = some (mkC m).toArray := built_mrk m.target (str m.name) (str m.text) (unhide HK1)
  have hiT : (Tryz.prog.info? 33).map (·.size) = some (m.target.map bv).length := by rw [List.length_map, unhide HK1]; exact info_id
  obtain ⟨TG, hTG⟩ : ∃ T, T = m.target.map bv := ⟨_, rfl⟩
  rw [← hTG] at hrT hbt hiT
  obtain ⟨MC, hMC⟩ : ∃ T, T = mkC m := ⟨_, rfl⟩
  rw [← hMC] at hbt
  have hMl : MC.length = 34 := by rw [hMC]; exact mkC_len _ (unhide HK1)
  have hMo : MC.toArray.all (·.oneCell') = true := by rw [hMC]; exact all_oneCell_toArray (mkC_one _)
  obtain ⟨N, hN⟩ : ∃ N, N = str m.name := ⟨_, rfl⟩
  obtain ⟨X, hX⟩ : ∃ N, N = str m.text := ⟨_, rfl⟩
  rw [← hN] at hcn hbt
  rw [← hX] at hct hbt
  obtain ⟨w3, hw3⟩ : ∃ V, V = W3.setRow vb MC.toArray := ⟨_, rfl⟩
  have hB3 : Blk w3 vb 123 MC := by rw [hw3]; exact hBv3.row _
  have hA3 : Blk w3 w.heap.size 42 [.int .i64 0, .slice none 0 0] := by rw [hw3]; exact hBo3.row_other _ _ (by omega)
  have G3 : u.grownBy w3 none := by rw [hw3]; exact gb_row G3a _ (Or.inl hv)
  have hr3 := blk_all hB3
  have hi3 : (Tryz.prog.info? 123).map (·.size) = some MC.length := by rw [hMl]; exact info_mrk
  have hi4 : (Tryz.prog.info? 123).map (·.size) = some MC.toArray.size := by simpa using hi3
  have hos : old.toArray.size = MC.toArray.size := by simp [ho36, hMl]
  have co := ofMrk_any w3 m (unhide HK1) (unhide HK4) (by have := unhide HK5; omega)
  rw [← hMC] at co
  have HI3 := hide hi3
  have HI4 := hide hi4
  have HOS := hide hos
  have HMO := hide hMo
  have HMC := hide hMC
  have HBV2 := hide hBv3
  have HWC := hide hW3
  have HIC := hide hiC
  have HZC := hide hZC
  have HCO := hide hCo
  have HIT := hide hiT
  have HBT := hide hbt
  obtain ⟨r, hrr⟩ : ∃ r, r = ofMrk m := ⟨_, rfl⟩
  rw [← hrr] at co
  have HR := hide hrr
  have HW3 := hide hw3
  have HB3 := hide hB3
  have HA3 := hide hA3
  have HK3 := hide (show Blk w3 bk 42 bc by rw [hw3]; exact (hK2.kept g3 (by simp)).row_other _ _ hkv.symm)
  have HJ3 := hide (show Blk w3 b2 t2 cs2 by rw [hw3]; exact (hJ2.kept g3 (by simp)).row_other _ _ h2v.symm)
  have HG3 := hide G3
  clear cr hBv hBo G2 hw3 hB3 hA3 G3 g2 hrr HG1 HB1 HBV hi3 hi4 hos hMo hMC hMl hW3 hiC hZC hCo hiT hbt hBv3 hBo3 G3a g3 hBC hC hCl hZ hZl q1 q2 q3 q4 hTG hN hX hK2 hJ2
  go_wp2_with (first
    | (refine wpList_load_mid rfl 33 _ rfl w2.heap.size 0 rfl TG _ hrT Tryz.underlying33 rfl (unhide HIT) ?_; clear hrT)
    | (refine wpList_load_mid rfl 123 _ rfl vb 0 rfl MC _ hr3 Tryz.underlying123 rfl (unhide HI3) ?_; clear hr3)
    | (refine wpList_store_row rfl 72 _ _ rfl w2.heap.size C.toArray rfl rfl _ _ (heap_alloc_new _ _) (unhide HIC) (unhide HZC) (unhide HCO) ?_; rw [← unhide HWC])
    | (refine wpList_store_row rfl 123 _ _ rfl vb MC.toArray rfl rfl _ _ (unhide HBV2) (unhide HI4) (unhide HOS) (unhide HMO) ?_; rw [← unhide HW3])
    | (refine wpList_built rfl 123 _ rfl MC.toArray ?hbs ?_))
  case hbs => simpa using unhide HBT
  refine co.mono ?_
  rintro e w4 ⟨v4, rfl, hN4, g4⟩
  have hA4 := (unhide HA3).kept g4 (by simp)
  have hK4 := (unhide HK3).kept g4 (by simp)
  have hJ4 := (unhide HJ3).kept g4 (by simp)
  have hB4 := (unhide HB3).kept g4 (by simp)
  have G4 := tn (unhide HG3) g4
  have h1c : v4.oneCell' = true := by obtain ⟨_, _, rfl, _⟩ := hN4; rfl
  obtain ⟨x, hx⟩ : ∃ x : Int, x = r.1 := ⟨_, rfl⟩
  rw [← hx]
  obtain ⟨K, hK⟩ : ∃ K : Int, K = (if x = 0 then 4 else 0) := ⟨_, rfl⟩
  rw [← hK]
  have HKK := hide hK
  have HX := hide hx
  clear co hK hx
  rw [unhide HMC] at hB4
  go_wp2_with (refine wpList_store_row rfl 42 _ _ rfl w.heap.size #[.int .i64 K, v4] rfl rfl _ _ hA4 info_obj rfl (obj_one h1c) ?_)
  refine bodyPost_ret (results_row_tmp rfl _ _ _ _ _ _ _ rfl (hA4.row [.int .i64 K, v4]) Tryz.underlying42 rfl info_obj) rfl ?_
  have gF := gb_row (gb_refl w4 (some w.heap.size)) #[.int .i64 K, v4] (Or.inr rfl)
  rw [← unhide HR]
  refine ⟨v4, ?_, ?_, ⟨⟨hB4.row_other _ _ (by omega), hJ4.row_other _ _ (by omega)⟩, hK4.row_other _ _ (by omega)⟩, gb_row G4 _ (Or.inl hus)⟩
  · rw [← unhide HX, ← unhide HKK]
    rfl
  · obtain ⟨a', c', e1, e2, e3⟩ := hN4
    refine ⟨a', c', e1, e2.kept gF ?_⟩
    intro x e ad e5 e4
    cases e
    exact hA4.typ (by decide) (e4 ▸ (e3 ad e5).2)

end Go.Proofs.YtlifmipnoeioaaaGreatDoor

/- What object's formed answers, and TreeOf, ChangeOf, MarkOf: what an object is of. Of data of at most 100000 bytes. -/
namespace Go.Proofs.YtlifmipnoeioaaaGreatDoor
open Go.RowKit

theorem formed_no (w : World) (k K : Int) (hk : (k == K) = false) (ao : Option Addr) (n c : Nat) (fv : Value) :
    Calls Tryz.prog 61 #[.agg #[.int .i64 k, .slice ao n c], .int .i64 K, fv] w fun e w' => e = .returned (.int .i64 2) ∧ w.grownBy w' none := by
  have hk2 : ¬ k = K := by simpa using hk
  go_enter Tryz.func61, Tryz.ntmps61
  go_wp2
  go_ret
  exact ⟨rfl, gb_alloc (gb_refl _ _) _⟩

set_option maxRecDepth 100000 in
set_option maxHeartbeats 2000000 in
theorem formed_T (u w : World) (gu : u.grownBy w none) (ao : Option Addr) (c : Nat) (d : List UInt8) (hb : Bts u ao c d) (hd : d.length ≤ 1000000) (vb : Nat) (K : Int) (r : Int × List UInt8) (R : World → Prop) (hR : ∀ a b, R a → a.grownBy b none → R b)
    (hf : ∀ V rb bc, u.grownBy V none → w.grownBy V none → w.heap.size < rb → Rd V rb d 0 → Blk V w.heap.size 42 bc → Calls Tryz.prog 143 #[.pointer (some ⟨rb, 0, none⟩), .pointer (some ⟨vb, 0, none⟩)] V fun e w' => Again u w' K r (fun V' => R V' ∧ Blk V' w.heap.size 42 bc) e) :
    Calls Tryz.prog 61 #[.agg #[.int .i64 K, .slice ao d.length c], .int .i64 K, .func (.func 143) #[] #[.pointer (some ⟨vb, 0, none⟩)]] w fun e w' => e = .returned (.int .i64 (if r = (0, d) then 0 else 11)) ∧ R w' ∧ u.grownBy w' none := by
  obtain ⟨Y, hY⟩ : ∃ y : Int, y = (if r = (0, d) then 0 else 11) := ⟨_, rfl⟩
  rw [← hY]
  have HY := hide hY
  clear hY
  obtain ⟨n, hn⟩ : ∃ n, n = d.length := ⟨_, rfl⟩
  obtain ⟨W0, hW0, hB0, g0⟩ : ∃ W1, W1 = w.alloc (.cells #[.int .i64 K, .slice ao n c] 42) ∧ Blk W1 w.heap.size 42 [.int .i64 K, .slice ao n c] ∧ w.grownBy W1 none := box_new w _ _
  have cn := new_any W0 ao c d (hb.kept (tn gu g0) (fun _ e => by cases e)) (by omega)
  have c0 := hB0.cell 0
  have c1 := hB0.cell 1
  simp only [List.getElem?_cons_zero, List.getElem?_cons_succ] at c0 c1
  rw [← hn] at cn ⊢
  have HN := hide hn
  have HW0 := hide hW0
  have HF := hide hf
  have HR := hide hR
  have HB := hide hb
  have HB0 := hide hB0
  have HGU := hide gu
  have HG0 := hide g0
  clear hn hW0 hf hR hb hB0 gu g0
  go_enter Tryz.func61, Tryz.ntmps61
  go_wp2_with (rw [← unhide HW0])
  refine cn.mono ?_
  rintro e w1 ⟨rb, rfl, hrb, hRd, g1⟩
  have hws : w.heap.size < W0.heap.size := (unhide HB0).lt
  have cf := unhide HF w1 rb _ (tn (tn (unhide HGU) (unhide HG0)) g1) (tn (unhide HG0) g1) (by omega) hRd ((unhide HB0).kept g1 (by simp))
  clear cn hRd g1 c0 c1
  go_wp2_with fail
  refine cf.mono ?_
  rintro e w2 ⟨v2, rfl, ⟨a2, c2, rfl, hb2⟩, ⟨hR2, hK2⟩, g2⟩
  obtain ⟨n2, hn2⟩ : ∃ n, n = r.2.length := ⟨_, rfl⟩
  obtain ⟨x, hx⟩ : ∃ x : Int, x = r.1 := ⟨_, rfl⟩
  rw [← hn2, ← hx]
  obtain ⟨KK, hKK⟩ : ∃ k : Int, k = (if x = 0 then K else 0) := ⟨_, rfl⟩
  rw [← hKK]
  obtain ⟨W3, hW3, hB3, g3⟩ : ∃ W1, W1 = w2.alloc (.cells #[.int .i64 KK, .slice a2 n2 c2] 42) ∧ Blk W1 w2.heap.size 42 [.int .i64 KK, .slice a2 n2 c2] ∧ w2.grownBy W1 none := box_new w2 _ _
  have hK3 := hK2.kept g3 (by simp)
  have d0 := hK3.cell 0
  have d1 := hK3.cell 1
  have f0 := hB3.cell 0
  have f1 := hB3.cell 1
  simp only [List.getElem?_cons_zero, List.getElem?_cons_succ] at d0 d1 f0 f1
  have HW3 := hide hW3
  have hb3 := hb2.kept g3 (fun _ e => by cases e)
  have G3 := tn g2 g3
  have hR3 := unhide HR w2 W3 hR2 g3
  by_cases hx0 : x = 0
  · have hKe : KK = K := by rw [hKK, if_pos hx0]
    have hbd : Bts W3 ao c d := (unhide HB).kept G3 (fun _ e => by cases e)
    have cs := same_any W3 KK K a2 ao c2 c r.2 d hb3 hbd
    rw [← hn2, ← unhide HN] at cs
    obtain ⟨B, hB⟩ : ∃ B, B = decide (KK = K ∧ r.2 = d) := ⟨_, rfl⟩
    rw [← hB] at cs
    have hfin : Y = (if B = true then 0 else 11) := by
      rw [hB, unhide HY]
      by_cases hq : r.2 = d
      · rw [if_pos (show r = (0, d) by rw [← hq, ← hx0, hx]), if_pos (by simp [hKe, hq])]
      · rw [if_neg (show ¬ r = (0, d) from fun e => hq (by rw [e])), if_neg (by simp [hq])]
    have HFN := hide hfin
    have HR3 := hide hR3
    clear hKe hbd hB hfin hb2 hb3 hR2 hK2 hK3 hB3 hW3 hn2 hx hKK hR3 cf g2 g3
    subst hx0
    cases B
    · go_wp2_with (first
        | (go_at_call 88; refine cs.mono ?_; rintro e w4 ⟨rfl, g4⟩; clear cs)
        | (rw [← unhide HW3]))
      go_ret
      rw [unhide HFN]
      exact ⟨rfl, unhide HR _ _ (unhide HR3) g4, tn G3 g4⟩
    · go_wp2_with (first
        | (go_at_call 88; refine cs.mono ?_; rintro e w4 ⟨rfl, g4⟩; clear cs)
        | (rw [← unhide HW3]))
      go_ret
      rw [unhide HFN]
      exact ⟨rfl, unhide HR _ _ (unhide HR3) g4, tn G3 g4⟩
  · have hx1 : (x == 0) = false := by simpa using hx0
    have hfin : Y = 11 := by rw [unhide HY]; exact if_neg (fun e => hx0 (by rw [hx, e]))
    have HFN := hide hfin
    have HR3 := hide hR3
    clear hfin hb2 hb3 hR2 hK2 hK3 hB3 hW3 hn2 hx hKK hR3 cf g2 g3
    go_wp2_with (rw [← unhide HW3])
    go_ret
    rw [unhide HFN]
    first
      | exact ⟨rfl, unhide HR3, G3⟩
      | (rw [← unhide HW3]; exact ⟨rfl, unhide HR3, G3⟩)

set_option maxRecDepth 100000 in
set_option maxHeartbeats 2000000 in
theorem formed_C (u w : World) (gu : u.grownBy w none) (ao : Option Addr) (c : Nat) (d : List UInt8) (hb : Bts u ao c d) (hd : d.length ≤ 1000000) (vb : Nat) (K : Int) (r : Int × List UInt8) (R : World → Prop) (hR : ∀ a b, R a → a.grownBy b none → R b)
    (hf : ∀ V rb bc, u.grownBy V none → w.grownBy V none → w.heap.size < rb → Rd V rb d 0 → Blk V w.heap.size 42 bc → Calls Tryz.prog 62 #[.pointer (some ⟨rb, 0, none⟩), .pointer (some ⟨vb, 0, none⟩)] V fun e w' => Again u w' K r (fun V' => R V' ∧ Blk V' w.heap.size 42 bc) e) :
    Calls Tryz.prog 61 #[.agg #[.int .i64 K, .slice ao d.length c], .int .i64 K, .func (.func 62) #[] #[.pointer (some ⟨vb, 0, none⟩)]] w fun e w' => e = .returned (.int .i64 (if r = (0, d) then 0 else 11)) ∧ R w' ∧ u.grownBy w' none := by
  obtain ⟨Y, hY⟩ : ∃ y : Int, y = (if r = (0, d) then 0 else 11) := ⟨_, rfl⟩
  rw [← hY]
  have HY := hide hY
  clear hY
  obtain ⟨n, hn⟩ : ∃ n, n = d.length := ⟨_, rfl⟩
  obtain ⟨W0, hW0, hB0, g0⟩ : ∃ W1, W1 = w.alloc (.cells #[.int .i64 K, .slice ao n c] 42) ∧ Blk W1 w.heap.size 42 [.int .i64 K, .slice ao n c] ∧ w.grownBy W1 none := box_new w _ _
  have cn := new_any W0 ao c d (hb.kept (tn gu g0) (fun _ e => by cases e)) (by omega)
  have c0 := hB0.cell 0
  have c1 := hB0.cell 1
  simp only [List.getElem?_cons_zero, List.getElem?_cons_succ] at c0 c1
  rw [← hn] at cn ⊢
  have HN := hide hn
  have HW0 := hide hW0
  have HF := hide hf
  have HR := hide hR
  have HB := hide hb
  have HB0 := hide hB0
  have HGU := hide gu
  have HG0 := hide g0
  clear hn hW0 hf hR hb hB0 gu g0
  go_enter Tryz.func61, Tryz.ntmps61
  go_wp2_with (rw [← unhide HW0])
  refine cn.mono ?_
  rintro e w1 ⟨rb, rfl, hrb, hRd, g1⟩
  have hws : w.heap.size < W0.heap.size := (unhide HB0).lt
  have cf := unhide HF w1 rb _ (tn (tn (unhide HGU) (unhide HG0)) g1) (tn (unhide HG0) g1) (by omega) hRd ((unhide HB0).kept g1 (by simp))
  clear cn hRd g1 c0 c1
  go_wp2_with fail
  refine cf.mono ?_
  rintro e w2 ⟨v2, rfl, ⟨a2, c2, rfl, hb2⟩, ⟨hR2, hK2⟩, g2⟩
  obtain ⟨n2, hn2⟩ : ∃ n, n = r.2.length := ⟨_, rfl⟩
  obtain ⟨x, hx⟩ : ∃ x : Int, x = r.1 := ⟨_, rfl⟩
  rw [← hn2, ← hx]
  obtain ⟨KK, hKK⟩ : ∃ k : Int, k = (if x = 0 then K else 0) := ⟨_, rfl⟩
  rw [← hKK]
  obtain ⟨W3, hW3, hB3, g3⟩ : ∃ W1, W1 = w2.alloc (.cells #[.int .i64 KK, .slice a2 n2 c2] 42) ∧ Blk W1 w2.heap.size 42 [.int .i64 KK, .slice a2 n2 c2] ∧ w2.grownBy W1 none := box_new w2 _ _
  have hK3 := hK2.kept g3 (by simp)
  have d0 := hK3.cell 0
  have d1 := hK3.cell 1
  have f0 := hB3.cell 0
  have f1 := hB3.cell 1
  simp only [List.getElem?_cons_zero, List.getElem?_cons_succ] at d0 d1 f0 f1
  have HW3 := hide hW3
  have hb3 := hb2.kept g3 (fun _ e => by cases e)
  have G3 := tn g2 g3
  have hR3 := unhide HR w2 W3 hR2 g3
  by_cases hx0 : x = 0
  · have hKe : KK = K := by rw [hKK, if_pos hx0]
    have hbd : Bts W3 ao c d := (unhide HB).kept G3 (fun _ e => by cases e)
    have cs := same_any W3 KK K a2 ao c2 c r.2 d hb3 hbd
    rw [← hn2, ← unhide HN] at cs
    obtain ⟨B, hB⟩ : ∃ B, B = decide (KK = K ∧ r.2 = d) := ⟨_, rfl⟩
    rw [← hB] at cs
    have hfin : Y = (if B = true then 0 else 11) := by
      rw [hB, unhide HY]
      by_cases hq : r.2 = d
      · rw [if_pos (show r = (0, d) by rw [← hq, ← hx0, hx]), if_pos (by simp [hKe, hq])]
      · rw [if_neg (show ¬ r = (0, d) from fun e => hq (by rw [e])), if_neg (by simp [hq])]
    have HFN := hide hfin
    have HR3 := hide hR3
    clear hKe hbd hB hfin hb2 hb3 hR2 hK2 hK3 hB3 hW3 hn2 hx hKK hR3 cf g2 g3
    subst hx0
    cases B
    · go_wp2_with (first
        | (go_at_call 88; refine cs.mono ?_; rintro e w4 ⟨rfl, g4⟩; clear cs)
        | (rw [← unhide HW3]))
      go_ret
      rw [unhide HFN]
      exact ⟨rfl, unhide HR _ _ (unhide HR3) g4, tn G3 g4⟩
    · go_wp2_with (first
        | (go_at_call 88; refine cs.mono ?_; rintro e w4 ⟨rfl, g4⟩; clear cs)
        | (rw [← unhide HW3]))
      go_ret
      rw [unhide HFN]
      exact ⟨rfl, unhide HR _ _ (unhide HR3) g4, tn G3 g4⟩
  · have hx1 : (x == 0) = false := by simpa using hx0
    have hfin : Y = 11 := by rw [unhide HY]; exact if_neg (fun e => hx0 (by rw [hx, e]))
    have HFN := hide hfin
    have HR3 := hide hR3
    clear hfin hb2 hb3 hR2 hK2 hK3 hB3 hW3 hn2 hx hKK hR3 cf g2 g3
    go_wp2_with (rw [← unhide HW3])
    go_ret
    rw [unhide HFN]
    first
      | exact ⟨rfl, unhide HR3, G3⟩
      | (rw [← unhide HW3]; exact ⟨rfl, unhide HR3, G3⟩)

set_option maxRecDepth 100000 in
set_option maxHeartbeats 2000000 in
theorem formed_M (u w : World) (gu : u.grownBy w none) (ao : Option Addr) (c : Nat) (d : List UInt8) (hb : Bts u ao c d) (hd : d.length ≤ 1000000) (vb : Nat) (K : Int) (r : Int × List UInt8) (R : World → Prop) (hR : ∀ a b, R a → a.grownBy b none → R b)
    (hf : ∀ V rb bc, u.grownBy V none → w.grownBy V none → w.heap.size < rb → Rd V rb d 0 → Blk V w.heap.size 42 bc → Calls Tryz.prog 145 #[.pointer (some ⟨rb, 0, none⟩), .pointer (some ⟨vb, 0, none⟩)] V fun e w' => Again u w' K r (fun V' => R V' ∧ Blk V' w.heap.size 42 bc) e) :
    Calls Tryz.prog 61 #[.agg #[.int .i64 K, .slice ao d.length c], .int .i64 K, .func (.func 145) #[] #[.pointer (some ⟨vb, 0, none⟩)]] w fun e w' => e = .returned (.int .i64 (if r = (0, d) then 0 else 11)) ∧ R w' ∧ u.grownBy w' none := by
  obtain ⟨Y, hY⟩ : ∃ y : Int, y = (if r = (0, d) then 0 else 11) := ⟨_, rfl⟩
  rw [← hY]
  have HY := hide hY
  clear hY
  obtain ⟨n, hn⟩ : ∃ n, n = d.length := ⟨_, rfl⟩
  obtain ⟨W0, hW0, hB0, g0⟩ : ∃ W1, W1 = w.alloc (.cells #[.int .i64 K, .slice ao n c] 42) ∧ Blk W1 w.heap.size 42 [.int .i64 K, .slice ao n c] ∧ w.grownBy W1 none := box_new w _ _
  have cn := new_any W0 ao c d (hb.kept (tn gu g0) (fun _ e => by cases e)) (by omega)
  have c0 := hB0.cell 0
  have c1 := hB0.cell 1
  simp only [List.getElem?_cons_zero, List.getElem?_cons_succ] at c0 c1
  rw [← hn] at cn ⊢
  have HN := hide hn
  have HW0 := hide hW0
  have HF := hide hf
  have HR := hide hR
  have HB := hide hb
  have HB0 := hide hB0
  have HGU := hide gu
  have HG0 := hide g0
  clear hn hW0 hf hR hb hB0 gu g0
  go_enter Tryz.func61, Tryz.ntmps61
  go_wp2_with (rw [← unhide HW0])
  refine cn.mono ?_
  rintro e w1 ⟨rb, rfl, hrb, hRd, g1⟩
  have hws : w.heap.size < W0.heap.size := (unhide HB0).lt
  have cf := unhide HF w1 rb _ (tn (tn (unhide HGU) (unhide HG0)) g1) (tn (unhide HG0) g1) (by omega) hRd ((unhide HB0).kept g1 (by simp))
  clear cn hRd g1 c0 c1
  go_wp2_with fail
  refine cf.mono ?_
  rintro e w2 ⟨v2, rfl, ⟨a2, c2, rfl, hb2⟩, ⟨hR2, hK2⟩, g2⟩
  obtain ⟨n2, hn2⟩ : ∃ n, n = r.2.length := ⟨_, rfl⟩
  obtain ⟨x, hx⟩ : ∃ x : Int, x = r.1 := ⟨_, rfl⟩
  rw [← hn2, ← hx]
  obtain ⟨KK, hKK⟩ : ∃ k : Int, k = (if x = 0 then K else 0) := ⟨_, rfl⟩
  rw [← hKK]
  obtain ⟨W3, hW3, hB3, g3⟩ : ∃ W1, W1 = w2.alloc (.cells #[.int .i64 KK, .slice a2 n2 c2] 42) ∧ Blk W1 w2.heap.size 42 [.int .i64 KK, .slice a2 n2 c2] ∧ w2.grownBy W1 none := box_new w2 _ _
  have hK3 := hK2.kept g3 (by simp)
  have d0 := hK3.cell 0
  have d1 := hK3.cell 1
  have f0 := hB3.cell 0
  have f1 := hB3.cell 1
  simp only [List.getElem?_cons_zero, List.getElem?_cons_succ] at d0 d1 f0 f1
  have HW3 := hide hW3
  have hb3 := hb2.kept g3 (fun _ e => by cases e)
  have G3 := tn g2 g3
  have hR3 := unhide HR w2 W3 hR2 g3
  by_cases hx0 : x = 0
  · have hKe : KK = K := by rw [hKK, if_pos hx0]
    have hbd : Bts W3 ao c d := (unhide HB).kept G3 (fun _ e => by cases e)
    have cs := same_any W3 KK K a2 ao c2 c r.2 d hb3 hbd
    rw [← hn2, ← unhide HN] at cs
    obtain ⟨B, hB⟩ : ∃ B, B = decide (KK = K ∧ r.2 = d) := ⟨_, rfl⟩
    rw [← hB] at cs
    have hfin : Y = (if B = true then 0 else 11) := by
      rw [hB, unhide HY]
      by_cases hq : r.2 = d
      · rw [if_pos (show r = (0, d) by rw [← hq, ← hx0, hx]), if_pos (by simp [hKe, hq])]
      · rw [if_neg (show ¬ r = (0, d) from fun e => hq (by rw [e])), if_neg (by simp [hq])]
    have HFN := hide hfin
    have HR3 := hide hR3
    clear hKe hbd hB hfin hb2 hb3 hR2 hK2 hK3 hB3 hW3 hn2 hx hKK hR3 cf g2 g3
    subst hx0
    cases B
    · go_wp2_with (first
        | (go_at_call 88; refine cs.mono ?_; rintro e w4 ⟨rfl, g4⟩; clear cs)
        | (rw [← unhide HW3]))
      go_ret
      rw [unhide HFN]
      exact ⟨rfl, unhide HR _ _ (unhide HR3) g4, tn G3 g4⟩
    · go_wp2_with (first
        | (go_at_call 88; refine cs.mono ?_; rintro e w4 ⟨rfl, g4⟩; clear cs)
        | (rw [← unhide HW3]))
      go_ret
      rw [unhide HFN]
      exact ⟨rfl, unhide HR _ _ (unhide HR3) g4, tn G3 g4⟩
  · have hx1 : (x == 0) = false := by simpa using hx0
    have hfin : Y = 11 := by rw [unhide HY]; exact if_neg (fun e => hx0 (by rw [hx, e]))
    have HFN := hide hfin
    have HR3 := hide hR3
    clear hfin hb2 hb3 hR2 hK2 hK3 hB3 hW3 hn2 hx hKK hR3 cf g2 g3
    go_wp2_with (rw [← unhide HW3])
    go_ret
    rw [unhide HFN]
    first
      | exact ⟨rfl, unhide HR3, G3⟩
      | (rw [← unhide HW3]; exact ⟨rfl, unhide HR3, G3⟩)

end Go.Proofs.YtlifmipnoeioaaaGreatDoor

/- What object's TreeOf, ChangeOf and MarkOf answer. Of data of at most 100000 bytes. -/
namespace Go.Proofs.YtlifmipnoeioaaaGreatDoor
open Go.RowKit

/-- What TreeOf, ChangeOf, MarkOf tell. -/
def telT (k : Int) (d : List UInt8) : Int × List EntL := if k = 2 then (if ofTree (readT d) = (0, d) then (0, readT d) else (11, [])) else (2, [])
def zeroCh : ChgL := ⟨List.replicate 32 0, [], 0, [], []⟩
def zeroMk : MrkL := ⟨List.replicate 32 0, [], []⟩
def telC (k : Int) (d : List UInt8) : Int × ChgL := if k = 3 then (if ofChg (readC d) = (0, d) then (0, readC d) else (11, zeroCh)) else (2, zeroCh)
def telM (k : Int) (d : List UInt8) : Int × MrkL := if k = 4 then (if ofMrk (readM d) = (0, d) then (0, readM d) else (11, zeroMk)) else (2, zeroMk)

set_option maxRecDepth 100000 in
set_option maxHeartbeats 2000000 in
theorem treeOf_any (w : World) (k : Int) (ao : Option Addr) (c : Nat) (d : List UInt8) (hb : Bts w ao c d) (hd : d.length ≤ 100000) :
    Calls Tryz.prog 112 #[.agg #[.int .i64 k, .slice ao d.length c]] w fun e w' => ∃ v y, e = .returned (.tuple #[v, .int .i64 y]) ∧ y = (telT k d).1 ∧ w'.ownsRow w.heap.size 120 34 v (telT k d).2.length ((telT k d).2.flatMap enC) ∧ w.grownBy w' none := by
  obtain ⟨n, hn⟩ : ∃ n, n = d.length := ⟨_, rfl⟩
  obtain ⟨W0, hW0, hB0, g0⟩ : ∃ W1, W1 = w.alloc (.cells #[.int .i64 k, .slice ao n c] 42) ∧ Blk W1 w.heap.size 42 [.int .i64 k, .slice ao n c] ∧ w.grownBy W1 none := box_new w _ _
  obtain ⟨W1, hW1, hB1, g1⟩ : ∃ W1, W1 = W0.alloc (.cells #[.slice none 0 0] 118) ∧ Blk W1 W0.heap.size 118 [.slice none 0 0] ∧ W0.grownBy W1 none := box_new W0 _ _
  have hs0 : W0.heap.size = w.heap.size + 1 := by rw [hW0]; simp
  rw [hs0] at hB1
  have hBo := hB0.kept g1 (by simp)
  have c0 := hBo.cell 0
  have c1 := hBo.cell 1
  simp only [List.getElem?_cons_zero, List.getElem?_cons_succ] at c0 c1
  have G1 := tn g0 g1
  have hs1 : W1.heap.size = w.heap.size + 2 := by rw [hW1, hW0]; simp
  have hW : W1 = (w.alloc (.cells #[.int .i64 k, .slice ao n c] 42)).alloc (.cells #[.slice none 0 0] 118) := by rw [hW1, hW0]
  have HW := hide hW
  by_cases hk : k = 2
  · subst hk
    have cf := formed_T w W1 G1 ao c d hb (by omega) (w.heap.size + 1) 2 (ofTree (readT d)) (KeptT w (w.heap.size + 1) (readT d)) (fun a b h g => h.none g)
      (fun V rb bc gu gw hrb hRd hbk => cloT_any w V rb (w.heap.size + 1) d (by omega) _ gu (Nat.le_succ _) (by omega) (by omega) hRd (hB1.kept gw (by simp)) W1.heap.size bc hbk (by omega) (by omega))
    rw [← hn] at cf
    rw [← hn]
    have hT : telT 2 d = (if ofTree (readT d) = (0, d) then (0, readT d) else (11, [])) := by simp [telT]
    obtain ⟨t, ht⟩ : ∃ t, t = telT 2 d := ⟨_, rfl⟩
    rw [← ht] at hT ⊢
    obtain ⟨y, hy⟩ : ∃ y : Int, y = (if ofTree (readT d) = (0, d) then 0 else 11) := ⟨_, rfl⟩
    rw [← hy] at cf
    have hyc : (y = 0 ∧ t = (0, readT d)) ∨ (y = 11 ∧ t = (11, [])) := by
      by_cases hq : ofTree (readT d) = (0, d)
      · left; rw [hT, hy, if_pos hq, if_pos hq]; exact ⟨rfl, rfl⟩
      · right; rw [hT, hy, if_neg hq, if_neg hq]; exact ⟨rfl, rfl⟩
    clear hW1 hW0 hW hB0 hB1 hBo g0 g1 hT hy hn ht hs0 hs1 hb hd
    rcases hyc with ⟨rfl, ht⟩ | ⟨rfl, ht⟩
    · have HT := hide ht
      clear ht
      go_enter Tryz.func112, Tryz.ntmps112
      go_wp2_with (rw [← unhide HW])
      refine cf.mono ?_
      rintro e w2 ⟨rfl, ⟨v, hB2, ho2⟩, g2⟩
      have c2 := hB2.cell 0
      simp only [List.getElem?_cons_zero] at c2
      have HO := hide ho2
      clear cf ho2 hB2 c0 c1
      go_wp2
      refine bodyPost_ret (v := .tuple #[v, .int .i64 0]) (by simp [results, Tryz.results112, go_sem]) rfl ?_
      exact ⟨v, 0, rfl, by rw [unhide HT], by rw [unhide HT]; exact unhide HO, g2⟩
    · have HT := hide ht
      clear ht
      go_enter Tryz.func112, Tryz.ntmps112
      go_wp2_with (rw [← unhide HW])
      refine cf.mono ?_
      rintro e w2 ⟨rfl, hkp, g2⟩
      clear cf hkp c0 c1
      go_wp2
      refine bodyPost_ret (v := .tuple #[.slice none 0 0, .int .i64 11]) (by simp [results, Tryz.results112, go_sem]) rfl ?_
      exact ⟨_, 11, rfl, by rw [unhide HT], by rw [unhide HT]; exact World.ownsRow_nil _ _ _ _, g2⟩
  · have cf := formed_no W1 k 2 (by simpa using hk) ao n c (.func (.func 143) #[] #[.pointer (some ⟨w.heap.size + 1, 0, none⟩)])
    rw [← hn]
    have ht : telT k d = (2, []) := by simp [telT, hk]
    have HT := hide ht
    clear hW1 hW0 hW hB0 hB1 hBo g0 g1 hn ht hs0 hs1 hb hd
    go_enter Tryz.func112, Tryz.ntmps112
    go_wp2_with (rw [← unhide HW])
    refine cf.mono ?_
    rintro e w2 ⟨rfl, g2⟩
    clear cf c0 c1
    go_wp2
    refine bodyPost_ret (v := .tuple #[.slice none 0 0, .int .i64 2]) (by simp [results, Tryz.results112, go_sem]) rfl ?_
    exact ⟨_, 2, rfl, by rw [unhide HT], by rw [unhide HT]; exact World.ownsRow_nil _ _ _ _, tn G1 g2⟩

end Go.Proofs.YtlifmipnoeioaaaGreatDoor
