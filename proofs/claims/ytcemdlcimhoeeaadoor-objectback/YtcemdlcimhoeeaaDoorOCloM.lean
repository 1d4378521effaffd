/- What ChangeOf's closure does: it reads the commit, keeps it, and makes it again. Of data of at most 1000000 bytes. -/
import Derived.Test.YtcemdlcimhoeeaaDoorOCloT
namespace Go.Proofs.YtcemdlcimhoeeaaDoor
open Go.RowKit

/-- The commit that was read lies there. -/
def KeptC (u : World) (vb : Nat) (c : ChgL) (w : World) : Prop := ∃ po pc, Blk w vb 28 (chC c po pc) ∧ w.ownsRow u.heap.size 24 32 (.slice po c.pars.length pc) c.pars.length (c.pars.flatMap (·.map bv))

theorem KeptC.none {u : World} {vb : Nat} {c : ChgL} {a b : World} (h : KeptC u vb c a) (g : a.grownBy b none) : KeptC u vb c b := by
  obtain ⟨po, pc, h1, h2⟩ := h
  exact ⟨po, pc, h1.kept g (by simp), own_id h2 g (fun x e => by cases e)⟩

theorem readC_ok (d : List UInt8) : (readC d).tree.length = 32 ∧ (∀ x ∈ (readC d).pars, x.length = 32) ∧ (readC d).pars.length ≤ 4 ∧ (readC d).author.length ≤ d.length ∧ (readC d).text.length ≤ d.length := by
  unfold readC
  simp only
  refine ⟨raw32_len _ _, runP_ids _ _, ?_, ?_, ?_⟩
  · rw [runP_len]; exact Nat.min_le_right _ _
  · refine Nat.le_trans (sizedS_le _ _) (Nat.le_trans (numS_len _ _ _) (Nat.le_trans (runP_left _ _) (Nat.le_trans (numS_len _ _ _) (rawS_len _ _ _))))
  · refine Nat.le_trans (sizedS_le _ _) (Nat.le_trans (sizedS_len _ _) (Nat.le_trans (numS_len _ _ _) (Nat.le_trans (runP_left _ _) (Nat.le_trans (numS_len _ _ _) (rawS_len _ _ _)))))

set_option maxRecDepth 100000 in
set_option maxHeartbeats 2000000 in
theorem cloC_any (u w : World) (rb vb : Nat) (d : List UInt8) (hl : d.length ≤ 1000000) (old : List Value) (ho36 : old.length = 36) (gu : u.grownBy w none) (hv : u.heap.size ≤ vb) (hr : u.heap.size ≤ rb) (hne : rb ≠ vb) (hR : Rd w rb d 0) (hB : Blk w vb 28 old) (bk : Nat) (bc : List Value) (hbk : Blk w bk 34 bc) (hkr : bk ≠ rb) (hkv : bk ≠ vb) (b2 : Nat) (t2 : TypeId) (cs2 : List Value) (hb2 : Blk w b2 t2 cs2) (h2r : b2 ≠ rb) (h2v : b2 ≠ vb) :
    Calls Tryd.prog 30 #[.pointer (some ⟨rb, 0, none⟩), .pointer (some ⟨vb, 0, none⟩)] w fun e w' => Again u w' 3 (ofChg (readC d)) (fun V => (KeptC u vb (readC d) V ∧ Blk V b2 t2 cs2) ∧ Blk V bk 34 bc) e := by
  have hvl := hB.lt
  have hbl := hbk.lt
  have hbl2 := hb2.lt
  have hrl := hR.lt
  obtain ⟨W1, hW1, hB1, g1⟩ : ∃ W1, W1 = w.alloc (.cells #[.int .i64 0, .slice none 0 0] 34) ∧ Blk W1 w.heap.size 34 [.int .i64 0, .slice none 0 0] ∧ w.grownBy W1 none := box_new w _ _
  have cr := readChg_any W1 rb d hl (hR.kept g1 (Or.inl rfl))
  obtain ⟨k1, k2, k3, k4, k5⟩ := readC_ok d
  obtain ⟨cm, hcm⟩ : ∃ c, c = readC d := ⟨_, rfl⟩
  rw [← hcm] at cr k1 k2 k3 k4 k5 ⊢
  have HK1 := hide k1
  have HK2 := hide k2
  have HK3 := hide k3
  have HK4 := hide (Nat.le_trans k4 hl)
  have HK5 := hide (Nat.le_trans k5 hl)
  have HW1 := hide hW1
  have HBV := hide (hB.kept g1 (by simp))
  have HB1 := hide hB1
  have HK := hide (hbk.kept g1 (by simp))
  have HJ := hide (hb2.kept g1 (by simp))
  have HG1 := hide (tn gu g1)
  have hus : u.heap.size ≤ w.heap.size := gu.size
  clear hW1 hB g1 hR hcm hB1 gu k1 k2 k3 k4 k5 hl hbk hb2
  go_enter Tryd.func30, Tryd.ntmps30
  go_wp2_with (rw [← unhide HW1])
  refine cr.mono ?_
  rintro e w2 ⟨v2, rfl, ho2, g2⟩
  have hs1 : w.heap.size < W1.heap.size := (unhide HB1).lt
  obtain ⟨ao, c, hv2⟩ := own_sl ho2
  subst hv2
  have hBv := (unhide HBV).kept g2 (by simp; omega)
  have hBo := (unhide HB1).kept g2 (by simp; omega)
  have hK2 := (unhide HK).kept g2 (by simpa using hkr)
  have hJ2 := (unhide HJ).kept g2 (by simpa using h2r)
  have G2 : u.grownBy w2 none := gb_trans (unhide HG1) g2 (fun x e => by cases e; exact Or.inl hr)
  have ho2' := own_low ho2 (unhide HG1).size
  obtain ⟨C, hC⟩ : ∃ C, C = chC cm ao c := ⟨_, rfl⟩
  rw [← chR_chC, ← hC]
  have hCl : C.length = 36 := by rw [hC]; exact chC_len _ _ _ (unhide HK1)
  have hCo : C.toArray.all (·.oneCell') = true := by rw [hC]; exact all_oneCell_toArray (chC_one _ _ _)
  obtain ⟨w3, hw3⟩ : ∃ V, V = w2.setRow vb C.toArray := ⟨_, rfl⟩
  have hB3 : Blk w3 vb 28 C := by rw [hw3]; exact hBv.row _
  have hA3 : Blk w3 w.heap.size 34 [.int .i64 0, .slice none 0 0] := by rw [hw3]; exact hBo.row_other _ _ (by omega)
  have hO3 : w3.ownsRow u.heap.size 24 32 (.slice ao cm.pars.length c) cm.pars.length (cm.pars.flatMap (·.map bv)) := by rw [hw3]; exact own_row_id ho2' hBv (by decide) _
  have G3 : u.grownBy w3 none := by rw [hw3]; exact gb_row G2 _ (Or.inl hv)
  have hr3 := blk_all hB3
  have hi3 : (Tryd.prog.info? 28).map (·.size) = some C.length := by rw [hCl]; exact info_chg
  have hi4 : (Tryd.prog.info? 28).map (·.size) = some C.toArray.size := by simpa using hi3
  have hos : old.toArray.size = C.toArray.size := by simp [ho36, hCl]
  have hE3 : Ids w3 ao c cm.pars := by
    obtain ⟨ao2, c2, e1, e2⟩ := Ids.own hO3 (unhide HK2)
    injection e1 with e3 e4 e5
    subst e3 e5
    exact e2
  have co := ofChg_any w3 cm ao c hE3 (unhide HK1) (unhide HK4) (unhide HK5) (by have := unhide HK3; omega)
  rw [← hC] at co
  have HI3 := hide hi3
  have HI4 := hide hi4
  have HOS := hide hos
  have HCO := hide hCo
  have HC := hide hC
  have HBV2 := hide hBv
  obtain ⟨r, hrr⟩ : ∃ r, r = ofChg cm := ⟨_, rfl⟩
  rw [← hrr] at co
  have HR := hide hrr
  have HW3 := hide hw3
  have HB3 := hide hB3
  have HA3 := hide hA3
  have HO3 := hide hO3
  have HK3 := hide (show Blk w3 bk 34 bc by rw [hw3]; exact hK2.row_other _ _ hkv.symm)
  have HJ3 := hide (show Blk w3 b2 t2 cs2 by rw [hw3]; exact hJ2.row_other _ _ h2v.symm)
  have HG3 := hide G3
  clear cr ho2 ho2' hBv hBo G2 hw3 hB3 hA3 hO3 G3 hE3 g2 hrr HG1 HB1 HBV hi3 hi4 hos hCo hC hCl hK2 hJ2
  go_wp2_with (first
    | (refine wpList_store_row rfl 28 _ _ rfl vb C.toArray rfl rfl _ _ (unhide HBV2) (unhide HI4) (unhide HOS) (unhide HCO) ?_; rw [← unhide HW3])
    | (refine wpList_load_mid rfl 28 _ rfl vb 0 rfl C _ hr3 Tryd.underlying28 rfl (unhide HI3) ?_; clear hr3))
  refine co.mono ?_
  rintro e w4 ⟨v4, rfl, hN4, g4⟩
  have hA4 := (unhide HA3).kept g4 (by simp)
  have hK4 := (unhide HK3).kept g4 (by simp)
  have hJ4 := (unhide HJ3).kept g4 (by simp)
  have hB4 := (unhide HB3).kept g4 (by simp)
  have hO4 := own_id (unhide HO3) g4 (fun x e => by cases e)
  have G4 := tn (unhide HG3) g4
  have h1c : v4.oneCell' = true := by obtain ⟨_, _, rfl, _⟩ := hN4; rfl
  obtain ⟨x, hx⟩ : ∃ x : Int, x = r.1 := ⟨_, rfl⟩
  rw [← hx]
  obtain ⟨K, hK⟩ : ∃ K : Int, K = (if x = 0 then 3 else 0) := ⟨_, rfl⟩
  rw [← hK]
  have HKK := hide hK
  have HX := hide hx
  clear co hK hx
  rw [unhide HC] at hB4
  go_wp2_with (refine wpList_store_row rfl 34 _ _ rfl w.heap.size #[.int .i64 K, v4] rfl rfl _ _ hA4 info_obj rfl (obj_one h1c) ?_)
  refine bodyPost_ret (results_row_tmp rfl _ _ _ _ _ _ _ rfl (hA4.row [.int .i64 K, v4]) Tryd.underlying34 rfl info_obj) rfl ?_
  have gF := gb_row (gb_refl w4 (some w.heap.size)) #[.int .i64 K, v4] (Or.inr rfl)
  rw [← unhide HR]
  refine ⟨v4, ?_, ?_, ⟨⟨⟨_, _, hB4.row_other _ _ (by omega), own_row_id hO4 hA4 (by decide) _⟩, hJ4.row_other _ _ (by omega)⟩, hK4.row_other _ _ (by omega)⟩, gb_row G4 _ (Or.inl hus)⟩
  · rw [← unhide HX, ← unhide HKK]
    rfl
  · obtain ⟨a', c', e1, e2, e3⟩ := hN4
    refine ⟨a', c', e1, e2.kept gF ?_⟩
    intro x e ad e5 e4
    cases e
    exact hA4.typ (by decide) (e4 ▸ (e3 ad e5).2)

end Go.Proofs.YtcemdlcimhoeeaaDoor

/- What MarkOf's closure does: it reads the note, keeps it, and makes it again. Of data of at most 1000000 bytes. -/
namespace Go.Proofs.YtcemdlcimhoeeaaDoor
open Go.RowKit

/-- The note that was read lies there. -/
def KeptM (vb : Nat) (m : MrkL) (w : World) : Prop := Blk w vb 30 (mkC m)

theorem KeptM.none {vb : Nat} {m : MrkL} {a b : World} (h : KeptM vb m a) (g : a.grownBy b none) : KeptM vb m b := Blk.kept h g (by simp)

theorem readM_ok (d : List UInt8) : (readM d).target.length = 32 ∧ (readM d).name.length ≤ d.length ∧ (readM d).text.length ≤ d.length := by
  unfold readM
  simp only
  refine ⟨raw32_len _ _, ?_, ?_⟩
  · exact Nat.le_trans (sizedS_le _ _) (rawS_len _ _ _)
  · exact Nat.le_trans (sizedS_le _ _) (Nat.le_trans (sizedS_len _ _) (rawS_len _ _ _))

set_option maxRecDepth 100000 in
set_option maxHeartbeats 2000000 in
theorem cloM_any (u w : World) (rb vb : Nat) (d : List UInt8) (hl : d.length ≤ 100000) (old : List Value) (ho36 : old.length = 34) (gu : u.grownBy w none) (hv : u.heap.size ≤ vb) (hr : u.heap.size ≤ rb) (hne : rb ≠ vb) (hR : Rd w rb d 0) (hB : Blk w vb 30 old) (bk : Nat) (bc : List Value) (hbk : Blk w bk 34 bc) (hkr : bk ≠ rb) (hkv : bk ≠ vb) (b2 : Nat) (t2 : TypeId) (cs2 : List Value) (hb2 : Blk w b2 t2 cs2) (h2r : b2 ≠ rb) (h2v : b2 ≠ vb) :
    Calls Tryd.prog 34 #[.pointer (some ⟨rb, 0, none⟩), .pointer (some ⟨vb, 0, none⟩)] w fun e w' => Again u w' 4 (ofMrk (readM d)) (fun V => (KeptM vb (readM d) V ∧ Blk V b2 t2 cs2) ∧ Blk V bk 34 bc) e := by
  have hvl := hB.lt
  have hbl := hbk.lt
  have hbl2 := hb2.lt
  have hrl := hR.lt
  obtain ⟨W1, hW1, hB1, g1⟩ : ∃ W1, W1 = w.alloc (.cells #[.int .i64 0, .slice none 0 0] 34) ∧ Blk W1 w.heap.size 34 [.int .i64 0, .slice none 0 0] ∧ w.grownBy W1 none := box_new w _ _
  have cr := readMrk_any W1 rb d (by omega) (hR.kept g1 (Or.inl rfl))
  obtain ⟨k1, k4, k5⟩ := readM_ok d
  obtain ⟨m, hcm⟩ : ∃ c, c = readM d := ⟨_, rfl⟩
  rw [← hcm] at cr k1 k4 k5 ⊢
  have HK1 := hide k1
  have HK4 := hide (Nat.le_trans k4 hl)
  have HK5 := hide (Nat.le_trans k5 hl)
  have HW1 := hide hW1
  have HBV := hide (hB.kept g1 (by simp))
  have HB1 := hide hB1
  have HK := hide (hbk.kept g1 (by simp))
  have HJ := hide (hb2.kept g1 (by simp))
  have HG1 := hide (tn gu g1)
  have hus : u.heap.size ≤ w.heap.size := gu.size
  clear hW1 hB g1 hR hcm hB1 gu k1 k4 k5 hl hbk hb2
  go_enter Tryd.func34, Tryd.ntmps34
  go_wp2_with (rw [← unhide HW1])
  refine cr.mono ?_
  rintro e w2 ⟨rfl, g2⟩
  have hs1 : w.heap.size < W1.heap.size := (unhide HB1).lt
  have hBv := (unhide HBV).kept g2 (by simp; omega)
  have hBo := (unhide HB1).kept g2 (by simp; omega)
  have hK2 := (unhide HK).kept g2 (by simpa using hkr)
  have hJ2 := (unhide HJ).kept g2 (by simpa using h2r)
  have G2 : u.grownBy w2 none := gb_trans (unhide HG1) g2 (fun x e => by cases e; exact Or.inl hr)
  obtain ⟨Z, hZ⟩ : ∃ Z : List Value, Z = chR (List.replicate 32 0) (.slice none 0 0) 0 [] [] := ⟨_, rfl⟩
  have hzv : ∀ w, (zeroValue 28).run Tryd.prog w = .ok (.agg Z.toArray) w := fun w => by rw [hZ]; exact zero_chgR w
  have hZl : Z.length = 36 := by rw [hZ]; rfl
  obtain ⟨C, hC⟩ : ∃ C, C = chR m.target (.slice none 0 0) 0 m.name m.text := ⟨_, rfl⟩
  rw [← hC]
  have hCl : C.length = 36 := by rw [hC]; exact chR_len _ _ _ _ _ (unhide HK1)
  have hCo : C.toArray.all (·.oneCell') = true := by rw [hC]; exact all_oneCell_toArray (chR_one _ _ _ _ _ rfl)
  obtain ⟨W3, hW3, hBC, g3⟩ := row_new w2 28 Z.toArray C
  obtain ⟨q1, q2, q3, q4⟩ := chR_at m.target (.slice none 0 0) 0 m.name m.text (unhide HK1)
  rw [← hC] at q3 q4
  have hcn : W3.cell? ⟨w2.heap.size, 34, none⟩ = some (.string (str m.name)) := by rw [hBC.cell 34, q3]
  have hct : W3.cell? ⟨w2.heap.size, 35, none⟩ = some (.string (str m.text)) := by rw [hBC.cell 35, q4]
  have hrT : W3.rangeAt w2.heap.size 0 (m.target.map bv) := by
    have h1 := blk_all hBC
    rw [hC] at h1
    exact ch_tree (c := ⟨m.target, [], 0, m.name, m.text⟩) (po := none) (pc := 0) h1
  have hiC : (Tryd.prog.info? 28).map (·.size) = some C.toArray.size := by rw [show C.toArray.size = 36 by simpa using hCl]; exact info_chg
  have hZC : Z.toArray.size = C.toArray.size := by simp [hZl, hCl]
  have hBv3 := hBv.kept g3 (by simp)
  have hBo3 := hBo.kept g3 (by simp)
  have G3a := tn G2 g3
  have hbt : Tryd.prog.built 30 [(0, .agg (m.target.map bv).toArray), (1, .string (str m.name)), (2, .string (str m.text))] = some (mkC m).toArray := built_mrk m.target (str m.name) (str m.text) (unhide HK1)
  have hiT : (Tryd.prog.info? 24).map (·.size) = some (m.target.map bv).length := by rw [List.length_map, unhide HK1]; exact info_id
  obtain ⟨TG, hTG⟩ : ∃ T, T = m.target.map bv := ⟨_, rfl⟩
  rw [← hTG] at hrT hbt hiT
  obtain ⟨MC, hMC⟩ : ∃ T, T = mkC m := ⟨_, rfl⟩
  rw [← hMC] at hbt
  have hMl : MC.length = 34 := by rw [hMC]; exact mkC_len _ (unhide HK1)
  have hMo : MC.toArray.all (·.oneCell') = true := by rw [hMC]; exact all_oneCell_toArray (mkC_one _)
  obtain ⟨N, hN⟩ : ∃ N, N = str m.name := ⟨_, rfl⟩
  obtain ⟨X, hX⟩ : ∃ N, N = str m.text := ⟨_, rfl⟩
  rw [← hN] at hcn hbt
  rw [← hX] at hct hbt
  obtain ⟨w3, hw3⟩ : ∃ V, V = W3.setRow vb MC.toArray := ⟨_, rfl⟩
  have hB3 : Blk w3 vb 30 MC := by rw [hw3]; exact hBv3.row _
  have hA3 : Blk w3 w.heap.size 34 [.int .i64 0, .slice none 0 0] := by rw [hw3]; exact hBo3.row_other _ _ (by omega)
  have G3 : u.grownBy w3 none := by rw [hw3]; exact gb_row G3a _ (Or.inl hv)
  have hr3 := blk_all hB3
  have hi3 : (Tryd.prog.info? 30).map (·.size) = some MC.length := by rw [hMl]; exact info_mrk
  have hi4 : (Tryd.prog.info? 30).map (·.size) = some MC.toArray.size := by simpa using hi3
  have hos : old.toArray.size = MC.toArray.size := by simp [ho36, hMl]
  have co := ofMrk_any w3 m (unhide HK1) (unhide HK4) (by have := unhide HK5; omega)
  rw [← hMC] at co
  have HI3 := hide hi3
  have HI4 := hide hi4
  have HOS := hide hos
  have HMO := hide hMo
  have HMC := hide hMC
  have HBV2 := hide hBv3
  have HWC := hide hW3
  have HIC := hide hiC
  have HZC := hide hZC
  have HCO := hide hCo
  have HIT := hide hiT
  have HBT := hide hbt
  obtain ⟨r, hrr⟩ : ∃ r, r = ofMrk m := ⟨_, rfl⟩
  rw [← hrr] at co
  have HR := hide hrr
  have HW3 := hide hw3
  have HB3 := hide hB3
  have HA3 := hide hA3
  have HK3 := hide (show Blk w3 bk 34 bc by rw [hw3]; exact (hK2.kept g3 (by simp)).row_other _ _ hkv.symm)
  have HJ3 := hide (show Blk w3 b2 t2 cs2 by rw [hw3]; exact (hJ2.kept g3 (by simp)).row_other _ _ h2v.symm)
  have HG3 := hide G3
  clear cr hBv hBo G2 hw3 hB3 hA3 G3 g2 hrr HG1 HB1 HBV hi3 hi4 hos hMo hMC hMl hW3 hiC hZC hCo hiT hbt hBv3 hBo3 G3a g3 hBC hC hCl hZ hZl q1 q2 q3 q4 hTG hN hX hK2 hJ2
  go_wp2_with (first
    | (refine wpList_load_mid rfl 24 _ rfl w2.heap.size 0 rfl TG _ hrT Tryd.underlying24 rfl (unhide HIT) ?_; clear hrT)
    | (refine wpList_load_mid rfl 30 _ rfl vb 0 rfl MC _ hr3 Tryd.underlying30 rfl (unhide HI3) ?_; clear hr3)
    | (refine wpList_store_row rfl 28 _ _ rfl w2.heap.size C.toArray rfl rfl _ _ (heap_alloc_new _ _) (unhide HIC) (unhide HZC) (unhide HCO) ?_; rw [← unhide HWC])
    | (refine wpList_store_row rfl 30 _ _ rfl vb MC.toArray rfl rfl _ _ (unhide HBV2) (unhide HI4) (unhide HOS) (unhide HMO) ?_; rw [← unhide HW3])
    | (refine wpList_built rfl 30 _ rfl MC.toArray ?hbs ?_))
  case hbs => simpa using unhide HBT
  refine co.mono ?_
  rintro e w4 ⟨v4, rfl, hN4, g4⟩
  have hA4 := (unhide HA3).kept g4 (by simp)
  have hK4 := (unhide HK3).kept g4 (by simp)
  have hJ4 := (unhide HJ3).kept g4 (by simp)
  have hB4 := (unhide HB3).kept g4 (by simp)
  have G4 := tn (unhide HG3) g4
  have h1c : v4.oneCell' = true := by obtain ⟨_, _, rfl, _⟩ := hN4; rfl
  obtain ⟨x, hx⟩ : ∃ x : Int, x = r.1 := ⟨_, rfl⟩
  rw [← hx]
  obtain ⟨K, hK⟩ : ∃ K : Int, K = (if x = 0 then 4 else 0) := ⟨_, rfl⟩
  rw [← hK]
  have HKK := hide hK
  have HX := hide hx
  clear co hK hx
  rw [unhide HMC] at hB4
  go_wp2_with (refine wpList_store_row rfl 34 _ _ rfl w.heap.size #[.int .i64 K, v4] rfl rfl _ _ hA4 info_obj rfl (obj_one h1c) ?_)
  refine bodyPost_ret (results_row_tmp rfl _ _ _ _ _ _ _ rfl (hA4.row [.int .i64 K, v4]) Tryd.underlying34 rfl info_obj) rfl ?_
  have gF := gb_row (gb_refl w4 (some w.heap.size)) #[.int .i64 K, v4] (Or.inr rfl)
  rw [← unhide HR]
  refine ⟨v4, ?_, ?_, ⟨⟨hB4.row_other _ _ (by omega), hJ4.row_other _ _ (by omega)⟩, hK4.row_other _ _ (by omega)⟩, gb_row G4 _ (Or.inl hus)⟩
  · rw [← unhide HX, ← unhide HKK]
    rfl
  · obtain ⟨a', c', e1, e2, e3⟩ := hN4
    refine ⟨a', c', e1, e2.kept gF ?_⟩
    intro x e ad e5 e4
    cases e
    exact hA4.typ (by decide) (e4 ▸ (e3 ad e5).2)

end Go.Proofs.YtcemdlcimhoeeaaDoor
