/- What object's readChange reads: a commit, or a note, out of data. Of data of at most 1000000 bytes. -/
import Derived.Test.YtcemdlcimhoeeaaDoorORdE
namespace Go.Proofs.YtcemdlcimhoeeaaDoor
open Go.RowKit

/-- A commit's cells, one by one. -/
def chR (t : List UInt8) (v : Value) (n : Nat) (a x : List UInt8) : List Value := t.map bv ++ [v, .int .u64 (n : Int), .string (str a), .string (str x)]
theorem chR_chC (c : ChgL) (po : Option Addr) (pc : Nat) : chC c po pc = chR c.tree (.slice po c.pars.length pc) c.time c.author c.text := rfl
theorem chR_len (t : List UInt8) (v : Value) (n : Nat) (a x : List UInt8) (h : t.length = 32) : (chR t v n a x).length = 36 := by simp [chR, h]
theorem chR_at (t : List UInt8) (v : Value) (n : Nat) (a x : List UInt8) (h : t.length = 32) : (chR t v n a x)[32]? = some v ∧ (chR t v n a x)[33]? = some (.int .u64 (n : Int)) ∧ (chR t v n a x)[34]? = some (.string (str a)) ∧ (chR t v n a x)[35]? = some (.string (str x)) := by
  have hl : (t.map bv).length = 32 := by simp [h]
  unfold chR
  refine ⟨?_, ?_, ?_, ?_⟩ <;> rw [List.getElem?_append_right (by omega), hl] <;> rfl
theorem chR_set (t : List UInt8) (v v' : Value) (n n' : Nat) (a a' x x' : List UInt8) (h : t.length = 32) : (chR t v n a x).set 32 v' = chR t v' n a x ∧ (chR t v n a x).set 33 (.int .u64 (n' : Int)) = chR t v n' a x ∧ (chR t v n a x).set 34 (.string (str a')) = chR t v n a' x ∧ (chR t v n a x).set 35 (.string (str x')) = chR t v n a x' := by
  have hl : (t.map bv).length = 32 := by simp [h]
  unfold chR
  refine ⟨?_, ?_, ?_, ?_⟩ <;> rw [List.set_append_right _ _ (by omega), hl] <;> rfl
theorem chR_one (t : List UInt8) (v : Value) (n : Nat) (a x : List UInt8) (hv : v.oneCell' = true) : ∀ u ∈ chR t v n a x, u.oneCell' = true := by
  intro u hu
  simp only [chR, List.mem_append, List.mem_cons, List.not_mem_nil, or_false] at hu
  rcases hu with hu | rfl | rfl | rfl | rfl
  · exact bv_one _ u hu
  · exact hv
  all_goals rfl
/-- A cell of such a block is written. -/
theorem Rd.blk {w : World} {rb p : Nat} {l : List UInt8} {e : Int} {cs : List Value} {t : TypeId} (h : Rd w rb l e) (hB : Blk w p t cs) (ht : t ≠ 5) (hp : p ≠ rb) (j : Nat) (v : Value) : Rd (w.setCell ⟨p, j, none⟩ v) rb l e :=
  h.keptTyp (gb_set w p j v) (fun x e => by cases e; exact ⟨hp, hB.typ ht⟩)

theorem runP_len (s : List UInt8 × Int) (j : Nat) : (runP s j).1.length = j := by
  induction j with
  | zero => rfl
  | succ j ih => rw [runP, stepP]; simp [ih]
theorem runP_ids (s : List UInt8 × Int) (j : Nat) : ∀ x ∈ (runP s j).1, x.length = 32 := by
  induction j with
  | zero => intro e he; simp [runP] at he
  | succ j ih =>
    intro e he
    rw [runP, stepP] at he
    simp only [List.mem_append, List.mem_singleton] at he
    rcases he with he | rfl
    · exact ih e he
    · exact raw32_len _ _
theorem runP_left (s : List UInt8 × Int) (j : Nat) : (runP s j).2.1.length ≤ s.1.length := by
  induction j with
  | zero => exact Nat.le_refl _
  | succ j ih =>
    rw [runP, stepP]
    exact Nat.le_trans (rawS_len _ _ _) ih
theorem runP_round {s : List UInt8 × Int} {j : Nat} {ps : List (List UInt8)} {l' : List UInt8} {e' : Int} (h : runP s j = (ps, l', e')) {y l3 : List UInt8} {e3 : Int} (h3 : rawS l' e' 32 = (y, l3, e3)) : runP s (j + 1) = (ps ++ [pad32 y], l3, e3) := by
  rw [runP, h, stepP]
  simp only [h3]

theorem zero_chgR (w : World) : (zeroValue 28).run Tryd.prog w = .ok (.agg (chR (List.replicate 32 0) (.slice none 0 0) 0 [] []).toArray) w := by kernel_rfl

set_option maxRecDepth 100000 in
set_option maxHeartbeats 4000000 in
theorem readMrk_any (w : World) (rb : Nat) (d : List UInt8) (hl : d.length ≤ 1000000) (h : Rd w rb d 0) :
    Calls Tryd.prog 31 #[.int .i64 4, .pointer (some ⟨rb, 0, none⟩)] w fun e w' => e = .returned (.agg (chR (readM d).target (.slice none 0 0) 0 (readM d).name (readM d).text).toArray) ∧ w.grownBy w' (some rb) := by
  have hRM : readM d = ⟨pad32 (rawS d 0 32).1, (sizedS (rawS d 0 32).2.1 (rawS d 0 32).2.2).1, (sizedS (sizedS (rawS d 0 32).2.1 (rawS d 0 32).2.2).2.1 (sizedS (rawS d 0 32).2.1 (rawS d 0 32).2.2).2.2).1⟩ := rfl
  rw [hRM]
  clear hRM
  simp only
  have hrb := h.lt
  obtain ⟨Z, hZ⟩ : ∃ Z : List Value, Z = chR (List.replicate 32 0) (.slice none 0 0) 0 [] [] := ⟨_, rfl⟩
  have hzv : ∀ w, (zeroValue 28).run Tryd.prog w = .ok (.agg Z.toArray) w := fun w => by rw [hZ]; exact zero_chgR w
  have hZl : Z.length = 36 := by rw [hZ]; rfl
  obtain ⟨W1, hW1, hB1, g1⟩ : ∃ W1, W1 = w.alloc (.cells Z.toArray 28) ∧ Blk W1 w.heap.size 28 Z ∧ w.grownBy W1 none := box_new w _ _
  have ci := readId_any W1 rb d 0 (by omega) (h.kept g1 (Or.inl rfl))
  have hl1 := rawS_len d 0 32
  have hT32 := raw32_len d 0
  obtain ⟨⟨t0, l1, e1⟩, ha⟩ : ∃ a, a = rawS d 0 32 := ⟨_, rfl⟩
  rw [← ha] at ci hl1 hT32 ⊢
  simp only at ci hl1 hT32 ⊢
  clear ha
  obtain ⟨T, hT⟩ : ∃ T, T = pad32 t0 := ⟨_, rfl⟩
  rw [← hT] at ci hT32 ⊢
  have hbt : Tryd.prog.built 28 [(0, .agg (T.map bv).toArray)] = some (chR T (.slice none 0 0) 0 [] []).toArray := built_chg1 T hT32
  obtain ⟨TV, hTV⟩ : ∃ V, V = Value.agg (T.map bv).toArray := ⟨_, rfl⟩
  rw [← hTV] at ci hbt
  obtain ⟨CB, hCB⟩ : ∃ L, L = chR T (.slice none 0 0) 0 [] [] := ⟨_, rfl⟩
  rw [← hCB] at hbt
  have hCl : CB.length = 36 := by rw [hCB]; exact chR_len _ _ _ _ _ hT32
  have hCo : CB.toArray.all (·.oneCell') = true := by rw [hCB]; exact all_oneCell_toArray (chR_one _ _ _ _ _ rfl)
  have HW1 := hide hW1
  have HB1 := hide hB1
  have HG1 := hide g1
  have HZL := hide hZl
  have HBT := hide hbt
  have HCB := hide hCB
  have HCO := hide hCo
  have HCL := hide hCl
  have HT32 := hide hT32
  clear hZ hZl hW1 hB1 g1 hT hbt hTV hCB hCl hCo hT32 h
  obtain ⟨la, hla⟩ : ∃ l, l = l1 := ⟨_, rfl⟩
  obtain ⟨ea, hea⟩ : ∃ e, e = e1 := ⟨_, rfl⟩
  rw [← hla] at hl1
  rw [← hla, ← hea] at ci ⊢
  clear hla hea
  obtain ⟨⟨nm, lb1, eb1⟩, hnm⟩ : ∃ a, a = sizedS la ea := ⟨_, rfl⟩
  have hlb := sizedS_len la ea
  rw [← hnm] at hlb ⊢
  simp only at hlb ⊢
  obtain ⟨⟨tx, lc1, ec1⟩, htx⟩ : ∃ a, a = sizedS lb1 eb1 := ⟨_, rfl⟩
  rw [← htx]
  simp only
  have HNM := hide hnm
  have HTX := hide htx
  clear hnm htx
  go_enter Tryd.func31, Tryd.ntmps31
  go_wp2_with (rw [← unhide HW1])
  refine ci.mono ?_
  rintro e w2 ⟨rfl, hR2, g2⟩
  clear ci
  obtain ⟨W3, hW3, hB3, g3⟩ := row_new w2 28 Z.toArray CB
  have G2 : w.grownBy w2 (some rb) := gb_trans (gb_none _ (unhide HG1)) g2 (fun x e => Or.inr e)
  have hA2 := (unhide HB1).kept g2 (by simp; omega)
  have HA3 := hide (hA2.kept g3 (by simp))
  have HR3 := hide (hR2.kept g3 (Or.inl rfl))
  have HG3 := hide (tn G2 g3)
  have hps : w.heap.size < w2.heap.size := hA2.lt
  have hp2 : rb < w2.heap.size := hR2.lt
  obtain ⟨p, hp⟩ : ∃ p, p = w2.heap.size := ⟨_, rfl⟩
  rw [← hp] at hB3 hps hp2 hW3
  have HB3 : Hid (Blk W3 p 28 (chR T (.slice none 0 0) 0 [] [])) := by rw [← unhide HCB]; exact hB3
  have HP := hide hp
  have HW3 := hide hW3
  have hi36 : (Tryd.prog.info? 28).map (·.size) = some CB.toArray.size := by rw [show CB.toArray.size = 36 by simpa using unhide HCL]; exact info_chg
  have HI36 := hide hi36
  have hZ36 : Z.toArray.size = CB.toArray.size := by rw [show CB.toArray.size = 36 by simpa using unhide HCL]; simpa using unhide HZL
  have HZ36 := hide hZ36
  clear hW3 hB3 g3 G2 hA2 hR2 g2 hp hi36 hZ36
  go_wp2_with (first
    | (refine wpList_built rfl 28 _ rfl CB.toArray ?hbs ?_)
    | (refine wpList_store_row rfl 28 _ _ rfl w2.heap.size CB.toArray rfl rfl _ _ (heap_alloc_new _ _) (unhide HI36) (unhide HZ36) (unhide HCO) ?_; rw [← unhide HP, ← unhide HW3]))
  case hbs => simpa using unhide HBT
  obtain ⟨wa, hwa⟩ : ∃ V, V = W3 := ⟨_, rfl⟩
  obtain ⟨TM, hTM⟩ : ∃ n : Nat, n = 0 := ⟨_, rfl⟩
  obtain ⟨PV, hPV⟩ : ∃ V : Value, V = .slice none 0 0 := ⟨_, rfl⟩
  have hPo : PV.oneCell' = true := by rw [hPV]; rfl
  have hBa : Blk wa p 28 (chR T PV TM [] []) := by rw [hwa, hTM, hPV]; exact unhide HB3
  have hAa : Blk wa w.heap.size 28 Z := by rw [hwa]; exact unhide HA3
  have hRa : Rd wa rb la ea := by rw [hwa]; exact unhide HR3
  have Ga : w.grownBy wa (some rb) := by rw [hwa]; exact unhide HG3
  have HWA := hide hwa
  have HTM := hide hTM
  have HPV := hide hPV
  clear hwa hTM hPV HB3 HA3 HR3 HG3
  have cs1 := sized_at wa rb la ea (by omega) hRa
  rw [← unhide HWA]
  rw [← unhide HNM] at cs1
  simp only at cs1
  refine cs1.mono ?_
  rintro e wb1 ⟨v1, rfl, ⟨ao1, k1, rfl, hb1, hn1⟩, hR1, g1⟩
  have hcv1 := conv_str hb1
  have hBb1 := hBa.kept g1 (by simp; omega)
  have hAb1 := hAa.kept g1 (by simp; omega)
  have Gb1 : w.grownBy wb1 (some rb) := gb_trans Ga g1 (fun x e => Or.inr e)
  have hc1 := hBb1.cell 34
  rw [(chR_at _ _ _ _ _ (unhide HT32)).2.2.1] at hc1
  have hf1 := hBb1.fz 34
  obtain ⟨wc1, hwc1⟩ : ∃ V, V = wb1.setCell ⟨p, 34, none⟩ (.string (str nm)) := ⟨_, rfl⟩
  have hBc1 : Blk wc1 p 28 (chR T PV TM nm []) := by
    have := hBb1.set 34 (.string (str nm))
    rw [(chR_set _ _ (.slice none 0 0) _ 0 _ nm _ nm (unhide HT32)).2.2.1] at this
    rw [hwc1]; exact this
  have hAc1 : Blk wc1 w.heap.size 28 Z := by rw [hwc1]; exact hAb1.other _ _ (by simp; omega)
  have hRc1 : Rd wc1 rb lb1 eb1 := by rw [hwc1]; exact hR1.blk hBb1 (by decide) (by omega) 34 _
  have Gc1 : w.grownBy wc1 (some rb) := by rw [hwc1]; exact gb_setCell Gb1 _ _ (Or.inl (by simp; omega))
  have HWC1 := hide hwc1
  clear cs1 hb1 hn1 hR1 g1 hBb1 hAb1 Gb1 hwc1 hBa hAa Ga hRa
  have cs2 := sized_at wc1 rb lb1 eb1 (by omega) hRc1
  rw [← unhide HTX] at cs2
  simp only at cs2
  have hBc1' := hide hBc1
  go_wp2_with (rw [← unhide HWC1])
  clear hcv1 hc1 hf1
  refine cs2.mono ?_
  rintro e wb2 ⟨v2, rfl, ⟨ao2, k2, rfl, hb2, hn2⟩, hR2, g2⟩
  have hcv2 := conv_str hb2
  have hBb2 := hBc1.kept g2 (by simp; omega)
  have hAb2 := hAc1.kept g2 (by simp; omega)
  have Gb2 : w.grownBy wb2 (some rb) := gb_trans Gc1 g2 (fun x e => Or.inr e)
  have hc2 := hBb2.cell 35
  rw [(chR_at _ _ _ _ _ (unhide HT32)).2.2.2] at hc2
  have hf2 := hBb2.fz 35
  obtain ⟨wc2, hwc2⟩ : ∃ V, V = wb2.setCell ⟨p, 35, none⟩ (.string (str tx)) := ⟨_, rfl⟩
  have hBc2 : Blk wc2 p 28 (chR T PV TM nm tx) := by
    have := hBb2.set 35 (.string (str tx))
    rw [(chR_set _ _ (.slice none 0 0) _ 0 _ tx _ tx (unhide HT32)).2.2.2] at this
    rw [hwc2]; exact this
  have hAc2 : Blk wc2 w.heap.size 28 Z := by rw [hwc2]; exact hAb2.other _ _ (by simp; omega)
  have hRc2 : Rd wc2 rb lc1 ec1 := by rw [hwc2]; exact hR2.blk hBb2 (by decide) (by omega) 35 _
  have Gc2 : w.grownBy wc2 (some rb) := by rw [hwc2]; exact gb_setCell Gb2 _ _ (Or.inl (by simp; omega))
  have HWC2 := hide hwc2
  clear cs2 hb2 hn2 hR2 g2 hBb2 hAb2 Gb2 hwc2 hBc1 hAc1 Gc1 hRc1
  have hrF := blk_all hBc2
  obtain ⟨FC, hFC⟩ : ∃ L, L = chR T PV TM nm tx := ⟨_, rfl⟩
  have hF36 : FC.length = 36 := by rw [hFC]; exact chR_len _ _ _ _ _ (unhide HT32)
  have hFo : FC.toArray.all (·.oneCell') = true := by rw [hFC]; exact all_oneCell_toArray (chR_one _ _ _ _ _ hPo)
  rw [← hFC] at hrF
  have hiF : (Tryd.prog.info? 28).map (·.size) = some FC.length := by rw [hF36]; exact info_chg
  have hiF2 : (Tryd.prog.info? 28).map (·.size) = some FC.toArray.size := by simpa using hiF
  have hZF : Z.toArray.size = FC.toArray.size := by have := unhide HZL; simp [this, hF36]
  have HIF := hide hiF
  have HIF2 := hide hiF2
  have HZF := hide hZF
  have HFO := hide hFo
  have HFC := hide hFC
  clear hFC hF36 hFo hiF hiF2 hZF
  go_wp2_with (first
    | (rw [← unhide HWC2]; refine wpList_load_mid rfl 28 _ rfl p 0 rfl FC _ hrF Tryd.underlying28 rfl (unhide HIF) ?_; clear hrF)
    | (refine wpList_store_row rfl 28 _ _ rfl w.heap.size FC.toArray rfl rfl _ _ hAc2 (unhide HIF2) (unhide HZF) (unhide HFO) ?_))
  refine bodyPost_ret (results_cell_row rfl _ _ _ _ _ _ _ rfl (hAc2.row FC) Tryd.underlying28 rfl (unhide HIF2)) rfl ?_
  have gF := gb_row Gc2 FC.toArray (Or.inl (Nat.le_refl _))
  rw [unhide HFC] at gF ⊢
  rw [unhide HPV, unhide HTM] at gF ⊢
  exact ⟨rfl, gF⟩

end Go.Proofs.YtcemdlcimhoeeaaDoor
