/- What object's layChange lays: the data of a commit and of a note; and what bytes.Clone answers. Of at most 4 parents, and texts of at most 1000000 bytes. -/
import Derived.Test.YtcemdlcimhoeeaaDoorOLayE
namespace Go.Proofs.YtcemdlcimhoeeaaDoor
open Go.RowKit

theorem nil_ne (b o n c : Nat) (W : World) : (binOp .eql 32 (.slice (some ⟨b, o, none⟩) n c) (.slice none 0 0)).run Tryd.prog W = .ok (.bool false) W := by kernel_rfl

set_option maxRecDepth 100000 in
theorem bclone_any (w : World) (b o c : Nat) (l : List UInt8) (hb : Bts w (some ⟨b, o, none⟩) c l) (hl : l.length ≤ 1000000) :
    Calls Tryd.prog 45 #[.slice (some ⟨b, o, none⟩) l.length c] w fun e w' => ∃ v, e = .returned v ∧ w'.ownsRow w.heap.size 5 1 v l.length (l.map bv) ∧ w.grownBy w' none := by
  obtain ⟨W1, hW1, ho1, g1⟩ := own_new w w.heap.size (Nat.le_refl _)
  have hb1 := hb.kept g1 (fun _ e => by cases e)
  obtain ⟨n, hn⟩ : ∃ n, n = l.length := ⟨_, rfl⟩
  have hne := nil_ne b o n c
  have HN := hide hn
  have HW1 := hide hW1
  rw [← hn] at hl ⊢
  clear hn hW1 hb
  go_enter Tryd.func45, Tryd.ntmps45
  go_wp2_with (rw [← unhide HW1]; refine wpList_append_btm rfl _ _ rfl w.heap.size _ _ _ rfl ho1 _ _ l hb1 n (unhide HN) rfl (by omega) g1.size ?_; intro v5 w5 ho5 g5; have G5 := hide (own_grow g1 ho1 g5); have HO5 := hide ho5; clear g5 ho5 ho1 hb1)
  go_ret
  exact ⟨_, rfl, by simpa using unhide HO5, unhide G5⟩

theorem flat_snoc3 (ps : List (List UInt8)) (j : Nat) (hj : j < ps.length) : (ps.take (j + 1)).flatten = (ps.take j).flatten ++ ps[j] := by
  rw [List.take_succ_eq_append_getElem hj, List.flatten_append]; simp

theorem flat_sum (ps : List (List UInt8)) (hid : ∀ x ∈ ps, x.length = 32) : ∀ j, j ≤ ps.length → ((ps.take j).flatten).length = j * 32 := by
  intro j
  induction j with
  | zero => intro _; simp
  | succ j ih =>
    intro hj
    rw [flat_snoc3 ps j (by omega), List.length_append, ih (by omega), hid _ (List.getElem_mem _), Nat.succ_mul]

set_option maxRecDepth 100000 in
set_option maxHeartbeats 4000000 in
theorem layChg_any (w : World) (c : ChgL) (po : Option Addr) (pc : Nat) (hP : Ids w po pc c.pars) (ht : c.tree.length = 32) (hn : c.pars.length ≤ 4) (ha : c.author.length ≤ 1000000) (hx : c.text.length ≤ 1000000) :
    Calls Tryd.prog 29 #[.int .i64 3, .agg (chC c po pc).toArray] w fun e w' => ∃ v, e = .returned v ∧ NewB w w' v (chgB c) ∧ w.grownBy w' none := by
  obtain ⟨tree, pars, time, author, text⟩ := c
  simp only at hP ht hn ha hx
  obtain ⟨Z, hZ, hzv⟩ := zero_id
  obtain ⟨q1, q2, q3, q4⟩ := chC_at ⟨tree, pars, time, author, text⟩ po pc ht
  obtain ⟨C, hC⟩ : ∃ C, C = chC ⟨tree, pars, time, author, text⟩ po pc := ⟨_, rfl⟩
  have HQ : Hid (chgB ⟨tree, pars, time, author, text⟩ = (((tree ++ lb pars.length 1) ++ pars.flatten) ++ lb time 8 ++ layS author) ++ layS text) := rfl
  have hsum := flat_sum pars hP.ids
  have hcv := lenU pars.length (by omega)
  have HF : Hid ((tree ++ lb pars.length 1) ++ (pars.take pars.length).flatten = (tree ++ lb pars.length 1) ++ pars.flatten) := by rw [List.take_of_length_le (Nat.le_refl _)]; exact rfl
  rw [← hC] at q1 q2 q3 q4 ⊢
  obtain ⟨W0, hW0, hB0, g0⟩ := box_new w 28 C
  have c1 : W0.cell? ⟨w.heap.size, 32, none⟩ = some (.slice po pars.length pc) := by rw [hB0.cell 32, q1]
  have hbT : Bts W0 (some ⟨w.heap.size, 0, none⟩) 32 tree := by
    have h1 := blk_all hB0
    rw [hC] at h1
    have := range_bts (ch_tree h1) (by rw [show (ChgL.tree _).length = 32 from ht]; unfold maxLen; omega)
    rwa [show (ChgL.tree _).length = 32 from ht] at this
  have hsl := slice_wid w.heap.size 0
  have ccl := bclone_any W0 w.heap.size 0 32 tree hbT (by omega)
  rw [ht] at ccl
  obtain ⟨n, hln⟩ : ∃ n, n = pars.length := ⟨_, rfl⟩
  have hn' : n ≤ 4 := by omega
  obtain ⟨TN, hTN⟩ : ∃ T, T = tree ++ lb n 1 := ⟨_, rfl⟩
  have hTl : TN.length = 33 := by rw [hTN, List.length_append, lb_len, ht]
  rw [← hln] at c1 hcv hsum
  unfold Hid at HQ HF
  rw [← hln, ← hTN] at HQ HF
  have HQ' := hide HQ
  have HF' := hide HF
  have HTN := hide hTN
  have HL := hide hln
  have HP := hide hP
  have HS := hide hsum
  have HZ := hide hZ
  have HT := hide ht
  have HC := hide hC
  have HC1 := hide c1
  have HQ2 := hide q2
  have HQ3 := hide q3
  have HQ4 := hide q4
  have HB0 := hide hB0
  have HW0 := hide hW0
  have HG0 := hide g0
  clear HQ HF hTN hln hP hsum hZ ht hC c1 hW0 g0 hB0 hbT q1 q2 q3 q4 hn
  go_enter Tryd.func29, Tryd.ntmps29
  go_wp2_with (rw [← unhide HW0])
  refine ccl.mono ?_
  rintro e w1 ⟨v1, rfl, ho1, g1⟩
  have G1 := tn (unhide HG0) g1
  obtain ⟨he1, ao1, k1, hv1, hb1, he2⟩ := own_read ho1
  clear he1 he2
  subst hv1
  have cput := put_own w1 ao1 k1 tree n 1 hb1 (by have := unhide HT; omega)
  rw [show nb 1 = 1 from by decide, ← unhide HTN, unhide HT] at cput
  have hB1 := (unhide HB0).kept g1 (by simp)
  have c1 := g1.cell (unhide HC1) (by simp)
  clear ccl hsl ho1 hb1 HC1
  go_wp2_with fail
  refine cput.mono ?_
  rintro e w2 ⟨v2, rfl, ho2, g2⟩
  have G2 := tn G1 g2
  have c1' := g2.cell c1 (by simp)
  have ho2' := own_low ho2 G1.size
  have HB2 := hide (hB1.kept g2 (by simp))
  clear cput c1 ho2 g2 G1 g1 hB1
  go_wp2
  go_loopw [5, 25] (fun v i wr => ∃ j : Nat, i = .int .i64 j ∧ j ≤ n ∧ wr.ownsRow w.heap.size 5 1 v (TN ++ (pars.take j).flatten).length ((TN ++ (pars.take j).flatten).map bv) ∧ Hid (Blk wr w.heap.size 28 C) ∧ w.grownBy wr none) (fun _ i _ => n - (intOf i).toNat)
  case atStart => exact ⟨0, rfl, Nat.zero_le _, by simpa using ho2', HB2, G2⟩
  case round =>
    obtain ⟨j, rfl, hj, ho, HB, G⟩ := hrel
    by_cases hlt : j < n
    · have hlt' : j < pars.length := by have := unhide HL; omega
      obtain ⟨b, o, hao, hrow⟩ := (unhide HP).at j hlt'
      have hr := range_kept (hrow j hlt') G (by simp)
      have hid := (unhide HP).ids _ (List.getElem_mem hlt')
      have hle := unhide HS j hj
      have hnew := flat_snoc3 pars j hlt'
      obtain ⟨P0, hP0⟩ : ∃ L, L = TN ++ (pars.take j).flatten := ⟨_, rfl⟩
      obtain ⟨E, hEE⟩ : ∃ E, E = pars[j] := ⟨_, rfl⟩
      have hnew2 : TN ++ (pars.take (j + 1)).flatten = P0 ++ E := by rw [hnew, hP0, hEE, List.append_assoc]
      have hl0 : P0.length ≤ 1000 := by rw [hP0, List.length_append]; omega
      rw [← hEE] at hr hid
      rw [← hP0] at ho
      obtain ⟨EC, hEC⟩ : ∃ L, L = E.map bv := ⟨_, rfl⟩
      have hEl : EC.length = 32 := by rw [hEC, List.length_map, hid]
      have hEo : EC.toArray.all (·.oneCell') = true := by rw [hEC]; exact all_oneCell_toArray (bv_one _)
      obtain ⟨W, hW, hB, gW⟩ := row_new wr 24 Z EC
      have hbI : Bts W (some ⟨wr.heap.size, 0, none⟩) 32 E := by
        have h1 := blk_all hB
        rw [hEC] at h1
        have := range_bts h1 (by rw [hid]; unfold maxLen; omega)
        rwa [hid] at this
      rw [← hEC] at hr
      have ho' := own_keep ho gW
      have hsl := slice_wid wr.heap.size 0
      have GW := hide (tn G gW)
      have HBW := hide ((unhide HB).kept gW (by simp))
      have hs4 : w.heap.size ≤ W.heap.size := (tn G gW).size
      have HW := hide hW
      have HN2 := hide hnew2
      have HEO := hide hEo
      have HID := hide hid
      have hiE : (Tryd.prog.info? 24).map (·.size) = some EC.length := by rw [hEl]; exact info_id
      have HIE := hide hiE
      have hZE : Z.size = EC.toArray.size := by rw [unhide HZ]; simp [hEl]
      have HZE := hide hZE
      clear hrow hEE hP0 hle hnew hEC hEl hEo hB hW hid hnew2 hiE hZE ho gW G HB
      subst hao
      go_wp2_with (first
        | (refine wpList_load_mid rfl 24 _ rfl b (o + j * 32) rfl EC _ hr Tryd.underlying24 rfl (unhide HIE) ?_; clear hr)
        | (refine wpList_store_row rfl 24 _ _ rfl wr.heap.size EC.toArray rfl rfl _ _ (heap_alloc_new _ _) (by simpa using unhide HIE) (unhide HZE) (unhide HEO) ?_; rw [← unhide HW])
        | (refine wpList_append_btm rfl _ _ rfl w.heap.size _ _ _ rfl ho' _ _ E hbI 32 (unhide HID).symm rfl (by omega) hs4 ?_; intro v5 w5 ho5 g5; have G5 := hide (own_grow (unhide GW) ho' g5); have HB5 := hide ((unhide HBW).kept g5 (own_apart ho' (unhide HBW) (by decide))); have HO5 := hide ho5; clear g5 ho5 ho' GW hbI HBW))
      go_roundw
      case rel =>
        refine ⟨j + 1, by go_num, by omega, ?_, HB5, unhide G5⟩
        have := unhide HO5
        rw [unhide HN2, List.length_append, List.map_append, unhide HID]
        exact this
      case measure => simp [intOf]; omega
    · have hjn : j = n := by omega
      rw [hjn, unhide HF'] at ho
      have hl0 : (TN ++ pars.flatten).length ≤ 1000 := by
        have h1 := unhide HS n (Nat.le_refl _)
        rw [unhide HL, List.take_of_length_le (Nat.le_refl _)] at h1
        have := unhide HL
        rw [List.length_append]; omega
      obtain ⟨P0, hP0⟩ : ∃ L, L = TN ++ pars.flatten := ⟨_, rfl⟩
      rw [← hP0] at ho hl0
      have HP0 := hide hP0
      have c2 : wr.cell? ⟨w.heap.size, 33, none⟩ = some (.int .u64 (time : Int)) := by rw [(unhide HB).cell 33, unhide HQ2]
      have c3 : wr.cell? ⟨w.heap.size, 34, none⟩ = some (.string (str author)) := by rw [(unhide HB).cell 34, unhide HQ3]
      have c4 : wr.cell? ⟨w.heap.size, 35, none⟩ = some (.string (str text)) := by rw [(unhide HB).cell 35, unhide HQ4]
      obtain ⟨he1, ao1, k1, hv1, hb1, he2⟩ := own_read ho
      subst hv1
      have cput := put_own wr ao1 k1 P0 time 8 hb1 (by omega)
      rw [show nb 8 = 8 from by decide] at cput
      clear he1 he2 hP0 hjn ho hb1
      go_wp2_with fail
      refine cput.mono ?_
      rintro e w3 ⟨v3, rfl, ho3, g3⟩
      clear cput
      have G3 := tn G g3
      have d3 := g3.cell c3 (by simp)
      have d4 := g3.cell c4 (by simp)
      obtain ⟨P3, hP3⟩ : ∃ L, L = P0 ++ lb time 8 := ⟨_, rfl⟩
      rw [← hP3] at ho3
      have hl3 : P3.length ≤ 1010 := by rw [hP3, List.length_append, lb_len]; omega
      obtain ⟨he1, ao3, k3, hv3, hb3, he2⟩ := own_read ho3
      subst hv3
      obtain ⟨cap3, V3, hcv3, hx3, gx3⟩ := str_bytes w3 author (by unfold maxLen; omega)
      have cs3 := sizedl_own V3 ao3 _ k3 cap3 P3 author (hb3.kept gx3 (fun _ e => by cases e)) hx3 (by omega)
      obtain ⟨P4, hP4⟩ : ∃ L, L = P3 ++ layS author := ⟨_, rfl⟩
      rw [← hP4] at cs3
      have hlP4 : P4.length ≤ 1002000 := by rw [hP4, List.length_append, layS_len]; omega
      have HX3 := hide (tn G3 gx3)
      have HP4 := hide hP4
      have d4' := gx3.cell d4 (by simp)
      have HP3 := hide hP3
      clear he1 he2 hb3 hx3 gx3 g3 ho3 c2 c3 c4 d4 hP3 hP4
      go_wp2_with fail
      refine cs3.mono ?_
      rintro e w4 ⟨v4, rfl, ho4, g4⟩
      have G4 := tn (unhide HX3) g4
      have d5 := g4.cell d4' (by simp)
      clear cs3 hcv3 d3 d4'
      obtain ⟨he1, ao4, k4, hv4, hb4, he2⟩ := own_read ho4
      subst hv4
      obtain ⟨cap4, V4, hcv4, hx4, gx4⟩ := str_bytes w4 text (by unfold maxLen; omega)
      have cs4 := sizedl_own V4 ao4 _ k4 cap4 P4 text (hb4.kept gx4 (fun _ e => by cases e)) hx4 (by omega)
      obtain ⟨P5, hP5⟩ : ∃ L, L = P4 ++ layS text := ⟨_, rfl⟩
      rw [← hP5] at cs4
      have hlP5 : P5.length ≤ 2003000 := by rw [hP5, List.length_append, layS_len]; omega
      have HX4 := hide (tn G4 gx4)
      have HP5 := hide hP5
      clear he1 he2 hb4 hx4 gx4 g4 ho4 hP5
      go_wp2_with fail
      refine cs4.mono ?_
      rintro e w5 ⟨v5, rfl, ho5, g5⟩
      have G5 := hide (own_low ho5 (unhide HX4).size)
      have G6 := hide (tn (unhide HX4) g5)
      clear cs4 hcv4 d5 ho5 g5
      go_wp2
      go_ret
      refine ⟨_, rfl, NewB.own ?_, unhide G6⟩
      rw [unhide HQ', ← unhide HP0, ← unhide HP3, ← unhide HP4, ← unhide HP5]
      exact unhide G5

set_option maxRecDepth 100000 in
set_option maxHeartbeats 4000000 in
theorem layMrk_any (w : World) (m : MrkL) (ht : m.target.length = 32) (ha : m.name.length ≤ 1000000) (hx : m.text.length ≤ 1000000) :
    Calls Tryd.prog 29 #[.int .i64 4, .agg (chC ⟨m.target, [], 0, m.name, m.text⟩ none 0).toArray] w fun e w' => ∃ v, e = .returned v ∧ NewB w w' v (mrkB m) ∧ w.grownBy w' none := by
  obtain ⟨tree, author, text⟩ := m
  simp only at ht ha hx ⊢
  obtain ⟨q1, q2, q3, q4⟩ := chC_at ⟨tree, [], 0, author, text⟩ none 0 ht
  obtain ⟨C, hC⟩ : ∃ C, C = chC ⟨tree, [], 0, author, text⟩ none 0 := ⟨_, rfl⟩
  have HQ : Hid (mrkB ⟨tree, author, text⟩ = (tree ++ layS author) ++ layS text) := rfl
  rw [← hC] at q3 q4 ⊢
  obtain ⟨W0, hW0, hB0, g0⟩ := box_new w 28 C
  have c3 : W0.cell? ⟨w.heap.size, 34, none⟩ = some (.string (str author)) := by rw [hB0.cell 34, q3]
  have c4 : W0.cell? ⟨w.heap.size, 35, none⟩ = some (.string (str text)) := by rw [hB0.cell 35, q4]
  have hbT : Bts W0 (some ⟨w.heap.size, 0, none⟩) 32 tree := by
    have h1 := blk_all hB0
    rw [hC] at h1
    have := range_bts (ch_tree h1) (by rw [show (ChgL.tree _).length = 32 from ht]; unfold maxLen; omega)
    rwa [show (ChgL.tree _).length = 32 from ht] at this
  have hsl := slice_wid w.heap.size 0
  have ccl := bclone_any W0 w.heap.size 0 32 tree hbT (by omega)
  rw [ht] at ccl
  have HT := hide ht
  have HC := hide hC
  have HW0 := hide hW0
  have HG0 := hide g0
  have HC3 := hide c3
  have HC4 := hide c4
  clear ht hC c3 c4 hW0 g0 hB0 hbT q1 q2 q3 q4
  go_enter Tryd.func29, Tryd.ntmps29
  go_wp2_with (rw [← unhide HW0])
  refine ccl.mono ?_
  rintro e w3 ⟨v3, rfl, ho3, g3⟩
  have G3 := tn (unhide HG0) g3
  have d3 := g3.cell (unhide HC3) (by simp)
  have d4 := g3.cell (unhide HC4) (by simp)
  obtain ⟨P3, hP3⟩ : ∃ L, L = tree := ⟨_, rfl⟩
  rw [← hP3] at ho3
  have hl3 : P3.length ≤ 1010 := by have := unhide HT; rw [hP3]; omega
  have HT3 : Hid (P3.length = 32) := by have := unhide HT; rw [hP3]; exact this
  clear ccl hsl
  obtain ⟨he1, ao3, k3, hv3, hb3, he2⟩ := own_read ho3
  subst hv3
  obtain ⟨cap3, V3, hcv3, hx3, gx3⟩ := str_bytes w3 author (by unfold maxLen; omega)
  have cs3 := sizedl_own V3 ao3 _ k3 cap3 P3 author (hb3.kept gx3 (fun _ e => by cases e)) hx3 (by omega)
  obtain ⟨P4, hP4⟩ : ∃ L, L = P3 ++ layS author := ⟨_, rfl⟩
  rw [← hP4] at cs3
  rw [unhide HT3] at cs3
  have hlP4 : P4.length ≤ 1002000 := by rw [hP4, List.length_append, layS_len]; omega
  have HX3 := hide (tn G3 gx3)
  have HP4 := hide hP4
  have d4' := gx3.cell d4 (by simp)
  have HP3 := hide hP3
  clear he1 he2 hb3 hx3 gx3 g3 ho3 d4 hP3 hP4
  go_wp2_with fail
  refine cs3.mono ?_
  rintro e w4 ⟨v4, rfl, ho4, g4⟩
  have G4 := tn (unhide HX3) g4
  have d5 := g4.cell d4' (by simp)
  clear cs3 hcv3 d3 d4'
  obtain ⟨he1, ao4, k4, hv4, hb4, he2⟩ := own_read ho4
  subst hv4
  obtain ⟨cap4, V4, hcv4, hx4, gx4⟩ := str_bytes w4 text (by unfold maxLen; omega)
  have cs4 := sizedl_own V4 ao4 _ k4 cap4 P4 text (hb4.kept gx4 (fun _ e => by cases e)) hx4 (by omega)
  obtain ⟨P5, hP5⟩ : ∃ L, L = P4 ++ layS text := ⟨_, rfl⟩
  rw [← hP5] at cs4
  have hlP5 : P5.length ≤ 2003000 := by rw [hP5, List.length_append, layS_len]; omega
  have HX4 := hide (tn G4 gx4)
  have HP5 := hide hP5
  clear he1 he2 hb4 hx4 gx4 g4 ho4 hP5
  go_wp2_with fail
  refine cs4.mono ?_
  rintro e w5 ⟨v5, rfl, ho5, g5⟩
  have G5 := hide (own_low ho5 (unhide HX4).size)
  have G6 := hide (tn (unhide HX4) g5)
  clear cs4 hcv4 d5 ho5 g5
  go_wp2
  go_ret
  refine ⟨_, rfl, NewB.own ?_, unhide G6⟩
  rw [unhide HQ, ← unhide HP3, ← unhide HP4, ← unhide HP5]
  exact unhide G5

end Go.Proofs.YtcemdlcimhoeeaaDoor
