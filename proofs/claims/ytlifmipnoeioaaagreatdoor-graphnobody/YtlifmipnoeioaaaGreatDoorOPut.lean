/- What object's linked answers of trees, commits and notes; and Check. -/
import Derived.Test.YtlifmipnoeioaaaGreatDoorOLink
namespace Go.Proofs.YtlifmipnoeioaaaGreatDoor
open Go.RowKit

theorem ids_take (es : List EntL) (j : Nat) (hj : j < es.length) : ((es.take (j + 1)).map (·.id)).flatMap (·.map bv) = ((es.take j).map (·.id)).flatMap (·.map bv) ++ es[j].id.map bv := by
  rw [List.take_succ_eq_append_getElem hj, List.map_append, List.flatMap_append]
  simp only [List.map_cons, List.map_nil, List.flatMap_cons, List.flatMap_nil, List.append_nil]

theorem telT_len (k : Int) (d : List UInt8) : (telT k d).2.length ≤ 32 := by
  unfold telT
  split
  · split
    · unfold readT
      simp only [runE_len]
      exact Nat.min_le_right _ _
    · exact Nat.zero_le _
  · exact Nat.zero_le _

set_option maxRecDepth 100000 in
set_option maxHeartbeats 4000000 in
theorem linked_tree (w : World) (ao : Option Addr) (c : Nat) (d : List UInt8) (hb : Bts w ao c d) (hd : d.length ≤ 16384) : Calls Tryz.prog 84 #[.agg #[.int .i64 2, .slice ao d.length c]] w fun e w' => Linked w w' 2 d e := by
  obtain ⟨k1, k2, k3⟩ := check2 d hd
  obtain ⟨n, hn⟩ : ∃ n, n = d.length := ⟨_, rfl⟩
  have hd2 : ¬ (16384 : Int) < (n : Int) := by omega
  obtain ⟨W0, hW0, hB0, g0⟩ : ∃ W1, W1 = w.alloc (.cells #[.int .i64 2, .slice ao n c] 42) ∧ Blk W1 w.heap.size 42 [.int .i64 2, .slice ao n c] ∧ w.grownBy W1 none := box_new w _ _
  have c0 := hB0.cell 0
  have c1 := hB0.cell 1
  simp only [List.getElem?_cons_zero, List.getElem?_cons_succ] at c0 c1
  have ct := treeOf_any W0 2 ao c d (hb.kept g0 (fun _ e => by cases e)) (by omega)
  obtain ⟨t, ht⟩ : ∃ t, t = telT 2 d := ⟨_, rfl⟩
  rw [← ht] at ct k1 k2 k3
  rw [← hn] at ct ⊢
  have hids : ∀ e ∈ t.2, e.id.length = 32 := by
    rw [ht]
    unfold telT
    split
    · split
      · exact readT_ids d
      · intro e he; simp at he
    · intro e he; simp at he
  have HLN := hide (show t.2.length ≤ 32 by rw [ht]; exact telT_len 2 d)
  obtain ⟨Z, hZ, hzv⟩ := zero_ent
  have HW0 := hide hW0
  have HK1 := hide k1
  have HK2 := hide k2
  have HK3 := hide k3
  have HIDS := hide hids
  have HZ := hide hZ
  have HG0 := hide g0
  clear k1 k2 k3 hn hW0 hB0 g0 hb hd ht hids hZ
  go_enter Tryz.func84, Tryz.ntmps84
  go_wp2_with (rw [← unhide HW0])
  refine ct.mono ?_
  rintro e w1 ⟨v1, y, rfl, hy, ho1, g1⟩
  obtain ⟨eo, ec, hv1⟩ := own_sl ho1
  subst hv1
  have hE1 : Ens w1 eo ec t.2 := by
    obtain ⟨ao2, c2, e1, e2⟩ := Ens.own ho1 (unhide HIDS)
    injection e1 with e3 e4 e5
    subst e3 e5
    exact e2
  have G1 := tn (unhide HG0) g1
  obtain ⟨es, hes⟩ : ∃ es, es = t.2 := ⟨_, rfl⟩
  rw [← hes] at hE1
  rw [← hes]
  obtain ⟨m, hm⟩ : ∃ m, m = es.length := ⟨_, rfl⟩
  rw [← hm]
  have hm9 : m ≤ 32 := by rw [hm, hes]; exact unhide HLN
  have HE := hide hE1
  have HM := hide hm
  have HES := hide hes
  have HY := hide hy
  have HG1 := hide G1
  clear ct ho1 hE1 g1 hes hm hy c0 c1 G1
  go_wp2
  go_loopw [4, 34] (fun v i wr => ∃ j : Nat, i = .int .i64 j ∧ j ≤ m ∧ wr.ownsRow w1.heap.size 33 32 v j (((es.take j).map (·.id)).flatMap (·.map bv)) ∧ w1.grownBy wr none) (fun _ i _ => m - (intOf i).toNat)
  case atStart => exact ⟨0, rfl, Nat.zero_le _, World.ownsRow_nil _ _ _ _, gb_refl _ _⟩
  case round =>
    obtain ⟨j, rfl, hj, ho, hg⟩ := hrel
    by_cases hlt : j < m
    · have hlt' : j < es.length := by have := unhide HM; omega
      obtain ⟨b, o, hao, hrow⟩ := (unhide HE).at j hlt'
      have hr := range_kept (hrow j hlt') hg (by simp)
      have hid := (unhide HE).ids _ (List.getElem_mem hlt')
      have hnew := ids_take es j hlt'
      obtain ⟨E, hEE⟩ : ∃ E, E = es[j] := ⟨_, rfl⟩
      rw [← hEE] at hr hid hnew
      clear hrow hEE hlt'
      subst hao
      obtain ⟨nm, D, id⟩ := E
      simp only at hid hnew
      obtain ⟨EC, hEC⟩ : ∃ L, L = enC ⟨nm, D, id⟩ := ⟨_, rfl⟩
      have hEl : EC.length = 34 := by rw [hEC]; exact enC_len _ hid
      have hEo : EC.toArray.all (·.oneCell') = true := by rw [hEC]; exact all_oneCell_toArray (enC_one _)
      obtain ⟨W, hW, hB, gW⟩ := row_new wr 120 Z EC
      have hRI : W.rangeAt wr.heap.size 2 (id.map bv) := by
        have := blk_all hB
        rw [hEC] at this
        simpa using en_id this
      rw [← hEC] at hr
      obtain ⟨IC, hIC⟩ : ∃ I, I = id.map bv := ⟨_, rfl⟩
      have hbs := bs_id id hid W
      rw [← hIC] at hRI hbs hnew
      have hIl : IC.length = 32 := by rw [hIC, List.length_map, hid]
      have hI1 : ∀ u ∈ IC, u.oneCell' = true := by rw [hIC]; exact bv_one _
      obtain ⟨W5, hW5, hB5, g5⟩ := box_new W 33 IC
      have ho5 := own_id (own_id ho gW (fun x e => by cases e)) g5 (fun x e => by cases e)
      have G5 := tn (tn hg gW) g5
      have HW := hide hW
      have HW5 := hide hW5
      have HEO := hide hEo
      have HNW := hide hnew
      have HRI := hide hRI
      have HBS := hide hbs
      have HIL := hide hIl
      have HI1 := hide hI1
      have HB5 := hide hB5
      have HO5 := hide ho5
      have HG5 := hide G5
      have hiE : (Tryz.prog.info? 120).map (·.size) = some EC.length := by rw [hEl]; exact info_ent
      have HIE := hide hiE
      have hiI : (Tryz.prog.info? 33).map (·.size) = some IC.length := by rw [hIl]; exact info_id
      have HII := hide hiI
      have hZE : Z.size = EC.toArray.size := by rw [unhide HZ]; simp [hEl]
      have HZE := hide hZE
      have hj9 : j ≤ 100000 := by omega
      clear hW hB hEC hEo hnew hRI hIC hbs hIl hI1 hW5 hB5 g5 ho5 G5 hiE hiI hZE ho hg gW hid hEl
      go_wp2_with (first
        | (refine wpList_load_mid rfl 120 _ rfl b (o + j * 34) rfl EC _ hr Tryz.underlying120 rfl (unhide HIE) ?_; clear hr)
        | (refine wpList_store_row rfl 120 _ _ rfl wr.heap.size EC.toArray rfl rfl _ _ (heap_alloc_new _ _) (by simpa using unhide HIE) (unhide HZE) (unhide HEO) ?_; rw [← unhide HW])
        | (refine wpList_load_mid rfl 33 _ rfl wr.heap.size 2 rfl IC _ (unhide HRI) Tryz.underlying33 rfl (unhide HII) ?_)
        | (refine wpList_build1 rfl 29 _ rfl (.agg IC.toArray) _ rfl (unhide HBS) ?_; rw [← unhide HW5])
        | (refine wpList_append_id rfl _ _ rfl w1.heap.size _ _ _ rfl (unhide HO5) _ IC (unhide HB5) (unhide HIL) (unhide HI1) rfl hj9 (unhide HG5).size ?_; intro v6 w6 ho6 g6; have HO6 := hide ho6; have HG6 := hide (gb_trans (unhide HG5) g6 (fun x e => Or.inl ((unhide HO5).lt x e).1)); clear ho6 g6 HO5 HG5))
      go_roundw
      case rel =>
        refine ⟨j + 1, by go_num, by omega, ?_, unhide HG6⟩
        rw [unhide HNW]
        exact unhide HO6
      case measure => simp [intOf]; omega
    · have hjn : j = es.length := by have := unhide HM; omega
      have hfin : wr.ownsRow w.heap.size 33 32 u4 (es.map (·.id)).length ((es.map (·.id)).flatMap (·.map bv)) := by
        have h1 := own_low ho (unhide HG1).size
        rw [hjn, List.take_of_length_le (Nat.le_refl _)] at h1
        rw [List.length_map]; exact h1
      have HF := hide hfin
      have HG := hide (tn (unhide HG1) hg)
      clear hjn hfin ho hg
      rcases (unhide HK3) with h0 | ⟨h11, hnil⟩
      · have hy0 : y = 0 := by rw [unhide HY, h0]
        subst hy0
        have hl : linksL 2 d = es.map (·.id) := by rw [unhide HK2 h0, unhide HES]
        have hc : checkL 2 d = 0 := by rw [unhide HK1, h0]
        have HLL := hide hl
        have HCC := hide hc
        clear hl hc h0
        go_wp2
        refine bodyPost_ret (v := .tuple #[u4, .int .i64 0]) (by simp [results, Tryz.results84, go_sem]) rfl ?_
        exact ⟨u4, 0, rfl, (unhide HCC).symm, by rw [unhide HLL]; exact unhide HF, unhide HG⟩
      · have hy0 : y = 11 := by rw [unhide HY, h11]
        subst hy0
        have hc : checkL 2 d = 11 := by rw [unhide HK1, h11]
        have HCC := hide hc
        clear hc h11 hnil
        go_wp2
        refine bodyPost_ret (v := .tuple #[.slice none 0 0, .int .i64 11]) (by simp [results, Tryz.results84, go_sem]) rfl ?_
        exact Linked.bad (unhide HCC) (by decide) (unhide HG)

theorem own_made1 (V : World) (base : Nat) (IC : List Value) (hb : base ≤ V.heap.size) (hl : IC.length = 32) : (V.alloc (.cells IC.toArray 33)).ownsRow base 33 32 (.slice (some ⟨V.heap.size, 0, none⟩) 1 1) 1 IC :=
  ⟨by simp [hl], .inr ⟨V.heap.size, 1, IC.toArray, rfl, hb, heap_alloc_new V _, Nat.le_refl _, by decide, by simp [hl], by simp [hl, List.take_of_length_le]⟩⟩

set_option maxRecDepth 100000 in
set_option maxHeartbeats 4000000 in
theorem linked_chg (w : World) (ao : Option Addr) (c : Nat) (d : List UInt8) (hb : Bts w ao c d) (hd : d.length ≤ 16384) : Calls Tryz.prog 84 #[.agg #[.int .i64 3, .slice ao d.length c]] w fun e w' => Linked w w' 3 d e := by
  obtain ⟨k1, k2, k3, k4, k5, k6⟩ := check3 d hd
  obtain ⟨n, hn⟩ : ∃ n, n = d.length := ⟨_, rfl⟩
  have hd2 : ¬ (16384 : Int) < (n : Int) := by omega
  obtain ⟨Z, hZ⟩ : ∃ Z : List Value, Z = chC zeroCh none 0 := ⟨_, rfl⟩
  have hzv : ∀ w, (zeroValue 72).run Tryz.prog w = .ok (.agg Z.toArray) w := fun w => by rw [hZ]; kernel_rfl
  have hZl : Z.length = 36 := by rw [hZ]; rfl
  obtain ⟨W0, hW0, hB0, g0⟩ : ∃ W1, W1 = w.alloc (.cells #[.int .i64 3, .slice ao n c] 42) ∧ Blk W1 w.heap.size 42 [.int .i64 3, .slice ao n c] ∧ w.grownBy W1 none := box_new w _ _
  obtain ⟨W1, hW1, hB1, g1⟩ : ∃ W1, W1 = W0.alloc (.cells Z.toArray 72) ∧ Blk W1 W0.heap.size 72 Z ∧ W0.grownBy W1 none := box_new W0 _ _
  have hs0 : W0.heap.size = w.heap.size + 1 := by rw [hW0]; simp
  rw [hs0] at hB1
  have hBo := hB0.kept g1 (by simp)
  have b0 := hBo.cell 0
  have b1 := hBo.cell 1
  simp only [List.getElem?_cons_zero, List.getElem?_cons_succ] at b0 b1
  have G1 := tn g0 g1
  have ct := changeOf_any W1 3 ao c d (hb.kept G1 (fun _ e => by cases e)) (by omega)
  obtain ⟨t, ht⟩ : ∃ t, t = telC 3 d := ⟨_, rfl⟩
  rw [← ht] at ct k1 k2 k3 k4 k5 k6
  rw [← hn] at ct ⊢
  have hW : W1 = (w.alloc (.cells #[.int .i64 3, .slice ao n c] 42)).alloc (.cells Z.toArray 72) := by rw [hW1, hW0]
  have HW1 := hide hW
  have HK1 := hide k1
  have HK2 := hide k2
  have HK3 := hide k3
  have HK4 := hide k4
  have HK5 := hide k5
  have HK6 := hide k6
  have HB1 := hide hB1
  have HG1 := hide G1
  have HZL := hide hZl
  clear k1 k2 k3 k4 k5 k6 hn hW0 hB0 g0 hb hd ht hZ hW1 hW hBo g1 hs0 hB1 G1 hZl
  go_enter Tryz.func84, Tryz.ntmps84
  go_wp2_with (rw [← unhide HW1])
  refine ct.mono ?_
  rintro e w2 ⟨po, pc, y, rfl, hy, ho2, g2⟩
  have hBp := (unhide HB1).kept g2 (by simp)
  have G2 := tn (unhide HG1) g2
  obtain ⟨C, hC⟩ : ∃ C, C = chC t.2 po pc := ⟨_, rfl⟩
  rw [← hC]
  have hCl : C.length = 36 := by rw [hC]; exact chC_len _ _ _ (unhide HK4)
  have hCo : C.toArray.all (·.oneCell') = true := by rw [hC]; exact all_oneCell_toArray (chC_one _ _ _)
  obtain ⟨w3, hw3⟩ : ∃ V, V = w2.setRow (w.heap.size + 1) C.toArray := ⟨_, rfl⟩
  have hB3 : Blk w3 (w.heap.size + 1) 72 C := by rw [hw3]; exact hBp.row _
  have G3 : w.grownBy w3 none := by rw [hw3]; exact gb_row G2 _ (Or.inl (Nat.le_succ _))
  have hrT : w3.rangeAt (w.heap.size + 1) 0 (t.2.tree.map bv) := by
    have h1 := blk_all hB3
    rw [hC] at h1
    exact ch_tree h1
  obtain ⟨IC, hIC⟩ : ∃ I, I = t.2.tree.map bv := ⟨_, rfl⟩
  have hbs := bs_id t.2.tree (unhide HK4) w3
  rw [← hIC] at hrT hbs
  have hIl : IC.length = 32 := by rw [hIC, List.length_map, unhide HK4]
  obtain ⟨W5, hW5, hB5, g5⟩ := box_new w3 33 IC
  have ho5 : W5.ownsRow w3.heap.size 33 32 (.slice (some ⟨w3.heap.size, 0, none⟩) 1 1) 1 IC := by rw [hW5]; exact own_made1 w3 w3.heap.size IC (Nat.le_refl _) hIl
  have G5 := tn G3 g5
  have hiC : (Tryz.prog.info? 72).map (·.size) = some C.toArray.size := by rw [show C.toArray.size = 36 by simpa using hCl]; exact info_chg
  have hZC : Z.toArray.size = C.toArray.size := by have := unhide HZL; simp [this, hCl]
  have hiI : (Tryz.prog.info? 33).map (·.size) = some IC.length := by rw [hIl]; exact info_id
  have hcp : W5.cell? ⟨w.heap.size + 1, 32, none⟩ = some (.slice po t.2.pars.length pc) := by
    rw [(hB3.kept g5 (by simp)).cell 32, hC, (chC_at _ _ _ (unhide HK4)).1]
  have hO3 : w3.ownsRow w.heap.size 33 32 (.slice po t.2.pars.length pc) t.2.pars.length (t.2.pars.flatMap (·.map bv)) := by
    rw [hw3]; exact own_row_id (own_low ho2 (unhide HG1).size) hBp (by decide) _
  have hP5 : Ids W5 po pc t.2.pars := by
    obtain ⟨ao2, c2, e1, e2⟩ := Ids.own (own_id hO3 g5 (fun x e => by cases e)) (unhide HK5)
    injection e1 with e3 e4 e5
    subst e3 e5
    exact e2
  have hp9 : 1 + t.2.pars.length ≤ 100000 := by have := unhide HK6; omega
  obtain ⟨ps, hps⟩ : ∃ ps, ps = t.2.pars := ⟨_, rfl⟩
  rw [← hps] at hcp hP5 hp9
  have HPS := hide hps
  have HP5 := hide hP5
  have HIC := hide hiC
  have HZC := hide hZC
  have HII := hide hiI
  have HCO := hide hCo
  have HW3 := hide hw3
  have HW5 := hide hW5
  have HBP := hide hBp
  have HO5 := hide ho5
  have HG5 := hide G5
  have HS5 := hide g5.size
  have HIE := hide hIC
  have HY := hide hy
  have HBS := hide hbs
  have HS3 := hide G3.size
  clear hiC hZC hiI hCo hw3 hW5 hBp ho5 G5 hIC hy hbs hB5 g5 hIl hCl hC hB3 G3 G2 ct b0 b1 g2 ho2 hO3 hP5 hps
  rcases (unhide HK3) with h0 | h11
  · have hy0 : y = 0 := by rw [unhide HY, h0]
    subst hy0
    have hl : linksL 3 d = t.2.tree :: t.2.pars := unhide HK2 h0
    have hc : checkL 3 d = 0 := by rw [unhide HK1, h0]
    have HLL := hide hl
    have HCC := hide hc
    clear hl hc h0
    go_wp2_with (first
      | (refine wpList_store_row rfl 72 _ _ rfl (w.heap.size + 1) C.toArray rfl rfl _ _ (unhide HBP) (unhide HIC) (unhide HZC) (unhide HCO) ?_; rw [← unhide HW3])
      | (refine wpList_load_mid rfl 33 _ rfl (w.heap.size + 1) 0 rfl IC _ hrT Tryz.underlying33 rfl (unhide HII) ?_; clear hrT)
      | (refine wpList_build1 rfl 29 _ rfl (.agg IC.toArray) _ rfl (unhide HBS) ?_; rw [← unhide HW5])
      | (refine wpList_append_idl rfl _ _ rfl w3.heap.size _ _ _ rfl (unhide HO5) po pc ps (unhide HP5) rfl hp9 (unhide HS5) ?_; intro v6 w6 ho6 g6; have HO6 := hide ho6; have HG6 := hide (gb_trans (unhide HG5) g6 (fun x e => Or.inl (Nat.le_trans (unhide HS3) ((unhide HO5).lt x e).1))); clear ho6 g6))
    refine bodyPost_ret (v := .tuple #[v6, .int .i64 0]) (by simp [results, Tryz.results84, go_sem]) rfl ?_
    refine ⟨v6, 0, rfl, (unhide HCC).symm, ?_, unhide HG6⟩
    rw [unhide HLL, ← unhide HPS, List.length_cons, List.flatMap_cons, ← unhide HIE, Nat.add_comm]
    exact own_low (unhide HO6) (unhide HS3)
  · have hy0 : y = 11 := by rw [unhide HY, h11]
    subst hy0
    have hc : checkL 3 d = 11 := by rw [unhide HK1, h11]
    have HCC := hide hc
    clear hc h11
    go_wp2_with (first
      | (refine wpList_store_row rfl 72 _ _ rfl (w.heap.size + 1) C.toArray rfl rfl _ _ (unhide HBP) (unhide HIC) (unhide HZC) (unhide HCO) ?_; rw [← unhide HW3])
      | (refine wpList_load_mid rfl 33 _ rfl (w.heap.size + 1) 0 rfl IC _ hrT Tryz.underlying33 rfl (unhide HII) ?_; clear hrT)
      | (refine wpList_build1 rfl 29 _ rfl (.agg IC.toArray) _ rfl (unhide HBS) ?_; rw [← unhide HW5])
      | (refine wpList_append_idl rfl _ _ rfl w3.heap.size _ _ _ rfl (unhide HO5) po pc ps (unhide HP5) rfl hp9 (unhide HS5) ?_; intro v6 w6 ho6 g6; have HO6 := hide ho6; have HG6 := hide (gb_trans (unhide HG5) g6 (fun x e => Or.inl (Nat.le_trans (unhide HS3) ((unhide HO5).lt x e).1))); clear ho6 g6))
    refine bodyPost_ret (v := .tuple #[.slice none 0 0, .int .i64 11]) (by simp [results, Tryz.results84, go_sem]) rfl ?_
    exact Linked.bad (unhide HCC) (by decide) (unhide HG6)

set_option maxRecDepth 100000 in
set_option maxHeartbeats 4000000 in
theorem linked_mrk (w : World) (ao : Option Addr) (c : Nat) (d : List UInt8) (hb : Bts w ao c d) (hd : d.length ≤ 16384) : Calls Tryz.prog 84 #[.agg #[.int .i64 4, .slice ao d.length c]] w fun e w' => Linked w w' 4 d e := by
  obtain ⟨k1, k2, k3, k4⟩ := check4 d hd
  obtain ⟨n, hn⟩ : ∃ n, n = d.length := ⟨_, rfl⟩
  have hd2 : ¬ (16384 : Int) < (n : Int) := by omega
  obtain ⟨Z, hZ⟩ : ∃ Z : List Value, Z = mkC zeroMk := ⟨_, rfl⟩
  have hzv : ∀ w, (zeroValue 123).run Tryz.prog w = .ok (.agg Z.toArray) w := fun w => by rw [hZ]; kernel_rfl
  have hZl : Z.length = 34 := by rw [hZ]; rfl
  obtain ⟨W0, hW0, hB0, g0⟩ : ∃ W1, W1 = w.alloc (.cells #[.int .i64 4, .slice ao n c] 42) ∧ Blk W1 w.heap.size 42 [.int .i64 4, .slice ao n c] ∧ w.grownBy W1 none := box_new w _ _
  obtain ⟨W1, hW1, hB1, g1⟩ : ∃ W1, W1 = W0.alloc (.cells Z.toArray 123) ∧ Blk W1 W0.heap.size 123 Z ∧ W0.grownBy W1 none := box_new W0 _ _
  have hs0 : W0.heap.size = w.heap.size + 1 := by rw [hW0]; simp
  rw [hs0] at hB1
  have hBo := hB0.kept g1 (by simp)
  have b0 := hBo.cell 0
  have b1 := hBo.cell 1
  simp only [List.getElem?_cons_zero, List.getElem?_cons_succ] at b0 b1
  have G1 := tn g0 g1
  have ct := markOf_any W1 4 ao c d (hb.kept G1 (fun _ e => by cases e)) (by omega)
  obtain ⟨t, ht⟩ : ∃ t, t = telM 4 d := ⟨_, rfl⟩
  rw [← ht] at ct k1 k2 k3 k4
  rw [← hn] at ct ⊢
  have hW : W1 = (w.alloc (.cells #[.int .i64 4, .slice ao n c] 42)).alloc (.cells Z.toArray 123) := by rw [hW1, hW0]
  have HW1 := hide hW
  have HK1 := hide k1
  have HK2 := hide k2
  have HK3 := hide k3
  have HK4 := hide k4
  skip
  have HB1 := hide hB1
  have HG1 := hide G1
  have HZL := hide hZl
  clear k1 k2 k3 k4 hn hW0 hB0 g0 hb hd ht hZ hW1 hW hBo g1 hs0 hB1 G1 hZl
  go_enter Tryz.func84, Tryz.ntmps84
  go_wp2_with (rw [← unhide HW1])
  refine ct.mono ?_
  rintro e w2 ⟨y, rfl, hy, g2⟩
  have hBp := (unhide HB1).kept g2 (by simp)
  have G2 := tn (unhide HG1) g2
  obtain ⟨C, hC⟩ : ∃ C, C = mkC t.2 := ⟨_, rfl⟩
  rw [← hC]
  have hCl : C.length = 34 := by rw [hC]; exact mkC_len _ (unhide HK4)
  have hCo : C.toArray.all (·.oneCell') = true := by rw [hC]; exact all_oneCell_toArray (mkC_one _)
  obtain ⟨w3, hw3⟩ : ∃ V, V = w2.setRow (w.heap.size + 1) C.toArray := ⟨_, rfl⟩
  have hB3 : Blk w3 (w.heap.size + 1) 123 C := by rw [hw3]; exact hBp.row _
  have G3 : w.grownBy w3 none := by rw [hw3]; exact gb_row G2 _ (Or.inl (Nat.le_succ _))
  have hrT : w3.rangeAt (w.heap.size + 1) 0 (t.2.target.map bv) := by
    have h1 := blk_all hB3
    rw [hC] at h1
    exact mk_target h1
  obtain ⟨IC, hIC⟩ : ∃ I, I = t.2.target.map bv := ⟨_, rfl⟩
  have hbs := bs_id t.2.target (unhide HK4) w3
  rw [← hIC] at hrT hbs
  have hIl : IC.length = 32 := by rw [hIC, List.length_map, unhide HK4]
  obtain ⟨W5, hW5, hB5, g5⟩ := box_new w3 33 IC
  have ho5 : W5.ownsRow w3.heap.size 33 32 (.slice (some ⟨w3.heap.size, 0, none⟩) 1 1) 1 IC := by rw [hW5]; exact own_made1 w3 w3.heap.size IC (Nat.le_refl _) hIl
  have G5 := tn G3 g5
  have hiC : (Tryz.prog.info? 123).map (·.size) = some C.toArray.size := by rw [show C.toArray.size = 34 by simpa using hCl]; exact info_mrk
  have hZC : Z.toArray.size = C.toArray.size := by have := unhide HZL; simp [this, hCl]
  have hiI : (Tryz.prog.info? 33).map (·.size) = some IC.length := by rw [hIl]; exact info_id
  skip
  have HIC := hide hiC
  have HZC := hide hZC
  have HII := hide hiI
  have HCO := hide hCo
  have HW3 := hide hw3
  have HW5 := hide hW5
  have HBP := hide hBp
  have HO5 := hide ho5
  have HG5 := hide G5
  have HS5 := hide g5.size
  have HIE := hide hIC
  have HY := hide hy
  have HBS := hide hbs
  have HS3 := hide G3.size
  clear hiC hZC hiI hCo hw3 hW5 hBp ho5 G5 hIC hy hbs hB5 g5 hIl hCl hC hB3 G3 G2 ct b0 b1 g2 
  rcases (unhide HK3) with h0 | h11
  · have hy0 : y = 0 := by rw [unhide HY, h0]
    subst hy0
    have hl : linksL 4 d = [t.2.target] := unhide HK2 h0
    have hc : checkL 4 d = 0 := by rw [unhide HK1, h0]
    have HLL := hide hl
    have HCC := hide hc
    clear hl hc h0
    go_wp2_with (first
      | (refine wpList_store_row rfl 123 _ _ rfl (w.heap.size + 1) C.toArray rfl rfl _ _ (unhide HBP) (unhide HIC) (unhide HZC) (unhide HCO) ?_; rw [← unhide HW3])
      | (refine wpList_load_mid rfl 33 _ rfl (w.heap.size + 1) 0 rfl IC _ hrT Tryz.underlying33 rfl (unhide HII) ?_; clear hrT)
      | (refine wpList_build1 rfl 29 _ rfl (.agg IC.toArray) _ rfl (unhide HBS) ?_; rw [← unhide HW5]))
    refine bodyPost_ret (v := .tuple #[.slice (some ⟨w3.heap.size, 0, none⟩) 1 1, .int .i64 0]) (by simp [results, Tryz.results84, go_sem]) rfl ?_
    refine ⟨_, 0, rfl, (unhide HCC).symm, ?_, unhide HG5⟩
    rw [unhide HLL]
    simp only [List.length_cons, List.length_nil, List.flatMap_cons, List.flatMap_nil, List.append_nil, Nat.zero_add]
    rw [← unhide HIE]
    exact own_low (unhide HO5) (unhide HS3)
  · have hy0 : y = 11 := by rw [unhide HY, h11]
    subst hy0
    have hc : checkL 4 d = 11 := by rw [unhide HK1, h11]
    have HCC := hide hc
    clear hc h11
    go_wp2_with (first
      | (refine wpList_store_row rfl 123 _ _ rfl (w.heap.size + 1) C.toArray rfl rfl _ _ (unhide HBP) (unhide HIC) (unhide HZC) (unhide HCO) ?_; rw [← unhide HW3])
      | (refine wpList_load_mid rfl 33 _ rfl (w.heap.size + 1) 0 rfl IC _ hrT Tryz.underlying33 rfl (unhide HII) ?_; clear hrT)
      | (refine wpList_build1 rfl 29 _ rfl (.agg IC.toArray) _ rfl (unhide HBS) ?_; rw [← unhide HW5]))
    refine bodyPost_ret (v := .tuple #[.slice none 0 0, .int .i64 11]) (by simp [results, Tryz.results84, go_sem]) rfl ?_
    exact Linked.bad (unhide HCC) (by decide) (unhide HG5)

theorem linked_any (w : World) (k : Int) (ao : Option Addr) (c : Nat) (d : List UInt8) (hb : Bts w ao c d) : Calls Tryz.prog 84 #[.agg #[.int .i64 k, .slice ao d.length c]] w fun e w' => Linked w w' k d e := by
  by_cases hk : k < 1 ∨ 4 < k
  · exact linked_arg w k hk ao c d
  · by_cases hd : 16384 < d.length
    · exact linked_big w k (by omega) (by omega) ao c d hd
    · have h5 : k = 1 ∨ k = 2 ∨ k = 3 ∨ k = 4 := by omega
      rcases h5 with rfl | rfl | rfl | rfl
      · exact linked_blob w ao c d (by omega)
      · exact linked_tree w ao c d hb (by omega)
      · exact linked_chg w ao c d hb (by omega)
      · exact linked_mrk w ao c d hb (by omega)

set_option maxRecDepth 100000 in
theorem check_any (w : World) (k : Int) (ao : Option Addr) (c : Nat) (d : List UInt8) (hb : Bts w ao c d) : Calls Tryz.prog 59 #[.agg #[.int .i64 k, .slice ao d.length c]] w fun e w' => e = .returned (.int .i64 (checkL k d)) ∧ w.grownBy w' none := by
  obtain ⟨n, hn⟩ : ∃ n, n = d.length := ⟨_, rfl⟩
  have g0 : w.grownBy (w.alloc (.cells #[.int .i64 k, .slice ao n c] 42)) none := gb_alloc (gb_refl _ _) _
  have cl := linked_any (w.alloc (.cells #[.int .i64 k, .slice ao n c] 42)) k ao c d (hb.kept g0 (fun _ e => by cases e))
  rw [← hn] at cl ⊢
  obtain ⟨Y, hY⟩ : ∃ y, y = checkL k d := ⟨_, rfl⟩
  rw [← hY]
  have HY := hide hY
  clear hn hb hY
  go_enter Tryz.func59, Tryz.ntmps59
  go_wp2_with fail
  refine cl.mono ?_
  rintro e w2 ⟨v, y, rfl, hy, _, g2⟩
  rw [hy, ← unhide HY]
  clear hy cl
  go_wp2
  go_ret
  exact ⟨rfl, tn g0 g2⟩

end Go.Proofs.YtlifmipnoeioaaaGreatDoor

/- What object's Put and Read answer. Of data of fewer than 2 to the 45 bytes, and bytes of at most 100000. -/
namespace Go.Proofs.YtlifmipnoeioaaaGreatDoor
open Go.RowKit

theorem bts_b (w : World) (x : UInt8) : ∃ W, W = w.alloc (.cells #[.int .u8 ((x.toNat : Nat) : Int)] 5) ∧ Bts W (some ⟨w.heap.size, 0, none⟩) 1 [x] ∧ w.grownBy W none :=
  ⟨_, rfl, range_bts (l := [x]) (blk_all (Blk.new w 5 [bv x])) (by show 1 ≤ maxLen; decide), gb_alloc (gb_refl _ _) _⟩
theorem wrap_b (k : Int) : IntKind.u8.wrap k = (((UInt8.ofInt k).toNat : Nat) : Int) := by
  rw [IntKind.wrap_u8]
  unfold UInt8.ofInt
  rw [UInt8.toNat_ofNat']
  omega

set_option maxRecDepth 100000 in
theorem oput_any (w : World) (k : Int) (ao : Option Addr) (c : Nat) (d : List UInt8) (hb : Bts w ao c d) (hd : d.length ≤ 35184372088832) : Calls Tryz.prog 86 #[.agg #[.int .i64 k, .slice ao d.length c]] w fun e w' => ∃ v, e = .returned v ∧ NewB w w' v (putL k d) ∧ w.grownBy w' none := by
  obtain ⟨n, hn⟩ : ∃ n, n = d.length := ⟨_, rfl⟩
  obtain ⟨W0, hW0, hB0, g0⟩ : ∃ W1, W1 = w.alloc (.cells #[.int .i64 k, .slice ao n c] 42) ∧ Blk W1 w.heap.size 42 [.int .i64 k, .slice ao n c] ∧ w.grownBy W1 none := box_new w _ _
  obtain ⟨W1, hW1, hb1, g1⟩ := bts_b W0 (UInt8.ofInt k)
  have hcv := wrap_b k
  have cs := sizedl_any W1 _ ao 1 c [UInt8.ofInt k] d hb1 (hb.kept (tn g0 g1) (fun _ e => by cases e)) (by simp; omega)
  rw [show (([UInt8.ofInt k] : List UInt8)).length = 1 from rfl, ← hn] at cs
  rw [← hn]
  have hput : putL k d = [UInt8.ofInt k] ++ layS d := rfl
  rw [← hput] at cs
  obtain ⟨P, hP⟩ : ∃ P, P = putL k d := ⟨_, rfl⟩
  rw [← hP] at cs ⊢
  obtain ⟨z, hz⟩ : ∃ z : Int, z = (((UInt8.ofInt k).toNat : Nat) : Int) := ⟨_, rfl⟩
  rw [← hz] at hcv hW1
  have hs0 : W0.heap.size = w.heap.size + 1 := by rw [hW0]; simp
  rw [hs0] at cs
  have hW : W1 = (w.alloc (.cells #[.int .i64 k, .slice ao n c] 42)).alloc (.cells #[.int .u8 z] 5) := by rw [hW1, hW0]
  have c1 := (hB0.kept g1 (by simp)).cell 1
  simp only [List.getElem?_cons_zero, List.getElem?_cons_succ] at c1
  have HW := hide hW
  have G1 := tn g0 g1
  clear hW hW1 hW0 hz hP hput hb hb1 hB0 g0 g1 hs0 hd hn
  go_enter Tryz.func86, Tryz.ntmps86
  go_wp2_with (rw [← unhide HW])
  refine cs.mono ?_
  rintro e w2 ⟨v2, rfl, hN2, g2⟩
  have HN := hide hN2
  clear cs hN2 c1
  go_wp2
  go_ret
  exact ⟨_, rfl, NewB.later (unhide HN) G1.size, tn G1 g2⟩

end Go.Proofs.YtlifmipnoeioaaaGreatDoor
