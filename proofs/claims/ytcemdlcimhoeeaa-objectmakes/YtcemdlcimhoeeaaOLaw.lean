/- What the law package's Own, mark, entries, Ids and change answer: the same, in the document's words. Of what lies in memory. -/
import Derived.Test.YtcemdlcimhoeeaaORent
import Derived.Test.YtcemdlcimhoeeaaRMrk
import Derived.Test.YtcemdlcimhoeeaaRChg
import Derived.Test.YtcemdlcimhoeeaaOChg
import Derived.Test.YtcemdlcimhoeeaaORdP
namespace Go.Proofs.Ytcemdlcimhoeeaa
open Go.RowKit

set_option maxRecDepth 100000 in
theorem lown_any (w : World) (k : Int) (ao : Option Addr) (c : Nat) (d : List UInt8) (hb : Bts w ao c d) : Calls Try.prog 15 #[.agg #[.int .i64 k, .slice ao d.length c]] w fun e w' => e = .returned (.agg #[.int .i64 k, .string (str d)]) ∧ w.grownBy w' none := by
  obtain ⟨n, hn⟩ : ∃ n, n = d.length := ⟨_, rfl⟩
  obtain ⟨S0, hS0⟩ : ∃ S, S = str [] := ⟨_, rfl⟩
  have hzv := zero_robj
  rw [← hS0] at hzv
  obtain ⟨W1, hW1⟩ : ∃ W, W = (w.alloc (.cells #[.int .i64 k, .slice ao n c] 35)).alloc (.cells #[.int .i64 0, .string S0] 40) := ⟨_, rfl⟩
  have G1 : w.grownBy W1 none := by rw [hW1]; exact gb_alloc (gb_alloc (gb_refl _ _) _) _
  have hcv := conv_str (hb.kept G1 (fun _ e => by cases e))
  rw [← hn] at hcv ⊢
  rw [hW1] at hcv
  obtain ⟨SS, hSS⟩ : ∃ S, S = str d := ⟨_, rfl⟩
  rw [← hSS] at hcv ⊢
  clear hSS hn hb G1 hW1 W1 hS0
  go_enter Try.func15, Try.ntmps15
  go_wp2
  exact bodyPost_ret (v := .agg #[.int .i64 k, .string SS]) (by simp [results, Try.results15, go_sem]) rfl ⟨rfl, gb_alloc (gb_alloc (gb_refl _ _) _) _⟩

theorem rmC_one (m : MrkL) : ∀ u ∈ rmC m, u.oneCell' = true := by
  intro u hu
  simp only [rmC, List.mem_cons, List.not_mem_nil, or_false] at hu
  rcases hu with rfl | rfl | rfl <;> rfl
theorem rcC_one (c : ChgL) (po : Option Addr) (pc : Nat) : ∀ u ∈ rcC c po pc, u.oneCell' = true := by
  intro u hu
  simp only [rcC, List.mem_cons, List.not_mem_nil, or_false] at hu
  rcases hu with rfl | rfl | rfl | rfl | rfl <;> rfl
theorem info_rmrk : (Try.prog.info? 54).map (·.size) = some 3 := by kernel_rfl
theorem info_rchg : (Try.prog.info? 49).map (·.size) = some 5 := by kernel_rfl

set_option maxRecDepth 100000 in
set_option maxHeartbeats 2000000 in
theorem lmark_any (w : World) (m : MrkL) (ht : m.target.length = 32) : Calls Try.prog 14 #[.agg (mkC m).toArray] w fun e w' => e = .returned (.agg (rmC m).toArray) ∧ w.grownBy w' none := by
  obtain ⟨q1, q2⟩ := mkC_at m ht
  obtain ⟨C, hC⟩ : ∃ C, C = mkC m := ⟨_, rfl⟩
  rw [← hC] at q1 q2 ⊢
  obtain ⟨Z, hZ⟩ : ∃ Z : List Value, Z = [.string (str []), .string (str []), .string (str [])] := ⟨_, rfl⟩
  have hzv : ∀ w, (zeroValue 54).run Try.prog w = .ok (.agg Z.toArray) w := fun w => by rw [hZ]; kernel_rfl
  have hZl : Z.toArray.size = 3 := by rw [hZ]; rfl
  obtain ⟨W0, hW0, hB0, g0⟩ := box_new w 30 C
  obtain ⟨W1, hW1, hB1, g1⟩ := box_new W0 54 Z
  have hs0 : W0.heap.size = w.heap.size + 1 := by rw [hW0]; simp
  rw [hs0] at hB1
  have hBo := hB0.kept g1 (by simp)
  have hW : W1 = (w.alloc (.cells C.toArray 30)).alloc (.cells Z.toArray 54) := by rw [hW1, hW0]
  have hcell : ∀ V, Blk V w.heap.size 30 C → V.cell? ⟨w.heap.size, 32, none⟩ = some (.string (str m.name)) ∧ V.cell? ⟨w.heap.size, 33, none⟩ = some (.string (str m.text)) ∧ (convert 33 9 (.slice (some ⟨w.heap.size, 0, none⟩) 32 32)).run Try.prog V = .ok (.string (str m.target)) V := fun V h => by
    refine ⟨by rw [h.cell 32, q1], by rw [h.cell 33, q2], ?_⟩
    have h1 := blk_all h
    rw [hC] at h1
    have h2 := conv_str (range_bts (mk_target h1) (by rw [ht]; unfold maxLen; omega))
    rwa [ht] at h2
  have hsl := slice_wid w.heap.size 0
  have hbt : Try.prog.built 54 [(0, .string (str m.target)), (1, .string (str m.name)), (2, .string (str m.text))] = some (rmC m).toArray := by kernel_rfl
  obtain ⟨TT, hTT⟩ : ∃ T, T = str m.target := ⟨_, rfl⟩
  obtain ⟨TN, hTN⟩ : ∃ T, T = str m.name := ⟨_, rfl⟩
  obtain ⟨TX, hTX⟩ : ∃ T, T = str m.text := ⟨_, rfl⟩
  rw [← hTT] at hcell hbt
  rw [← hTN] at hcell hbt
  rw [← hTX] at hcell hbt
  obtain ⟨RC, hRC⟩ : ∃ R, R = rmC m := ⟨_, rfl⟩
  rw [← hRC] at hbt ⊢
  have hRl : RC.toArray.size = 3 := by rw [hRC]; rfl
  have hRo : RC.toArray.all (·.oneCell') = true := by rw [hRC]; exact all_oneCell_toArray (rmC_one m)
  have hiR : (Try.prog.info? 54).map (·.size) = some RC.toArray.size := by rw [hRl]; exact info_rmrk
  have hZR : Z.toArray.size = RC.toArray.size := by rw [hZl, hRl]
  have HW := hide hW
  have HCE := hide hcell
  have HBT := hide hbt
  have HRO := hide hRo
  have HIR := hide hiR
  have HZR := hide hZR
  have h0 : w.grownBy W1.drew none ∧ Blk W1.drew w.heap.size 30 C := ⟨gb_drew (tn g0 g1), hBo.drew⟩
  have hB1d := hB1.drew
  clear hW hW0 hW1 hB0 hB1 g0 g1 hs0 hBo hC hZ hZl hTT hTN hTX hRC hRl hRo hiR hZR hcell hbt q1 q2 ht
  go_enter Try.func14, Try.ntmps14
  go_upto_region 1 with (rw [← unhide HW])
  refine wp_region_noPanic ?_
  refine wp_region_held_drew (S := fun V => w.grownBy V none ∧ Blk V w.heap.size 30 C) (by kernel_rfl) h0 (fun _ => ?_)
  refine wpAnyH_take (i := 0) (oi := { dst := some 3, op := Op.fieldAddr 30 (Operand.tmp 1) 0, type := _, pos := _, after := _, guard := _ }) (v := .pointer (some ⟨w.heap.size, 0, none⟩)) rfl (by kernel_rfl) (by kernel_rfl) (by kernel_rfl) (fun _ _ _ h => h) (Or.inl ⟨by rfl, fun V (hV : w.grownBy V none ∧ Blk V w.heap.size 30 C) => by go_simp⟩) h0 ?_
  (try simp only [Act.put, List.setIfInBounds_toArray, List.set_cons_zero, List.set_cons_succ])
  refine wpAnyH_take (i := 1) (oi := { dst := some 4, op := Op.slice 24 (Operand.tmp 3) none none none, type := _, pos := _, after := _, guard := _ }) (v := .slice (some ⟨w.heap.size, 0, none⟩) 32 32) rfl (by kernel_rfl) (by kernel_rfl) (by kernel_rfl) (fun _ _ _ h => h) (Or.inl ⟨by rfl, fun V (hV : w.grownBy V none ∧ Blk V w.heap.size 30 C) => by (have q9 := hsl V; go_simp)⟩) h0 ?_
  (try simp only [Act.put, List.setIfInBounds_toArray, List.set_cons_zero, List.set_cons_succ])
  refine wpAnyH_take (i := 2) (oi := { dst := some 5, op := Op.convert 33 9 (Operand.tmp 4), type := _, pos := _, after := _, guard := _ }) (v := .string TT) rfl (by kernel_rfl) (by kernel_rfl) (by kernel_rfl) (fun _ _ _ h => h) (Or.inl ⟨by rfl, fun V (hV : w.grownBy V none ∧ Blk V w.heap.size 30 C) => by (have q9 := (unhide HCE V hV.2).2.2; go_simp)⟩) h0 ?_
  (try simp only [Act.put, List.setIfInBounds_toArray, List.set_cons_zero, List.set_cons_succ])
  refine wpAnyH_take (i := 3) (oi := { dst := some 6, op := Op.fieldAddr 30 (Operand.tmp 1) 1, type := _, pos := _, after := _, guard := _ }) (v := .pointer (some ⟨w.heap.size, 32, none⟩)) rfl (by kernel_rfl) (by kernel_rfl) (by kernel_rfl) (fun _ _ _ h => h) (Or.inl ⟨by rfl, fun V (hV : w.grownBy V none ∧ Blk V w.heap.size 30 C) => by go_simp⟩) h0 ?_
  (try simp only [Act.put, List.setIfInBounds_toArray, List.set_cons_zero, List.set_cons_succ])
  refine wpAnyH_take (i := 4) (oi := { dst := some 7, op := Op.load 9 (Operand.tmp 6), type := _, pos := _, after := _, guard := _ }) (v := .string TN) rfl (by kernel_rfl) (by kernel_rfl) (by kernel_rfl) (fun _ _ _ h => h) (Or.inl ⟨by rfl, fun V (hV : w.grownBy V none ∧ Blk V w.heap.size 30 C) => by (have q9 := (unhide HCE V hV.2).1; go_simp)⟩) h0 ?_
  (try simp only [Act.put, List.setIfInBounds_toArray, List.set_cons_zero, List.set_cons_succ])
  refine wpAnyH_take (i := 5) (oi := { dst := some 8, op := Op.fieldAddr 30 (Operand.tmp 1) 2, type := _, pos := _, after := _, guard := _ }) (v := .pointer (some ⟨w.heap.size, 33, none⟩)) rfl (by kernel_rfl) (by kernel_rfl) (by kernel_rfl) (fun _ _ _ h => h) (Or.inl ⟨by rfl, fun V (hV : w.grownBy V none ∧ Blk V w.heap.size 30 C) => by go_simp⟩) h0 ?_
  (try simp only [Act.put, List.setIfInBounds_toArray, List.set_cons_zero, List.set_cons_succ])
  refine wpAnyH_take (i := 6) (oi := { dst := some 9, op := Op.load 9 (Operand.tmp 8), type := _, pos := _, after := _, guard := _ }) (v := .string TX) rfl (by kernel_rfl) (by kernel_rfl) (by kernel_rfl) (fun _ _ _ h => h) (Or.inl ⟨by rfl, fun V (hV : w.grownBy V none ∧ Blk V w.heap.size 30 C) => by (have q9 := (unhide HCE V hV.2).2.1; go_simp)⟩) h0 ?_
  (try simp only [Act.put, List.setIfInBounds_toArray, List.set_cons_zero, List.set_cons_succ])
  refine wpAnyH_take (i := 7) (oi := { dst := some 10, op := Op.build 54 #[(0, (Operand.tmp 5)), (1, (Operand.tmp 7)), (2, (Operand.tmp 9))], type := _, pos := _, after := _, guard := _ }) (v := .agg RC.toArray) rfl (by kernel_rfl) (by kernel_rfl) (by kernel_rfl) (fun _ _ _ h => h) (yieldsIf_built (by rfl) _ _ rfl _ (Eq.trans (b := Try.prog.built 54 [(0, .string TT), (1, .string TN), (2, .string TX)]) (by kernel_rfl) (unhide HBT))) h0 ?_
  (try simp only [Act.put, List.setIfInBounds_toArray, List.set_cons_zero, List.set_cons_succ])
  have h6 : w.grownBy (W1.drew.setRow (w.heap.size + 1) RC.toArray) none ∧ Blk (W1.drew.setRow (w.heap.size + 1) RC.toArray) w.heap.size 30 C := ⟨gb_row h0.1 _ (Or.inl (Nat.le_succ _)), h0.2.row_other _ _ (by omega)⟩
  refine wpAnyH_ready (rs := [8]) (by kernel_rfl) (by simp) ?_
  refine AllReadyH.cons (o := { dst := none, op := Op.store 54 (Operand.tmp 2) (Operand.tmp 10), type := _, pos := _, after := _, guard := _ }) rfl (fun K9 hK9 => ?_) AllReadyH.nil
  rw [if_pos (by rfl)]
  refine wp_store_row _ _ _ rfl (w.heap.size + 1) RC.toArray rfl rfl _ _ hB1d (unhide HIR) (unhide HZR) (unhide HRO) ?_
  refine hK9.out _ _ h6 (fun _ => ?_)
  clear hK9 K9 h6
  (try simp only [Act.put])
  refine wpAnyH_done (by kernel_rfl) ?_ _
  refine NoPanic.normal ?_
  go_wp2
  refine bodyPost_ret (results_cell_row rfl _ _ _ _ _ _ _ rfl (hB1d.row RC) Try.underlying54 rfl (unhide HIR)) rfl ?_
  exact ⟨rfl, gb_row h0.1 _ (Or.inl (Nat.le_succ _))⟩

theorem bs_str (s : ByteArray) (V : World) : (Instr.buildSlice 47 1 #[(0, .string s)]).run Try.prog V = .ok (.slice (some ⟨V.heap.size, 0, none⟩) 1 1) (V.alloc (.cells #[.string s] 9)) := by kernel_rfl

set_option maxRecDepth 100000 in
set_option maxHeartbeats 2000000 in
theorem lids_any (w : World) (ao : Option Addr) (c : Nat) (ps : List (List UInt8)) (hP : Ids w ao c ps) (hm : ps.length ≤ 100000) : Calls Try.prog 33 #[.slice ao ps.length c] w fun e w' => ∃ v, e = .returned v ∧ Stg w' w.heap.size v ps ∧ w.grownBy w' none := by
  obtain ⟨n, hln⟩ : ∃ n, n = ps.length := ⟨_, rfl⟩
  rw [← hln]
  have HP := hide hP
  have HL := hide hln
  have hn9 : n ≤ 100000 := by omega
  clear hP hln hm
  go_enter Try.func33, Try.ntmps33
  go_wp2
  go_loopw [3, 4] (fun v i wr => ∃ j : Nat, i = .int .i64 j ∧ j ≤ n ∧ Stg wr w.heap.size v (ps.take j) ∧ w.grownBy wr none) (fun _ i _ => n - (intOf i).toNat)
  case atStart => exact ⟨0, rfl, Nat.zero_le _, Stg.nil _ _, gb_refl _ _⟩
  case round =>
    obtain ⟨j, rfl, hj, ho, hg⟩ := hrel
    by_cases hlt : j < n
    · have hlt' : j < ps.length := by have := unhide HL; omega
      obtain ⟨b, o, hao, hrow⟩ := (unhide HP).at j hlt'
      have hr := range_kept (hrow j hlt') hg (by simp)
      have hid := (unhide HP).ids _ (List.getElem_mem hlt')
      have hnew := List.take_succ_eq_append_getElem hlt'
      obtain ⟨E, hEE⟩ : ∃ E, E = ps[j] := ⟨_, rfl⟩
      rw [← hEE] at hr hid hnew
      have hcv := conv_str (range_bts hr (by rw [hid]; unfold maxLen; omega))
      rw [hid] at hcv
      have hsl := slice_wid b (o + j * 32)
      have hbs := bs_str (str E) wr
      obtain ⟨W5, hW5, hB5, g5⟩ : ∃ W, W = wr.alloc (.cells #[.string (str E)] 9) ∧ Blk W wr.heap.size 9 [.string (str E)] ∧ wr.grownBy W none := box_new wr _ _
      have hcE : W5.cell? ⟨wr.heap.size, 0, none⟩ = some (stv E) := by rw [hB5.cell 0]; rfl
      obtain ⟨TE, hTE⟩ : ∃ T, T = str E := ⟨_, rfl⟩
      rw [← hTE] at hcv hbs hW5
      have ho5 := ho.kept g5
      have G5 := tn hg g5
      have hl9 : (ps.take j).length ≤ 1000000 := by rw [List.length_take]; omega
      have HW5 := hide hW5
      have HBS := hide hbs
      have HNW := hide hnew
      have HO5 := hide ho5
      have HG5 := hide G5
      have HCE := hide hcE
      clear hrow hEE hr hid hnew hW5 hB5 g5 hTE hbs ho hg ho5 G5 hcE hlt'
      subst hao
      go_wp2_with (first
        | (refine wpList_build1 rfl 47 _ rfl (.string TE) _ rfl (unhide HBS) ?_; rw [← unhide HW5])
        | (refine wpList_append_str rfl _ _ rfl w.heap.size _ _ E _ rfl (unhide HO5) rfl (unhide HCE) hl9 (unhide HG5).size ?_; intro v6 w6 ho6 g6; have HO6 := hide ho6; have HG6 := hide (gb_trans (unhide HG5) g6 (fun x e => Or.inl ((unhide HO5).lt x e).1)); clear ho6 g6 HO5 HG5))
      go_roundw
      case rel =>
        refine ⟨j + 1, by go_num, by omega, ?_, unhide HG6⟩
        rw [unhide HNW]
        exact unhide HO6
      case measure => simp [intOf]; omega
    · have hjn : j = ps.length := by have := unhide HL; omega
      rw [hjn, List.take_of_length_le (Nat.le_refl _)] at ho
      have HO := hide ho
      clear hjn ho
      go_wp2
      go_ret
      exact ⟨_, rfl, unhide HO, hg⟩

set_option maxRecDepth 100000 in
set_option maxHeartbeats 4000000 in
theorem lentries_any (w : World) (ao : Option Addr) (c : Nat) (es : List EntL) (hE : Ens w ao c es) (hm : es.length ≤ 100000) : Calls Try.prog 8 #[.slice ao es.length c] w fun e w' => ∃ v, e = .returned v ∧ w'.ownsRow w.heap.size 73 3 v es.length (es.flatMap reC) ∧ w.grownBy w' none := by
  obtain ⟨n, hln⟩ : ∃ n, n = es.length := ⟨_, rfl⟩
  rw [← hln]
  have HE := hide hE
  have HL := hide hln
  have hn9 : n ≤ 100000 := by omega
  clear hE hln hm
  go_enter Try.func8, Try.ntmps8
  go_wp2
  go_loopw [3, 4] (fun v i wr => ∃ j : Nat, i = .int .i64 j ∧ j ≤ n ∧ wr.ownsRow w.heap.size 73 3 v j ((es.take j).flatMap reC) ∧ w.grownBy wr none) (fun _ i _ => n - (intOf i).toNat)
  case atStart => exact ⟨0, rfl, Nat.zero_le _, World.ownsRow_nil _ _ _ _, gb_refl _ _⟩
  case round =>
    obtain ⟨j, rfl, hj, ho, hg⟩ := hrel
    by_cases hlt : j < n
    · have hlt' : j < es.length := by have := unhide HL; omega
      obtain ⟨b, o, hao, hrow⟩ := (unhide HE).at j hlt'
      have hr := hrow j hlt'
      have hid := (unhide HE).ids _ (List.getElem_mem hlt')
      have hnew : (es.take (j + 1)).flatMap reC = (es.take j).flatMap reC ++ reC es[j] := by rw [List.take_succ_eq_append_getElem hlt', List.flatMap_append]; simp
      obtain ⟨E, hEE⟩ : ∃ E, E = es[j] := ⟨_, rfl⟩
      rw [← hEE] at hr hid hnew
      obtain ⟨nm, D, id⟩ := E
      simp only at hid
      have k0 : w.cell? ⟨b, o + j * 34, none⟩ = some (.string (str nm)) := hr 0 _ rfl
      have k1 : w.cell? ⟨b, o + (j * 34 + 1), none⟩ = some (.bool D) := by rw [← Nat.add_assoc]; exact hr 1 _ rfl
      have k2 : ∀ V, w.grownBy V none → (convert 33 9 (.slice (some ⟨b, o + (j * 34 + 2), none⟩) 32 32)).run Try.prog V = .ok (.string (str id)) V := fun V gV => by
        have h1 := en_id hr
        rw [Nat.add_assoc] at h1
        have h2 := conv_str (range_bts (range_kept h1 gV (by simp)) (by rw [hid]; unfold maxLen; omega))
        rwa [hid] at h2
      have hsl := slice_wid b (o + (j * 34 + 2))
      obtain ⟨TN, hTN⟩ : ∃ T, T = str nm := ⟨_, rfl⟩
      obtain ⟨TI, hTI⟩ : ∃ T, T = str id := ⟨_, rfl⟩
      have hRC : reC ⟨nm, D, id⟩ = [.string TN, .bool D, .string TI] := by rw [hTN, hTI]; rfl
      rw [hRC] at hnew
      rw [← hTN] at k0
      rw [← hTI] at k2
      have hbt := built_rent TN TI D
      have hbs := bs_rent TN TI D
      have h0 : w.grownBy wr.drew none := gb_drew hg
      have hod := own_rent ho (gb_drew (gb_refl wr none)) (fun x e => by cases e)
      have HNW := hide hnew
      have HBT := hide hbt
      have hj9 : j ≤ 100000 := by omega
      clear hrow hEE hr hid hnew ho hg hlt' hTN hTI hRC hbt
      subst hao
      go_upto_region 5 with fail
      refine wp_region_noPanic ?_
      refine wp_region_held_drew (S := fun V => w.grownBy V none) (by kernel_rfl) h0 (fun _ => ?_)
      refine wpAnyH_take (i := 0) (oi := { dst := some 11, op := Op.move (Operand.tmp 3), type := _, pos := _, after := _, guard := _ }) (v := u3) rfl (by kernel_rfl) (by kernel_rfl) (by kernel_rfl) (fun _ _ _ h => h) (Or.inl ⟨by rfl, fun V (hV : w.grownBy V none) => by go_simp⟩) h0 ?_
      (try simp only [Act.put, List.setIfInBounds_toArray, List.set_cons_zero, List.set_cons_succ])
      refine wpAnyH_take (i := 1) (oi := { dst := some 12, op := Op.move (Operand.tmp 0), type := _, pos := _, after := _, guard := _ }) (v := .slice (some ⟨b, o, none⟩) n c) rfl (by kernel_rfl) (by kernel_rfl) (by kernel_rfl) (fun _ _ _ h => h) (Or.inl ⟨by rfl, fun V (hV : w.grownBy V none) => by go_simp⟩) h0 ?_
      (try simp only [Act.put, List.setIfInBounds_toArray, List.set_cons_zero, List.set_cons_succ])
      refine wpAnyH_take (i := 2) (oi := { dst := some 13, op := Op.move (Operand.tmp 4), type := _, pos := _, after := _, guard := _ }) (v := .int .i64 (j : Int)) rfl (by kernel_rfl) (by kernel_rfl) (by kernel_rfl) (fun _ _ _ h => h) (Or.inl ⟨by rfl, fun V (hV : w.grownBy V none) => by go_simp⟩) h0 ?_
      (try simp only [Act.put, List.setIfInBounds_toArray, List.set_cons_zero, List.set_cons_succ])
      refine wpAnyH_take (i := 3) (oi := { dst := some 14, op := Op.indexAddr 22 (Operand.tmp 12) (Operand.tmp 13), type := _, pos := _, after := _, guard := _ }) (v := .pointer (some ⟨b, o + j * 34, none⟩)) rfl (by kernel_rfl) (by kernel_rfl) (by kernel_rfl) (fun _ _ _ h => h) (Or.inl ⟨by rfl, fun V (hV : w.grownBy V none) => by go_simp⟩) h0 ?_
      (try simp only [Act.put, List.setIfInBounds_toArray, List.set_cons_zero, List.set_cons_succ])
      refine wpAnyH_take (i := 4) (oi := { dst := some 15, op := Op.fieldAddr 32 (Operand.tmp 14) 0, type := _, pos := _, after := _, guard := _ }) (v := .pointer (some ⟨b, o + j * 34, none⟩)) rfl (by kernel_rfl) (by kernel_rfl) (by kernel_rfl) (fun _ _ _ h => h) (Or.inl ⟨by rfl, fun V (hV : w.grownBy V none) => by go_simp⟩) h0 ?_
      (try simp only [Act.put, List.setIfInBounds_toArray, List.set_cons_zero, List.set_cons_succ])
      refine wpAnyH_take (i := 5) (oi := { dst := some 16, op := Op.load 9 (Operand.tmp 15), type := _, pos := _, after := _, guard := _ }) (v := .string TN) rfl (by kernel_rfl) (by kernel_rfl) (by kernel_rfl) (fun _ _ _ h => h) (Or.inl ⟨by rfl, fun V (hV : w.grownBy V none) => by (have q9 := hV.cell k0 (by simp); go_simp)⟩) h0 ?_
      (try simp only [Act.put, List.setIfInBounds_toArray, List.set_cons_zero, List.set_cons_succ])
      refine wpAnyH_take (i := 6) (oi := { dst := some 17, op := Op.move (Operand.tmp 0), type := _, pos := _, after := _, guard := _ }) (v := .slice (some ⟨b, o, none⟩) n c) rfl (by kernel_rfl) (by kernel_rfl) (by kernel_rfl) (fun _ _ _ h => h) (Or.inl ⟨by rfl, fun V (hV : w.grownBy V none) => by go_simp⟩) h0 ?_
      (try simp only [Act.put, List.setIfInBounds_toArray, List.set_cons_zero, List.set_cons_succ])
      refine wpAnyH_take (i := 7) (oi := { dst := some 18, op := Op.move (Operand.tmp 4), type := _, pos := _, after := _, guard := _ }) (v := .int .i64 (j : Int)) rfl (by kernel_rfl) (by kernel_rfl) (by kernel_rfl) (fun _ _ _ h => h) (Or.inl ⟨by rfl, fun V (hV : w.grownBy V none) => by go_simp⟩) h0 ?_
      (try simp only [Act.put, List.setIfInBounds_toArray, List.set_cons_zero, List.set_cons_succ])
      refine wpAnyH_take (i := 8) (oi := { dst := some 19, op := Op.indexAddr 22 (Operand.tmp 17) (Operand.tmp 18), type := _, pos := _, after := _, guard := _ }) (v := .pointer (some ⟨b, o + j * 34, none⟩)) rfl (by kernel_rfl) (by kernel_rfl) (by kernel_rfl) (fun _ _ _ h => h) (Or.inl ⟨by rfl, fun V (hV : w.grownBy V none) => by go_simp⟩) h0 ?_
      (try simp only [Act.put, List.setIfInBounds_toArray, List.set_cons_zero, List.set_cons_succ])
      refine wpAnyH_take (i := 9) (oi := { dst := some 20, op := Op.fieldAddr 32 (Operand.tmp 19) 1, type := _, pos := _, after := _, guard := _ }) (v := .pointer (some ⟨b, o + (j * 34 + 1), none⟩)) rfl (by kernel_rfl) (by kernel_rfl) (by kernel_rfl) (fun _ _ _ h => h) (Or.inl ⟨by rfl, fun V (hV : w.grownBy V none) => by go_simp⟩) h0 ?_
      (try simp only [Act.put, List.setIfInBounds_toArray, List.set_cons_zero, List.set_cons_succ])
      refine wpAnyH_take (i := 10) (oi := { dst := some 21, op := Op.load 4 (Operand.tmp 20), type := _, pos := _, after := _, guard := _ }) (v := .bool D) rfl (by kernel_rfl) (by kernel_rfl) (by kernel_rfl) (fun _ _ _ h => h) (Or.inl ⟨by rfl, fun V (hV : w.grownBy V none) => by (have q9 := hV.cell k1 (by simp); go_simp)⟩) h0 ?_
      (try simp only [Act.put, List.setIfInBounds_toArray, List.set_cons_zero, List.set_cons_succ])
      refine wpAnyH_take (i := 11) (oi := { dst := some 22, op := Op.move (Operand.tmp 0), type := _, pos := _, after := _, guard := _ }) (v := .slice (some ⟨b, o, none⟩) n c) rfl (by kernel_rfl) (by kernel_rfl) (by kernel_rfl) (fun _ _ _ h => h) (Or.inl ⟨by rfl, fun V (hV : w.grownBy V none) => by go_simp⟩) h0 ?_
      (try simp only [Act.put, List.setIfInBounds_toArray, List.set_cons_zero, List.set_cons_succ])
      refine wpAnyH_take (i := 12) (oi := { dst := some 23, op := Op.move (Operand.tmp 4), type := _, pos := _, after := _, guard := _ }) (v := .int .i64 (j : Int)) rfl (by kernel_rfl) (by kernel_rfl) (by kernel_rfl) (fun _ _ _ h => h) (Or.inl ⟨by rfl, fun V (hV : w.grownBy V none) => by go_simp⟩) h0 ?_
      (try simp only [Act.put, List.setIfInBounds_toArray, List.set_cons_zero, List.set_cons_succ])
      refine wpAnyH_take (i := 13) (oi := { dst := some 24, op := Op.indexAddr 22 (Operand.tmp 22) (Operand.tmp 23), type := _, pos := _, after := _, guard := _ }) (v := .pointer (some ⟨b, o + j * 34, none⟩)) rfl (by kernel_rfl) (by kernel_rfl) (by kernel_rfl) (fun _ _ _ h => h) (Or.inl ⟨by rfl, fun V (hV : w.grownBy V none) => by go_simp⟩) h0 ?_
      (try simp only [Act.put, List.setIfInBounds_toArray, List.set_cons_zero, List.set_cons_succ])
      refine wpAnyH_take (i := 14) (oi := { dst := some 25, op := Op.fieldAddr 32 (Operand.tmp 24) 2, type := _, pos := _, after := _, guard := _ }) (v := .pointer (some ⟨b, o + (j * 34 + 2), none⟩)) rfl (by kernel_rfl) (by kernel_rfl) (by kernel_rfl) (fun _ _ _ h => h) (Or.inl ⟨by rfl, fun V (hV : w.grownBy V none) => by go_simp⟩) h0 ?_
      (try simp only [Act.put, List.setIfInBounds_toArray, List.set_cons_zero, List.set_cons_succ])
      refine wpAnyH_take (i := 15) (oi := { dst := some 26, op := Op.slice 24 (Operand.tmp 25) none none none, type := _, pos := _, after := _, guard := _ }) (v := .slice (some ⟨b, o + (j * 34 + 2), none⟩) 32 32) rfl (by kernel_rfl) (by kernel_rfl) (by kernel_rfl) (fun _ _ _ h => h) (Or.inl ⟨by rfl, fun V (hV : w.grownBy V none) => by (have q9 := hsl V; go_simp)⟩) h0 ?_
      (try simp only [Act.put, List.setIfInBounds_toArray, List.set_cons_zero, List.set_cons_succ])
      refine wpAnyH_take (i := 16) (oi := { dst := some 27, op := Op.convert 33 9 (Operand.tmp 26), type := _, pos := _, after := _, guard := _ }) (v := .string TI) rfl (by kernel_rfl) (by kernel_rfl) (by kernel_rfl) (fun _ _ _ h => h) (Or.inl ⟨by rfl, fun V (hV : w.grownBy V none) => by (have q9 := k2 V hV; go_simp)⟩) h0 ?_
      (try simp only [Act.put, List.setIfInBounds_toArray, List.set_cons_zero, List.set_cons_succ])
      refine wpAnyH_take (i := 17) (oi := { dst := some 28, op := Op.build 73 #[(0, (Operand.tmp 16)), (1, (Operand.tmp 21)), (2, (Operand.tmp 27))], type := _, pos := _, after := _, guard := _ }) (v := .agg #[.string TN, .bool D, .string TI]) rfl (by kernel_rfl) (by kernel_rfl) (by kernel_rfl) (fun _ _ _ h => h) (yieldsIf_built (by rfl) _ _ rfl _ (Eq.trans (b := Try.prog.built 73 [(0, .string TN), (1, .bool D), (2, .string TI)]) (by kernel_rfl) (unhide HBT))) h0 ?_
      (try simp only [Act.put, List.setIfInBounds_toArray, List.set_cons_zero, List.set_cons_succ])
      refine wpAnyH_ready (rs := [18]) (by kernel_rfl) (by simp) ?_
      refine AllReadyH.cons (o := { dst := some 29, op := Op.buildSlice 43 1 #[(0, (Operand.tmp 28))], type := _, pos := _, after := _, guard := _ }) rfl (fun K9 hK9 => ?_) AllReadyH.nil
      obtain ⟨w5, hw5, hB5, g5⟩ : ∃ W, W = wr.drew.alloc (.cells #[.string TN, .bool D, .string TI] 73) ∧ Blk W wr.drew.heap.size 73 [.string TN, .bool D, .string TI] ∧ wr.drew.grownBy W none := box_new wr.drew _ _
      refine step_build1 (by rfl) _ _ rfl _ _ rfl (hbs wr.drew) ?_
      rw [← hw5]
      have G5 := tn h0 g5
      refine hK9.out _ _ G5 (fun _ => ?_)
      clear hK9 K9 hw5
      (try simp only [Act.put, List.setIfInBounds_toArray, List.set_cons_zero, List.set_cons_succ])
      have ho5 := own_rent hod g5 (fun x e => by cases e)
      refine wpAnyH_ready (rs := [19]) (by kernel_rfl) (by simp) ?_
      refine AllReadyH.cons (o := { dst := some 30, op := Op.call { callee := Callee.builtin Builtin.append, args := #[(Operand.tmp 11), (Operand.tmp 29)], argTypes := #[43, 43] }, type := _, pos := _, after := _, guard := _ }) rfl (fun K9 hK9 => ?_) AllReadyH.nil
      refine step_append_rent (by rfl) _ _ rfl w.heap.size u3 _ _ rfl ho5 _ _ hB5 rfl (by intro u hu; simp only [List.mem_cons, List.not_mem_nil, or_false] at hu; rcases hu with rfl | rfl | rfl <;> rfl) rfl hj9 G5.size ?_
      intro v6 w6 ho6 g6
      have G6 : w.grownBy w6 none := gb_trans G5 g6 (fun x e => Or.inl (ho5.lt x e).1)
      refine hK9.out _ _ G6 (fun _ => ?_)
      clear hK9 K9 g6 ho5 hB5 g5
      (try simp only [Act.put, List.setIfInBounds_toArray, List.set_cons_zero, List.set_cons_succ])
      refine wpAnyH_take (i := 20) (oi := { dst := some 3, op := Op.assign (Operand.tmp 30), type := _, pos := _, after := _, guard := _ }) (v := v6) rfl (by kernel_rfl) (by kernel_rfl) (by kernel_rfl) (fun _ _ _ h => h) (Or.inl ⟨by rfl, fun V (hV : w.grownBy V none) => by go_simp⟩) G6 ?_
      (try simp only [Act.put, List.setIfInBounds_toArray, List.set_cons_zero, List.set_cons_succ])
      refine wpAnyH_done (by kernel_rfl) ?_ _
      refine NoPanic.normal ?_
      go_wp2
      go_roundw
      case rel =>
        refine ⟨j + 1, by go_num, by omega, ?_, G6⟩
        rw [unhide HNW]
        exact ho6
      case measure => simp [intOf]; omega
    · have hjn : j = es.length := by have := unhide HL; omega
      have hln := unhide HL
      rw [hjn, List.take_of_length_le (Nat.le_refl _), ← hln] at ho
      have HO := hide ho
      clear hjn ho hln
      go_wp2
      go_ret
      exact ⟨_, rfl, unhide HO, hg⟩

set_option maxRecDepth 100000 in
set_option maxHeartbeats 4000000 in
theorem lchange_any (w : World) (cg : ChgL) (ao : Option Addr) (c : Nat) (hP : Ids w ao c cg.pars) (ht : cg.tree.length = 32) (hm : cg.pars.length ≤ 100000) : Calls Try.prog 11 #[.agg (chC cg ao c).toArray] w fun e w' => ∃ po pc, e = .returned (.agg (rcC cg po pc).toArray) ∧ Stl w' w.heap.size po pc cg.pars ∧ w.grownBy w' none := by
  obtain ⟨q1, q2, q3, q4⟩ := chC_at cg ao c ht
  obtain ⟨C, hC⟩ : ∃ C, C = chC cg ao c := ⟨_, rfl⟩
  rw [← hC] at q1 q2 q3 q4 ⊢
  obtain ⟨Z, hZ⟩ : ∃ Z : List Value, Z = rcC ⟨[], [], 0, [], []⟩ none 0 := ⟨_, rfl⟩
  have hzv : ∀ w, (zeroValue 49).run Try.prog w = .ok (.agg Z.toArray) w := fun w => by rw [hZ]; kernel_rfl
  have hZl : Z.toArray.size = 5 := by rw [hZ]; rfl
  obtain ⟨W0, hW0, hB0, g0⟩ := box_new w 28 C
  obtain ⟨W1, hW1, hB1, g1⟩ := box_new W0 49 Z
  have hs0 : W0.heap.size = w.heap.size + 1 := by rw [hW0]; simp
  rw [hs0] at hB1
  have hBo := hB0.kept g1 (by simp)
  have hW : W1 = (w.alloc (.cells C.toArray 28)).alloc (.cells Z.toArray 49) := by rw [hW1, hW0]
  obtain ⟨TT, hTT⟩ : ∃ T, T = str cg.tree := ⟨_, rfl⟩
  obtain ⟨TA, hTA⟩ : ∃ T, T = str cg.author := ⟨_, rfl⟩
  obtain ⟨TX, hTX⟩ : ∃ T, T = str cg.text := ⟨_, rfl⟩
  obtain ⟨n, hn⟩ : ∃ n, n = cg.pars.length := ⟨_, rfl⟩
  have hcell : ∀ V, Blk V w.heap.size 28 C → V.cell? ⟨w.heap.size, 32, none⟩ = some (.slice ao n c) ∧ V.cell? ⟨w.heap.size, 33, none⟩ = some (.int .u64 (cg.time : Int)) ∧ V.cell? ⟨w.heap.size, 34, none⟩ = some (.string TA) ∧ V.cell? ⟨w.heap.size, 35, none⟩ = some (.string TX) ∧ (convert 33 9 (.slice (some ⟨w.heap.size, 0, none⟩) 32 32)).run Try.prog V = .ok (.string TT) V := fun V h => by
    refine ⟨by rw [h.cell 32, q1, hn], by rw [h.cell 33, q2], by rw [h.cell 34, q3, hTA], by rw [h.cell 35, q4, hTX], ?_⟩
    have h1 := blk_all h
    rw [hC] at h1
    have h2 := conv_str (range_bts (ch_tree h1) (by rw [ht]; unfold maxLen; omega))
    rwa [ht, ← hTT] at h2
  have hsl := slice_wid w.heap.size 0
  have ci : ∀ V, w.grownBy V none → Calls Try.prog 33 #[.slice ao n c] V fun e w' => ∃ v, e = .returned v ∧ Stg w' V.heap.size v cg.pars ∧ V.grownBy w' none := fun V gV => by
    have := lids_any V ao c cg.pars (hP.none gV) hm
    rwa [← hn] at this
  have hbt : ∀ po pc, Try.prog.built 49 [(0, .string TT), (1, .slice po n pc), (2, .int .u64 (cg.time : Int)), (3, .string TA), (4, .string TX)] = some (rcC cg po pc).toArray := fun po pc => by rw [hTT, hTA, hTX, hn]; kernel_rfl
  have HW := hide hW
  have HCE := hide hcell
  have HBT := hide hbt
  have HN := hide hn
  have h0 : w.grownBy W1.drew none ∧ Blk W1.drew w.heap.size 28 C := ⟨gb_drew (tn g0 g1), hBo.drew⟩
  have hB1d := hB1.drew
  obtain ⟨tm, htm⟩ : ∃ t : Int, t = (cg.time : Int) := ⟨_, rfl⟩
  rw [← htm] at HCE HBT
  clear hW hW0 hW1 hB0 hB1 g0 g1 hs0 hBo hC hZ hTT hTA hTX hcell hbt q1 q2 q3 q4 ht hP hm hn htm
  go_enter Try.func11, Try.ntmps11
  go_upto_region 1 with (rw [← unhide HW])
  refine wp_region_noPanic ?_
  refine wp_region_held_drew (S := fun V => w.grownBy V none ∧ Blk V w.heap.size 28 C) (by kernel_rfl) h0 (fun _ => ?_)
  refine wpAnyH_take (i := 0) (oi := { dst := some 3, op := Op.fieldAddr 28 (Operand.tmp 1) 0, type := _, pos := _, after := _, guard := _ }) (v := .pointer (some ⟨w.heap.size, 0, none⟩)) rfl (by kernel_rfl) (by kernel_rfl) (by kernel_rfl) (fun _ _ _ h => h) (Or.inl ⟨by rfl, fun V (hV : w.grownBy V none ∧ Blk V w.heap.size 28 C) => by go_simp⟩) h0 ?_
  (try simp only [Act.put, List.setIfInBounds_toArray, List.set_cons_zero, List.set_cons_succ])
  refine wpAnyH_take (i := 1) (oi := { dst := some 4, op := Op.slice 24 (Operand.tmp 3) none none none, type := _, pos := _, after := _, guard := _ }) (v := .slice (some ⟨w.heap.size, 0, none⟩) 32 32) rfl (by kernel_rfl) (by kernel_rfl) (by kernel_rfl) (fun _ _ _ h => h) (Or.inl ⟨by rfl, fun V (hV : w.grownBy V none ∧ Blk V w.heap.size 28 C) => by (have q9 := hsl V; go_simp)⟩) h0 ?_
  (try simp only [Act.put, List.setIfInBounds_toArray, List.set_cons_zero, List.set_cons_succ])
  refine wpAnyH_take (i := 2) (oi := { dst := some 5, op := Op.convert 33 9 (Operand.tmp 4), type := _, pos := _, after := _, guard := _ }) (v := .string TT) rfl (by kernel_rfl) (by kernel_rfl) (by kernel_rfl) (fun _ _ _ h => h) (Or.inl ⟨by rfl, fun V (hV : w.grownBy V none ∧ Blk V w.heap.size 28 C) => by (have q9 := (unhide HCE V hV.2).2.2.2.2; go_simp)⟩) h0 ?_
  (try simp only [Act.put, List.setIfInBounds_toArray, List.set_cons_zero, List.set_cons_succ])
  refine wpAnyH_take (i := 3) (oi := { dst := some 6, op := Op.fieldAddr 28 (Operand.tmp 1) 1, type := _, pos := _, after := _, guard := _ }) (v := .pointer (some ⟨w.heap.size, 32, none⟩)) rfl (by kernel_rfl) (by kernel_rfl) (by kernel_rfl) (fun _ _ _ h => h) (Or.inl ⟨by rfl, fun V (hV : w.grownBy V none ∧ Blk V w.heap.size 28 C) => by go_simp⟩) h0 ?_
  (try simp only [Act.put, List.setIfInBounds_toArray, List.set_cons_zero, List.set_cons_succ])
  refine wpAnyH_take (i := 4) (oi := { dst := some 7, op := Op.load 25 (Operand.tmp 6), type := _, pos := _, after := _, guard := _ }) (v := .slice ao n c) rfl (by kernel_rfl) (by kernel_rfl) (by kernel_rfl) (fun _ _ _ h => h) (Or.inl ⟨by rfl, fun V (hV : w.grownBy V none ∧ Blk V w.heap.size 28 C) => by (have q9 := (unhide HCE V hV.2).1; go_simp)⟩) h0 ?_
  (try simp only [Act.put, List.setIfInBounds_toArray, List.set_cons_zero, List.set_cons_succ])
  refine wpAnyH_take (i := 6) (oi := { dst := some 9, op := Op.fieldAddr 28 (Operand.tmp 1) 2, type := _, pos := _, after := _, guard := _ }) (v := .pointer (some ⟨w.heap.size, 33, none⟩)) rfl (by kernel_rfl) (by kernel_rfl) (by kernel_rfl) (fun _ _ _ h => h) (Or.inl ⟨by rfl, fun V (hV : w.grownBy V none ∧ Blk V w.heap.size 28 C) => by go_simp⟩) h0 ?_
  (try simp only [Act.put, List.setIfInBounds_toArray, List.set_cons_zero, List.set_cons_succ])
  refine wpAnyH_take (i := 7) (oi := { dst := some 10, op := Op.load 26 (Operand.tmp 9), type := _, pos := _, after := _, guard := _ }) (v := .int .u64 tm) rfl (by kernel_rfl) (by kernel_rfl) (by kernel_rfl) (fun _ _ _ h => h) (Or.inl ⟨by rfl, fun V (hV : w.grownBy V none ∧ Blk V w.heap.size 28 C) => by (have q9 := (unhide HCE V hV.2).2.1; go_simp)⟩) h0 ?_
  (try simp only [Act.put, List.setIfInBounds_toArray, List.set_cons_zero, List.set_cons_succ])
  refine wpAnyH_take (i := 8) (oi := { dst := some 11, op := Op.fieldAddr 28 (Operand.tmp 1) 3, type := _, pos := _, after := _, guard := _ }) (v := .pointer (some ⟨w.heap.size, 34, none⟩)) rfl (by kernel_rfl) (by kernel_rfl) (by kernel_rfl) (fun _ _ _ h => h) (Or.inl ⟨by rfl, fun V (hV : w.grownBy V none ∧ Blk V w.heap.size 28 C) => by go_simp⟩) h0 ?_
  (try simp only [Act.put, List.setIfInBounds_toArray, List.set_cons_zero, List.set_cons_succ])
  refine wpAnyH_take (i := 9) (oi := { dst := some 12, op := Op.load 9 (Operand.tmp 11), type := _, pos := _, after := _, guard := _ }) (v := .string TA) rfl (by kernel_rfl) (by kernel_rfl) (by kernel_rfl) (fun _ _ _ h => h) (Or.inl ⟨by rfl, fun V (hV : w.grownBy V none ∧ Blk V w.heap.size 28 C) => by (have q9 := (unhide HCE V hV.2).2.2.1; go_simp)⟩) h0 ?_
  (try simp only [Act.put, List.setIfInBounds_toArray, List.set_cons_zero, List.set_cons_succ])
  refine wpAnyH_take (i := 10) (oi := { dst := some 13, op := Op.fieldAddr 28 (Operand.tmp 1) 4, type := _, pos := _, after := _, guard := _ }) (v := .pointer (some ⟨w.heap.size, 35, none⟩)) rfl (by kernel_rfl) (by kernel_rfl) (by kernel_rfl) (fun _ _ _ h => h) (Or.inl ⟨by rfl, fun V (hV : w.grownBy V none ∧ Blk V w.heap.size 28 C) => by go_simp⟩) h0 ?_
  (try simp only [Act.put, List.setIfInBounds_toArray, List.set_cons_zero, List.set_cons_succ])
  refine wpAnyH_take (i := 11) (oi := { dst := some 14, op := Op.load 9 (Operand.tmp 13), type := _, pos := _, after := _, guard := _ }) (v := .string TX) rfl (by kernel_rfl) (by kernel_rfl) (by kernel_rfl) (fun _ _ _ h => h) (Or.inl ⟨by rfl, fun V (hV : w.grownBy V none ∧ Blk V w.heap.size 28 C) => by (have q9 := (unhide HCE V hV.2).2.2.2.1; go_simp)⟩) h0 ?_
  (try simp only [Act.put, List.setIfInBounds_toArray, List.set_cons_zero, List.set_cons_succ])
  refine wpAnyH_ready (rs := [5]) (by kernel_rfl) (by simp) ?_
  refine AllReadyH.cons (o := { dst := some 8, op := Op.call { callee := Callee.value (Operand.func 33), args := #[(Operand.tmp 7)], argTypes := #[25] }, type := _, pos := _, after := _, guard := _ }) rfl (fun K9 hK9 => ?_) AllReadyH.nil
  go_simp
  go_at_call 33
  refine (ci _ h0.1).mono ?_
  rintro e w2 ⟨v2, rfl, hS2, g2⟩
  have h2 : w.grownBy w2 none ∧ Blk w2 w.heap.size 28 C := ⟨tn h0.1 g2, h0.2.kept g2 (by simp)⟩
  go_wp2_with fail
  refine hK9.out _ _ h2 (fun _ => ?_)
  clear hK9 K9
  (try simp only [Act.put, List.setIfInBounds_toArray, List.set_cons_zero, List.set_cons_succ])
  obtain ⟨po, pc, hv2, hStl2⟩ := hS2.open
  rw [← unhide HN] at hv2
  subst hv2
  have hB2 := hB1d.kept g2 (by simp)
  obtain ⟨RC, hRC⟩ : ∃ R, R = rcC cg po pc := ⟨_, rfl⟩
  have hbt := unhide HBT po pc
  rw [← hRC] at hbt
  have hRl : RC.toArray.size = 5 := by rw [hRC]; rfl
  have hRo : RC.toArray.all (·.oneCell') = true := by rw [hRC]; exact all_oneCell_toArray (rcC_one _ _ _)
  have hiR : (Try.prog.info? 49).map (·.size) = some RC.toArray.size := by rw [hRl]; exact info_rchg
  have hZR : Z.toArray.size = RC.toArray.size := by rw [hZl, hRl]
  have HIR := hide hiR
  have HZR := hide hZR
  have HRO := hide hRo
  have HRC := hide hRC
  have HBT2 := hide hbt
  clear hRl hRo hiR hZR hRC hbt
  refine wpAnyH_take (i := 12) (oi := { dst := some 15, op := Op.build 49 #[(0, (Operand.tmp 5)), (1, (Operand.tmp 8)), (2, (Operand.tmp 10)), (3, (Operand.tmp 12)), (4, (Operand.tmp 14))], type := _, pos := _, after := _, guard := _ }) (v := .agg RC.toArray) rfl (by kernel_rfl) (by kernel_rfl) (by kernel_rfl) (fun _ _ _ h => h) (yieldsIf_built (by rfl) _ _ rfl _ (Eq.trans (b := Try.prog.built 49 [(0, .string TT), (1, .slice po n pc), (2, .int .u64 tm), (3, .string TA), (4, .string TX)]) (by kernel_rfl) (unhide HBT2))) h2 ?_
  (try simp only [Act.put, List.setIfInBounds_toArray, List.set_cons_zero, List.set_cons_succ])
  have h6 : w.grownBy (w2.setRow (w.heap.size + 1) RC.toArray) none ∧ Blk (w2.setRow (w.heap.size + 1) RC.toArray) w.heap.size 28 C := ⟨gb_row h2.1 _ (Or.inl (Nat.le_succ _)), h2.2.row_other _ _ (by omega)⟩
  have hS3 : Stg (w2.setRow (w.heap.size + 1) RC.toArray) w.heap.size (.slice po n pc) cg.pars := own_row_id (own_low hS2 h0.1.size) hB2 (by decide) RC.toArray
  have hStl : Stl (w2.setRow (w.heap.size + 1) RC.toArray) w.heap.size po pc cg.pars := by
    obtain ⟨a1, c1, e1, e2⟩ := hS3.open
    injection e1 with e3 e4 e5
    subst e3 e5
    exact e2
  refine wpAnyH_ready (rs := [13]) (by kernel_rfl) (by simp) ?_
  refine AllReadyH.cons (o := { dst := none, op := Op.store 49 (Operand.tmp 2) (Operand.tmp 15), type := _, pos := _, after := _, guard := _ }) rfl (fun K9 hK9 => ?_) AllReadyH.nil
  rw [if_pos (by rfl)]
  refine wp_store_row _ _ _ rfl (w.heap.size + 1) RC.toArray rfl rfl _ _ hB2 (unhide HIR) (unhide HZR) (unhide HRO) ?_
  refine hK9.out _ _ h6 (fun _ => ?_)
  clear hK9 K9 h6
  (try simp only [Act.put])
  refine wpAnyH_done (by kernel_rfl) ?_ _
  refine NoPanic.normal ?_
  go_wp2
  refine bodyPost_ret (results_cell_row rfl _ _ _ _ _ _ _ rfl (hB2.row RC) Try.underlying49 rfl (unhide HIR)) rfl ?_
  refine ⟨po, pc, by rw [unhide HRC], ?_, gb_row h2.1 _ (Or.inl (Nat.le_succ _))⟩
  exact hStl

end Go.Proofs.Ytcemdlcimhoeeaa
