/- What object's OfChange and OfMark answer. Of parents that lie in memory, and texts of at most 100000 bytes. -/
import Derived.Test.YtcemdlcimhoeeaaDoorOChg
namespace Go.Proofs.YtcemdlcimhoeeaaDoor
open Go.RowKit

theorem onceAt_eq (ps : List (List UInt8)) (j : Nat) (hj : j < ps.length) : onceAt ps j = !((ps.take j).contains ps[j]) := by
  unfold onceAt
  rw [show ps.getD j [] = ps[j] by simp [hj]]

/-- The last steps: what was made is laid into the result. -/
theorem Made.laid {w w2 : World} {K : Int} {r : Int × List UInt8} {v2 : Value} {x : Int} {b : Nat} {cs : List Value} {t : TypeId} (hB : Blk w2 b t cs) (ht : t ≠ 5) (hb : w.heap.size ≤ b) (hx : x = r.1) (hN : NewB w w2 v2 r.2) (g : w.grownBy w2 none) :
    Made w (w2.setRow b #[.int .i64 (if r.1 = 0 then K else 0), v2]) K r (.returned (.tuple #[.agg #[.int .i64 (if r.1 = 0 then K else 0), v2], .int .i64 x])) := by
  subst hx
  refine ⟨v2, rfl, ?_, gb_row g _ (Or.inl hb)⟩
  obtain ⟨ao2, c2, e1, e2, e3⟩ := hN
  refine ⟨ao2, c2, e1, e2.kept (gb_row (gb_refl _ _) _ (Or.inr rfl)) ?_, fun ad e => ⟨(e3 ad e).1, (e3 ad e).2.kept (gb_row (gb_refl _ _) _ (Or.inr rfl)) ?_⟩⟩
  · intro x e ad e2 e4
    cases e
    exact hB.typ ht (e4 ▸ (e3 ad e2).2)
  · intro e4
    have e5 := Option.some.inj e4
    exact hB.typ ht (e5 ▸ (e3 ad e).2)

set_option maxRecDepth 100000 in
set_option maxHeartbeats 4000000 in
theorem ofChg_any (w : World) (c : ChgL) (po : Option Addr) (pc : Nat) (hP : Ids w po pc c.pars) (ht : c.tree.length = 32) (ha : c.author.length ≤ 1000000) (hx : c.text.length ≤ 1000000) (hn4 : c.pars.length ≤ 1000) :
    Calls Tryd.prog 7 #[.agg (chC c po pc).toArray] w fun e w' => Made w w' 3 (ofChg c) e := by
  have hat := (chC_at c po pc ht).1
  have hCl := chC_len c po pc ht
  obtain ⟨C, hC⟩ : ∃ C, C = chC c po pc := ⟨_, rfl⟩
  rw [← hC] at hat hCl ⊢
  obtain ⟨W0, hW0, hB0, g0⟩ := box_new w 28 C
  have hW1 : ∃ W1, W1 = W0.alloc (.cells #[.int .i64 0, .slice none 0 0] 34) ∧ Blk W1 (w.heap.size + 1) 34 [.int .i64 0, .slice none 0 0] ∧ W0.grownBy W1 none := by
    refine ⟨_, rfl, ?_, gb_alloc (gb_refl _ _) _⟩
    have hsz : W0.heap.size = w.heap.size + 1 := by rw [hW0]; simp
    rw [← hsz]
    exact Blk.new W0 _ _
  obtain ⟨W1, hW1, hB1, g1⟩ := hW1
  have hBC := hB0.kept g1 (by simp)
  have G1 := tn g0 g1
  have hcp : W1.cell? ⟨w.heap.size, 32, none⟩ = some (.slice po c.pars.length pc) := by rw [hBC.cell 32, hat]
  have hW : W1 = (w.alloc (.cells C.toArray 28)).alloc (.cells #[.int .i64 0, .slice none 0 0] 34) := by rw [hW1, hW0]
  have HW := hide hW
  clear hW1 hW0 g1 g0 hB0 hat hW
  by_cases hn : 4 < c.pars.length
  · have hr : ofChg c = (3, []) := by simp [ofChg, hn]
    obtain ⟨n, hln⟩ : ∃ n, n = c.pars.length := ⟨_, rfl⟩
    have hn2 : (4 : Int) < (n : Int) := by omega
    rw [← hln] at hcp
    have HR := hide hr
    have hf0 := hB1.fz 0
    have hf1 := hB1.fz 1
    have hd0 := hB1.cell 0
    have hd1 := hB1.cell 1
    simp only [List.getElem?_cons_zero, List.getElem?_cons_succ] at hd0 hd1
    clear hln hn hP ha hx ht hC hn4 hr hBC hCl
    go_enter Tryd.func7, Tryd.ntmps7
    go_wp2_with (rw [← unhide HW])
    refine bodyPost_ret (results_row_tmp rfl _ _ _ _ _ _ _ rfl ((hB1.set 0 (.int .i64 0)).set 1 (.slice none 0 0)) Tryd.underlying34 rfl info_obj) rfl ?_
    exact Made.bad 3 (unhide HR) (by decide) (gb_setCell (gb_setCell G1 _ _ (Or.inl (Nat.le_succ _))) _ _ (Or.inl (Nat.le_succ _)))
  · obtain ⟨Z, hZ, hzv⟩ := zero_id
    obtain ⟨ps, hps⟩ : ∃ ps, ps = c.pars := ⟨_, rfl⟩
    have hnn : ¬ 4 < c.pars.length := hn
    rw [← hps] at hcp hP hn4 hn
    obtain ⟨n, hln⟩ : ∃ n, n = ps.length := ⟨_, rfl⟩
    have hn2 : ¬ (4 : Int) < (n : Int) := by omega
    have hn3 : n ≤ 4 := by omega
    rw [← hln] at hcp
    have HE := hide (hP.none G1)
    have HL := hide hln
    have HZ := hide hZ
    have HN := hide hnn
    have HPS := hide hps
    have HB1 := hide hB1
    have HBC := hide hBC
    have HG1 := hide G1
    have HC := hide hC
    have HCL := hide hCl
    have HT := hide ht
    have HA := hide ha
    have HX := hide hx
    have HP := hide hP
    clear hP hln hn hZ hnn hps hB1 hBC G1 hC hCl ht ha hx hn4
    go_enter Tryd.func7, Tryd.ntmps7
    go_wp2_with (rw [← unhide HW])
    go_loopw [14] (fun i wr => ∃ j : Nat, i = .int .i64 j ∧ j ≤ n ∧ Hid (onceTo ps j = true) ∧ W1.grownBy wr none) (fun i _ => n - (intOf i).toNat)
    case atStart => exact ⟨0, rfl, Nat.zero_le _, rfl, by rw [unhide HW]; exact gb_refl _ _⟩
    case round =>
      obtain ⟨j, rfl, hj, HG, hg⟩ := hrel
      by_cases hlt : j < n
      · have hlt' : j < ps.length := by have := unhide HL; omega
        obtain ⟨b, o, hao, hrow⟩ := (unhide HE).at j hlt'
        have hr := range_kept (hrow j hlt') hg (by simp)
        have hid := (unhide HE).ids _ (List.getElem_mem hlt')
        have hgd := onceAt_eq ps j hlt'
        obtain ⟨E, hEE⟩ : ∃ E, E = ps[j] := ⟨_, rfl⟩
        rw [← hEE] at hgd hr hid
        obtain ⟨EC, hEC⟩ : ∃ L, L = E.map bv := ⟨_, rfl⟩
        have hEl : EC.length = 32 := by rw [hEC, List.length_map, hid]
        have hEo : EC.toArray.all (·.oneCell') = true := by rw [hEC]; exact all_oneCell_toArray (bv_one _)
        obtain ⟨W, hW, hB, gW⟩ := row_new wr 24 Z EC
        rw [← hEC] at hr
        have hG := tn hg gW
        have hcW := hG.cell hcp (by simp)
        have hsl : ∀ V : World, (Instr.slice 25 (.slice po n pc) none (some (.int .i64 (j : Int))) none).run Tryd.prog V = .ok (.slice po j pc) V := fun V => slice_to_id V po n pc j (by have := (unhide HE).fits; have := unhide HL; omega)
        have hrX := blk_all hB
        have cc : ∀ V, W.grownBy V none → Calls Tryd.prog 28 #[.slice po j pc, .agg EC.toArray] V fun e w' => e = .returned (.bool ((ps.take j).contains E)) ∧ V.grownBy w' none := fun V gV => by
          have h1 := scontains_any V po pc (ps.take j) ((((unhide HE).none hG).none gV).take j (by omega)) E hid (by rw [List.length_take]; omega)
          rw [← hEC, List.length_take, Nat.min_eq_left (by omega)] at h1
          exact h1
        have HW9 := hide hW
        have HEO := hide hEo
        have HHG := hide hG
        have hiE : (Tryd.prog.info? 24).map (·.size) = some EC.length := by rw [hEl]; exact info_id
        have HIE := hide hiE
        have hZE : Z.size = EC.toArray.size := by rw [unhide HZ]; simp [hEl]
        have HZE := hide hZE
        have h0 : W.grownBy W.drew none := gb_drew (gb_refl _ _)
        obtain ⟨B, hBB⟩ : ∃ B, B = (ps.take j).contains E := ⟨_, rfl⟩
        rw [← hBB] at cc hgd
        have HGD := hide hgd
        clear hW hEo hG hB hEC hEl hid hiE hZE hgd gW hg hrow hEE hlt' hBB
        subst hao
        go_upto_region 6 with (first
          | (refine wpList_load_mid rfl 24 _ rfl b (o + j * 32) rfl EC _ hr Tryd.underlying24 rfl (unhide HIE) ?_; clear hr)
          | (refine wpList_store_row rfl 24 _ _ rfl wr.heap.size EC.toArray rfl rfl _ _ (heap_alloc_new _ _) (by simpa using unhide HIE) (unhide HZE) (unhide HEO) ?_; rw [← unhide HW9]))
        cases B
        · have hgt : onceTo ps (j + 1) = true := by rw [onceTo_succ, unhide HG, unhide HGD]; rfl
          have HGT := hide hgt
          clear hgt HGD HG
          refine wp_region_noPanic ?_
          refine wp_region_held_drew (S := fun V => W.grownBy V none) (by kernel_rfl) h0 (fun _ => ?_)
          refine wpAnyH_take (i := 0) (oi := { dst := some 19, op := Op.fieldAddr 28 (Operand.tmp 1) 1, type := _, pos := _, after := _, guard := _ }) (v := .pointer (some ⟨w.heap.size, 32, none⟩)) rfl (by kernel_rfl) (by kernel_rfl) (by kernel_rfl) (fun _ _ _ h => h) (Or.inl ⟨by rfl, fun V (hV : W.grownBy V none) => by go_simp⟩) h0 ?_
          (try simp only [Act.put, List.setIfInBounds_toArray, List.set_cons_zero, List.set_cons_succ])
          refine wpAnyH_take (i := 1) (oi := { dst := some 20, op := Op.load 25 (Operand.tmp 19), type := _, pos := _, after := _, guard := _ }) (v := .slice (some ⟨b, o, none⟩) n pc) rfl (by kernel_rfl) (by kernel_rfl) (by kernel_rfl) (fun _ _ _ h => h) (Or.inl ⟨by rfl, fun V (hV : W.grownBy V none) => by (have q9 := hV.cell hcW (by simp); go_simp)⟩) h0 ?_
          (try simp only [Act.put, List.setIfInBounds_toArray, List.set_cons_zero, List.set_cons_succ])
          refine wpAnyH_take (i := 2) (oi := { dst := some 21, op := Op.move (Operand.tmp 4), type := _, pos := _, after := _, guard := _ }) (v := .int .i64 (j : Int)) rfl (by kernel_rfl) (by kernel_rfl) (by kernel_rfl) (fun _ _ _ h => h) (Or.inl ⟨by rfl, fun V (hV : W.grownBy V none) => by go_simp⟩) h0 ?_
          (try simp only [Act.put, List.setIfInBounds_toArray, List.set_cons_zero, List.set_cons_succ])
          refine wpAnyH_take (i := 3) (oi := { dst := some 22, op := Op.slice 25 (Operand.tmp 20) none (some (Operand.tmp 21)) none, type := _, pos := _, after := _, guard := _ }) (v := .slice (some ⟨b, o, none⟩) j pc) rfl (by kernel_rfl) (by kernel_rfl) (by kernel_rfl) (fun _ _ _ h => h) (Or.inl ⟨by rfl, fun V (hV : W.grownBy V none) => by (have q9 := hsl V; go_simp)⟩) h0 ?_
          (try simp only [Act.put, List.setIfInBounds_toArray, List.set_cons_zero, List.set_cons_succ])
          refine wpAnyH_take (i := 4) (oi := { dst := some 23, op := Op.load 24 (Operand.tmp 5), type := _, pos := _, after := _, guard := _ }) (v := .agg EC.toArray) rfl (by kernel_rfl) (by kernel_rfl) (by kernel_rfl) (fun _ _ _ h => h) (yieldsIf_load_mid (by rfl) _ _ rfl _ _ rfl EC _ (fun V hV => range_kept hrX hV (by simp)) Tryd.underlying24 rfl (unhide HIE)) h0 ?_
          (try simp only [Act.put, List.setIfInBounds_toArray, List.set_cons_zero, List.set_cons_succ])
          refine wpAnyH_ready (rs := [5]) (by kernel_rfl) (by simp) ?_
          refine AllReadyH.cons (o := { dst := some 24, op := Op.call { callee := Callee.value (Operand.func 28), args := #[(Operand.tmp 22), (Operand.tmp 23)], argTypes := #[25, 24] }, type := _, pos := _, after := _, guard := _ }) rfl (fun K9 hK9 => ?_) AllReadyH.nil
          go_simp
          go_at_call 28
          refine (cc _ h0).mono ?_
          rintro e w2 ⟨rfl, g2a⟩
          have g2 := tn h0 g2a
          clear g2a
          go_wp2_with fail
          refine hK9.out _ _ g2 (fun _ => ?_)
          clear hK9 K9
          (try simp only [Act.put, List.setIfInBounds_toArray, List.set_cons_zero, List.set_cons_succ])
          refine wpAnyH_done (by kernel_rfl) ?_ _
          refine NoPanic.normal ?_
          go_wp2
          go_roundw
          case rel => exact ⟨j + 1, by go_num, by omega, HGT, tn (unhide HHG) g2⟩
          case measure => simp [intOf]; omega
        · have hgf : onceAt ps j = false := by rw [unhide HGD]; rfl
          have hres : ofChg c = (2, []) := by
            have h1 : onceTo ps ps.length = false := all_not (by have := unhide HL; omega) hgf
            rw [unhide HPS] at h1
            simp [ofChg, unhide HN, h1]
          have HRS := hide hres
          clear hgf hres HGD HG
          refine wp_region_noPanic ?_
          refine wp_region_held_drew (S := fun V => W.grownBy V none) (by kernel_rfl) h0 (fun _ => ?_)
          refine wpAnyH_take (i := 0) (oi := { dst := some 19, op := Op.fieldAddr 28 (Operand.tmp 1) 1, type := _, pos := _, after := _, guard := _ }) (v := .pointer (some ⟨w.heap.size, 32, none⟩)) rfl (by kernel_rfl) (by kernel_rfl) (by kernel_rfl) (fun _ _ _ h => h) (Or.inl ⟨by rfl, fun V (hV : W.grownBy V none) => by go_simp⟩) h0 ?_
          (try simp only [Act.put, List.setIfInBounds_toArray, List.set_cons_zero, List.set_cons_succ])
          refine wpAnyH_take (i := 1) (oi := { dst := some 20, op := Op.load 25 (Operand.tmp 19), type := _, pos := _, after := _, guard := _ }) (v := .slice (some ⟨b, o, none⟩) n pc) rfl (by kernel_rfl) (by kernel_rfl) (by kernel_rfl) (fun _ _ _ h => h) (Or.inl ⟨by rfl, fun V (hV : W.grownBy V none) => by (have q9 := hV.cell hcW (by simp); go_simp)⟩) h0 ?_
          (try simp only [Act.put, List.setIfInBounds_toArray, List.set_cons_zero, List.set_cons_succ])
          refine wpAnyH_take (i := 2) (oi := { dst := some 21, op := Op.move (Operand.tmp 4), type := _, pos := _, after := _, guard := _ }) (v := .int .i64 (j : Int)) rfl (by kernel_rfl) (by kernel_rfl) (by kernel_rfl) (fun _ _ _ h => h) (Or.inl ⟨by rfl, fun V (hV : W.grownBy V none) => by go_simp⟩) h0 ?_
          (try simp only [Act.put, List.setIfInBounds_toArray, List.set_cons_zero, List.set_cons_succ])
          refine wpAnyH_take (i := 3) (oi := { dst := some 22, op := Op.slice 25 (Operand.tmp 20) none (some (Operand.tmp 21)) none, type := _, pos := _, after := _, guard := _ }) (v := .slice (some ⟨b, o, none⟩) j pc) rfl (by kernel_rfl) (by kernel_rfl) (by kernel_rfl) (fun _ _ _ h => h) (Or.inl ⟨by rfl, fun V (hV : W.grownBy V none) => by (have q9 := hsl V; go_simp)⟩) h0 ?_
          (try simp only [Act.put, List.setIfInBounds_toArray, List.set_cons_zero, List.set_cons_succ])
          refine wpAnyH_take (i := 4) (oi := { dst := some 23, op := Op.load 24 (Operand.tmp 5), type := _, pos := _, after := _, guard := _ }) (v := .agg EC.toArray) rfl (by kernel_rfl) (by kernel_rfl) (by kernel_rfl) (fun _ _ _ h => h) (yieldsIf_load_mid (by rfl) _ _ rfl _ _ rfl EC _ (fun V hV => range_kept hrX hV (by simp)) Tryd.underlying24 rfl (unhide HIE)) h0 ?_
          (try simp only [Act.put, List.setIfInBounds_toArray, List.set_cons_zero, List.set_cons_succ])
          refine wpAnyH_ready (rs := [5]) (by kernel_rfl) (by simp) ?_
          refine AllReadyH.cons (o := { dst := some 24, op := Op.call { callee := Callee.value (Operand.func 28), args := #[(Operand.tmp 22), (Operand.tmp 23)], argTypes := #[25, 24] }, type := _, pos := _, after := _, guard := _ }) rfl (fun K9 hK9 => ?_) AllReadyH.nil
          go_simp
          go_at_call 28
          refine (cc _ h0).mono ?_
          rintro e w2 ⟨rfl, g2a⟩
          have g2 := tn h0 g2a
          clear g2a
          go_wp2_with fail
          refine hK9.out _ _ g2 (fun _ => ?_)
          clear hK9 K9
          (try simp only [Act.put, List.setIfInBounds_toArray, List.set_cons_zero, List.set_cons_succ])
          refine wpAnyH_done (by kernel_rfl) ?_ _
          refine NoPanic.normal ?_
          have gF := tn (unhide HHG) g2
          have hBr := (unhide HB1).kept gF (by simp)
          have hf0 := hBr.fz 0
          have hf1 := hBr.fz 1
          have hd0 := hBr.cell 0
          have hd1 := hBr.cell 1
          simp only [List.getElem?_cons_zero, List.getElem?_cons_succ] at hd0 hd1
          go_wp2
          refine bodyPost_ret (results_row_tmp rfl _ _ _ _ _ _ _ rfl ((hBr.set 0 (.int .i64 0)).set 1 (.slice none 0 0)) Tryd.underlying34 rfl info_obj) rfl ?_
          exact Made.bad 3 (unhide HRS) (by decide) (gb_setCell (gb_setCell (tn (unhide HG1) gF) _ _ (Or.inl (Nat.le_succ _))) _ _ (Or.inl (Nat.le_succ _)))
      · have hjn : j = ps.length := by have := unhide HL; omega
        have hres : ofChg c = fitB (chgB c) := by
          have h1 : onceTo ps ps.length = true := by rw [← hjn]; exact unhide HG
          rw [unhide HPS] at h1
          simp [ofChg, unhide HN, h1]
        have hrC := range_kept (blk_all (unhide HBC)) hg (by simp)
        have G := tn (unhide HG1) hg
        have hP2 : Ids wr po pc c.pars := by rw [← unhide HPS]; exact (unhide HP).none G
        have cl := layChg_any wr c po pc hP2 (unhide HT) (by have := unhide HN; omega) (unhide HA) (unhide HX)
        rw [← unhide HC] at cl
        have hiC : (Tryd.prog.info? 28).map (·.size) = some C.length := by rw [unhide HCL]; exact info_chg
        have HIC := hide hiC
        have HRS := hide hres
        clear hjn hres HG hP2 hiC
        go_wp2_with (refine wpList_load_mid rfl 28 _ rfl w.heap.size 0 rfl C _ hrC Tryd.underlying28 rfl (unhide HIC) ?_; clear hrC)
        refine cl.mono ?_
        rintro e w1 ⟨v1, rfl, hN1, g1⟩
        have hBr := ((unhide HB1).kept hg (by simp)).kept g1 (by simp)
        have cm := made_fit w w1 3 v1 (chgB c) (NewB.later hN1 G.size) (tn G g1)
        obtain ⟨r, hr⟩ : ∃ r, r = fitB (chgB c) := ⟨_, rfl⟩
        rw [← hr] at cm
        have HRR := hide hr
        clear cl hN1 g1 hr
        go_wp2_with fail
        refine cm.mono ?_
        rintro e w2 ⟨v2, x, rfl, hx, hN2, h1c, g2, gm⟩
        have hB2 := hBr.kept gm (by simp)
        have hrr : ofChg c = r := by rw [unhide HRS, unhide HRR]
        have hfin := Made.laid (K := 3) hB2 (by decide) (Nat.le_succ _) hx hN2 g2
        obtain ⟨K, hK⟩ : ∃ K : Int, K = (if r.1 = 0 then 3 else 0) := ⟨_, rfl⟩
        rw [← hK] at hfin ⊢
        have HF := hide hfin
        have HRX := hide hrr
        clear cm hK hx hBr hfin hrr
        go_wp2_with (refine wpList_store_row rfl 34 _ _ rfl (w.heap.size + 1) #[.int .i64 K, v2] rfl rfl _ _ hB2 info_obj rfl (obj_one h1c) ?_)
        refine bodyPost_ret (results_row_tmp rfl _ _ _ _ _ _ _ rfl (hB2.row [.int .i64 K, v2]) Tryd.underlying34 rfl info_obj) rfl ?_
        rw [unhide HRX]
        exact unhide HF

end Go.Proofs.YtcemdlcimhoeeaaDoor
