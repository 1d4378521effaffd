/- What object's OfChange and OfMark answer, and slices.Index and slices.Contains of names of objects. Of parents that lie in memory, and texts of at most 100000 bytes. -/
import Derived.Test.YtlifmipnoeioaaaGreatDoorOTree
import Derived.Test.YtlifmipnoeioaaaGreatDoorOLayC
import Derived.Test.YtlifmipnoeioaaaGreatDoorMSame
import Derived.Test.YtlifmipnoeioaaaGreatDoorNKind
import Derived.Test.YtlifmipnoeioaaaGreatDoorORdP
namespace Go.Proofs.YtlifmipnoeioaaaGreatDoor
open Go.RowKit

theorem eql_ids (w : World) (xs ys : List UInt8) (hx : xs.length = 32) (hy : ys.length = 32) : (binOp .eql 33 (.agg (xs.map bv).toArray) (.agg (ys.map bv).toArray)).run Tryz.prog w = .ok (.bool (xs == ys)) w :=
  run_eql_bytes w 33 5 32 Tryz.underlying33 Tryz.underlying5 size_byte xs ys hx hy
theorem guard_id : Tryz.prog.eqGuardType Tryz.prog.depth 33 = false := by kernel_rfl
theorem size_id (w : World) : (Go.sizeOf 33).run Tryz.prog w = .ok 32 w := by kernel_rfl
theorem slice_to_id (W : World) (ao : Option Addr) (n c k : Nat) (hk : k ≤ c) : (Instr.slice 29 (.slice ao n c) none (some (.int .i64 (k : Int))) none).run Tryz.prog W = .ok (.slice ao k c) W := by
  have ht' : Tryz.prog.underlying 29 = some (.slice (Tryz.prog.elem 29)) := by simp [Program.elem, Tryz.underlying29]
  have he : Tryz.prog.elem 29 = 33 := by simp [Program.elem, Tryz.underlying29]
  rw [run_slice_h W 29 _ _ _ ht' .i64 _ (by omega) (by omega), he, size_id]
  cases ao <;> simp [Result.andThen, sliced, Addr.add]

theorem contains_snoc (ps : List (List UInt8)) (x : List UInt8) (j : Nat) (hj : j < ps.length) : (ps.take (j + 1)).contains x = ((ps.take j).contains x || (x == ps[j])) := by
  rw [List.take_succ_eq_append_getElem hj, Bool.eq_iff_iff]
  simp only [List.contains_iff_mem, List.mem_append, List.mem_singleton, Bool.or_eq_true, beq_iff_eq]

set_option maxRecDepth 100000 in
set_option maxHeartbeats 2000000 in
theorem sindex_any (w : World) (ao : Option Addr) (c : Nat) (ps : List (List UInt8)) (hP : Ids w ao c ps) (x : List UInt8) (hx : x.length = 32) (hn : ps.length ≤ 1000) :
    Calls Tryz.prog 102 #[.slice ao ps.length c, .agg (x.map bv).toArray] w fun e w' => ∃ r : Int, e = .returned (.int .i64 r) ∧ decide (0 ≤ r) = ps.contains x ∧ w.grownBy w' none := by
  obtain ⟨X, hX⟩ : ∃ X, X = x.map bv := ⟨_, rfl⟩
  obtain ⟨W0, hW0, hB0, g0⟩ := box_new w 33 X
  have hiX : (Tryz.prog.info? 33).map (·.size) = some X.length := by rw [hX, List.length_map, hx]; exact info_id
  obtain ⟨n, hln⟩ : ∃ n, n = ps.length := ⟨_, rfl⟩
  have hn' : n ≤ 1000 := by omega
  rw [← hln, ← hX]
  have HX := hide hX
  have HW0 := hide hW0
  have HB0 := hide hB0
  have HI := hide hiX
  have HL := hide hln
  have HP := hide hP
  have HXL := hide hx
  clear hX hW0 hB0 hiX hln hP hx hn
  go_enter Tryz.func102, Tryz.ntmps102
  go_wp2_with (rw [← unhide HW0])
  go_loopw [8] (fun i wr => ∃ j : Nat, i = .int .i64 j ∧ j ≤ n ∧ Hid ((ps.take j).contains x = false) ∧ W0.grownBy wr none) (fun i _ => n - (intOf i).toNat)
  case atStart => exact ⟨0, rfl, Nat.zero_le _, rfl, by rw [unhide HW0]; exact gb_refl _ _⟩
  case round =>
    obtain ⟨j, rfl, hj, HC, hg⟩ := hrel
    by_cases hlt : j < n
    · have hlt' : j < ps.length := by have := unhide HL; omega
      obtain ⟨b, o, hao, hrow⟩ := (unhide HP).at j hlt'
      have hr := range_kept (range_kept (hrow j hlt') g0 (by simp)) hg (by simp)
      have hid := (unhide HP).ids _ (List.getElem_mem hlt')
      have hsn := contains_snoc ps x j hlt'
      obtain ⟨E, hEE⟩ : ∃ E, E = ps[j] := ⟨_, rfl⟩
      rw [← hEE] at hr hid hsn
      have hrX := range_kept (blk_all (unhide HB0)) hg (by simp)
      have hq : ∀ V : World, (binOp .eql 33 (.agg X.toArray) (.agg (E.map bv).toArray)).run Tryz.prog V = .ok (.bool (x == E)) V := fun V => by rw [unhide HX]; exact eql_ids V x E (unhide HXL) hid
      obtain ⟨EC, hEC⟩ : ∃ L, L = E.map bv := ⟨_, rfl⟩
      have hiE : (Tryz.prog.info? 33).map (·.size) = some EC.length := by rw [hEC, List.length_map, hid]; exact info_id
      rw [← hEC] at hr hq
      have h0 : wr.grownBy wr.drew none := gb_drew (gb_refl _ _)
      subst hao
      have HSN := hide hsn
      have HIE := hide hiE
      have hG := tn g0 hg
      have hG2 : w.grownBy wr.drew none := gb_drew hG
      clear hrow hEE hEC hid hlt' hsn hiE
      obtain ⟨B, hB⟩ : ∃ B, B = (x == E) := ⟨_, rfl⟩
      rw [← hB] at hq
      have HBX := hide hB
      clear hB
      go_upto_region 4 with fail
      cases B
      · skip
        refine wp_region_noPanic ?_
        refine wp_region_held_drew (S := fun V => wr.grownBy V none) (by kernel_rfl) h0 (fun _ => ?_)
        refine wpAnyH_take (i := 0) (oi := ⟨some 11, .load 33 (.tmp 3), _, _, _, _⟩) (v := .agg X.toArray) rfl (by kernel_rfl) (by kernel_rfl) (by kernel_rfl) (fun _ _ _ h => h) (yieldsIf_load_mid (by rfl) _ _ rfl _ _ rfl X _ (fun V hV => range_kept hrX hV (by simp)) Tryz.underlying33 rfl (unhide HI)) h0 ?_
        (try simp only [Act.put, pq1, pq2, pq3])
        refine wpAnyH_take (i := 1) (oi := ⟨some 12, .move (.tmp 0), _, _, _, _⟩) (v := .slice (some ⟨b, o, none⟩) n c) rfl (by kernel_rfl) (by kernel_rfl) (by kernel_rfl) (fun _ _ _ h => h) (Or.inl ⟨by rfl, fun V (hV : wr.grownBy V none) => by go_simp⟩) h0 ?_
        (try simp only [Act.put, pq1, pq2, pq3])
        refine wpAnyH_take (i := 2) (oi := ⟨some 13, .move (.tmp 5), _, _, _, _⟩) (v := .int .i64 (j : Int)) rfl (by kernel_rfl) (by kernel_rfl) (by kernel_rfl) (fun _ _ _ h => h) (Or.inl ⟨by rfl, fun V (hV : wr.grownBy V none) => by go_simp⟩) h0 ?_
        (try simp only [Act.put, pq1, pq2, pq3])
        refine wpAnyH_take (i := 3) (oi := ⟨some 14, .indexAddr 29 (.tmp 12) (.tmp 13), _, _, _, _⟩) (v := .pointer (some ⟨b, o + j * 32, none⟩)) rfl (by kernel_rfl) (by kernel_rfl) (by kernel_rfl) (fun _ _ _ h => h) (Or.inl ⟨by rfl, fun V (hV : wr.grownBy V none) => by go_simp⟩) h0 ?_
        (try simp only [Act.put, pq1, pq2, pq3])
        refine wpAnyH_take (i := 4) (oi := ⟨some 15, .load 33 (.tmp 14), _, _, _, _⟩) (v := .agg EC.toArray) rfl (by kernel_rfl) (by kernel_rfl) (by kernel_rfl) (fun _ _ _ h => h) (yieldsIf_load_mid (by rfl) _ _ rfl _ _ rfl EC _ (fun V hV => range_kept hr hV (by simp)) Tryz.underlying33 rfl (unhide HIE)) h0 ?_
        (try simp only [Act.put, pq1, pq2, pq3])
        refine wpAnyH_take (i := 5) (oi := ⟨some 16, .binOp .eql 33 (.tmp 11) (.tmp 15) 33, _, _, _, _⟩) (v := .bool false) rfl (by kernel_rfl) (by kernel_rfl) (by kernel_rfl) (fun _ _ _ h => h) (yieldsIf_same (by rfl) _ _ _ _ rfl _ _ _ rfl rfl guard_id hq) h0 ?_
        (try simp only [Act.put, pq1, pq2, pq3])
        refine wpAnyH_done (by kernel_rfl) ?_ _
        refine NoPanic.normal ?_
        go_wp2
        go_roundw
        case rel =>
          refine ⟨j + 1, by go_num, by omega, ?_, tn hg h0⟩
          exact hide (by rw [unhide HSN, unhide HC, ← unhide HBX]; rfl)
        case measure => simp [intOf]; omega
      · have hfin : ps.contains x = true := by
          have h1 : (ps.take (j + 1)).contains x = true := by rw [unhide HSN, ← unhide HBX]; simp
          simp only [List.contains_iff_mem] at h1 ⊢
          exact List.mem_of_mem_take h1
        have HF := hide hfin
        clear hfin
        refine wp_region_noPanic ?_
        refine wp_region_held_drew (S := fun V => wr.grownBy V none) (by kernel_rfl) h0 (fun _ => ?_)
        refine wpAnyH_take (i := 0) (oi := ⟨some 11, .load 33 (.tmp 3), _, _, _, _⟩) (v := .agg X.toArray) rfl (by kernel_rfl) (by kernel_rfl) (by kernel_rfl) (fun _ _ _ h => h) (yieldsIf_load_mid (by rfl) _ _ rfl _ _ rfl X _ (fun V hV => range_kept hrX hV (by simp)) Tryz.underlying33 rfl (unhide HI)) h0 ?_
        (try simp only [Act.put, pq1, pq2, pq3])
        refine wpAnyH_take (i := 1) (oi := ⟨some 12, .move (.tmp 0), _, _, _, _⟩) (v := .slice (some ⟨b, o, none⟩) n c) rfl (by kernel_rfl) (by kernel_rfl) (by kernel_rfl) (fun _ _ _ h => h) (Or.inl ⟨by rfl, fun V (hV : wr.grownBy V none) => by go_simp⟩) h0 ?_
        (try simp only [Act.put, pq1, pq2, pq3])
        refine wpAnyH_take (i := 2) (oi := ⟨some 13, .move (.tmp 5), _, _, _, _⟩) (v := .int .i64 (j : Int)) rfl (by kernel_rfl) (by kernel_rfl) (by kernel_rfl) (fun _ _ _ h => h) (Or.inl ⟨by rfl, fun V (hV : wr.grownBy V none) => by go_simp⟩) h0 ?_
        (try simp only [Act.put, pq1, pq2, pq3])
        refine wpAnyH_take (i := 3) (oi := ⟨some 14, .indexAddr 29 (.tmp 12) (.tmp 13), _, _, _, _⟩) (v := .pointer (some ⟨b, o + j * 32, none⟩)) rfl (by kernel_rfl) (by kernel_rfl) (by kernel_rfl) (fun _ _ _ h => h) (Or.inl ⟨by rfl, fun V (hV : wr.grownBy V none) => by go_simp⟩) h0 ?_
        (try simp only [Act.put, pq1, pq2, pq3])
        refine wpAnyH_take (i := 4) (oi := ⟨some 15, .load 33 (.tmp 14), _, _, _, _⟩) (v := .agg EC.toArray) rfl (by kernel_rfl) (by kernel_rfl) (by kernel_rfl) (fun _ _ _ h => h) (yieldsIf_load_mid (by rfl) _ _ rfl _ _ rfl EC _ (fun V hV => range_kept hr hV (by simp)) Tryz.underlying33 rfl (unhide HIE)) h0 ?_
        (try simp only [Act.put, pq1, pq2, pq3])
        refine wpAnyH_take (i := 5) (oi := ⟨some 16, .binOp .eql 33 (.tmp 11) (.tmp 15) 33, _, _, _, _⟩) (v := .bool true) rfl (by kernel_rfl) (by kernel_rfl) (by kernel_rfl) (fun _ _ _ h => h) (yieldsIf_same (by rfl) _ _ _ _ rfl _ _ _ rfl rfl guard_id hq) h0 ?_
        (try simp only [Act.put, pq1, pq2, pq3])
        refine wpAnyH_done (by kernel_rfl) ?_ _
        refine NoPanic.normal ?_
        go_wp2
        go_ret
        exact ⟨(j : Int), rfl, by rw [unhide HF]; simp, hG2⟩
    · have hjn : j = ps.length := by have := unhide HL; omega
      have hfin : ps.contains x = false := by have := unhide HC; rwa [hjn, List.take_of_length_le (Nat.le_refl _)] at this
      have HF := hide hfin
      have hG := tn g0 hg
      clear hfin hjn
      go_wp2
      go_ret
      exact ⟨-1, rfl, by rw [unhide HF]; simp, hG⟩

set_option maxRecDepth 100000 in
theorem scontains_any (w : World) (ao : Option Addr) (c : Nat) (ps : List (List UInt8)) (hP : Ids w ao c ps) (x : List UInt8) (hx : x.length = 32) (hn : ps.length ≤ 1000) :
    Calls Tryz.prog 71 #[.slice ao ps.length c, .agg (x.map bv).toArray] w fun e w' => e = .returned (.bool (ps.contains x)) ∧ w.grownBy w' none := by
  obtain ⟨X, hX⟩ : ∃ X, X = x.map bv := ⟨_, rfl⟩
  obtain ⟨W0, hW0, hB0, g0⟩ := box_new w 33 X
  have hiX : (Tryz.prog.info? 33).map (·.size) = some X.length := by rw [hX, List.length_map, hx]; exact info_id
  have hr := blk_all hB0
  have ci := sindex_any W0 ao c ps (hP.none g0) x hx hn
  rw [← hX] at ci ⊢
  obtain ⟨n, hln⟩ : ∃ n, n = ps.length := ⟨_, rfl⟩
  rw [← hln] at ci ⊢
  obtain ⟨B, hB⟩ : ∃ B, B = ps.contains x := ⟨_, rfl⟩
  rw [← hB] at ci ⊢
  have HW0 := hide hW0
  have HI := hide hiX
  clear hX hW0 hB0 hiX hln hP hx hn hB
  go_enter Tryz.func71, Tryz.ntmps71
  go_wp2_with (rw [← unhide HW0]; refine wpList_load_mid rfl 33 _ rfl w.heap.size 0 rfl X _ hr Tryz.underlying33 rfl (unhide HI) ?_; clear hr)
  refine ci.mono ?_
  rintro e w2 ⟨r, rfl, hd, g2⟩
  have HD := hide hd
  clear hd ci
  by_cases hr0 : 0 ≤ r
  · have hB : B = true := by rw [← unhide HD]; simpa using hr0
    subst hB
    clear HD
    go_wp2
    go_ret
    exact ⟨rfl, tn g0 g2⟩
  · have hB : B = false := by rw [← unhide HD]; simpa using hr0
    subst hB
    have hr2 : decide (0 ≤ r) = false := by simp [hr0]
    have hr3 : decide (r ≥ 0) = false := by simp [hr0]
    clear HD
    go_wp2
    go_ret
    exact ⟨rfl, tn g0 g2⟩

end Go.Proofs.YtlifmipnoeioaaaGreatDoor

/- What object's OfChange and OfMark answer. Of parents that lie in memory, and texts of at most 100000 bytes. -/
namespace Go.Proofs.YtlifmipnoeioaaaGreatDoor
open Go.RowKit

theorem onceAt_eq (ps : List (List UInt8)) (j : Nat) (hj : j < ps.length) : onceAt ps j = !((ps.take j).contains ps[j]) := by
  unfold onceAt
  rw [show ps.getD j [] = ps[j] by simp [hj]]

/-- The last steps: what was made is laid into the result. -/
theorem Made.laid {w w2 : World} {K : Int} {r : Int × List UInt8} {v2 : Value} {x : Int} {b : Nat} {cs : List Value} {t : TypeId} (hB : Blk w2 b t cs) (ht : t ≠ 5) (hb : w.heap.size ≤ b) (hx : x = r.1) (hN : NewB w w2 v2 r.2) (g : w.grownBy w2 none) :
    Made w (w2.setRow b #[.int .i64 (if r.1 = 0 then K else 0), v2]) K r (.returned (.tuple #[.agg #[.int .i64 (if r.1 = 0 then K else 0), v2], .int .i64 x])) := by
  subst hx
  refine ⟨v2, rfl, ?_, gb_row g _ (Or.inl hb)⟩
  obtain ⟨ao2, c2, e1, e2, e3⟩ := hN
  refine ⟨ao2, c2, e1, e2.kept (gb_row (gb_refl _ _) _ (Or.inr rfl)) ?_, fun ad e => ⟨(e3 ad e).1, (e3 ad e).2.kept (gb_row (gb_refl _ _) _ (Or.inr rfl)) ?_⟩⟩
  · intro x e ad e2 e4
    cases e
    exact hB.typ ht (e4 ▸ (e3 ad e2).2)
  · intro e4
    have e5 := Option.some.inj e4
    exact hB.typ ht (e5 ▸ (e3 ad e).2)

set_option maxRecDepth 100000 in
set_option maxHeartbeats 4000000 in
theorem ofChg_any (w : World) (c : ChgL) (po : Option Addr) (pc : Nat) (hP : Ids w po pc c.pars) (ht : c.tree.length = 32) (ha : c.author.length ≤ 1000000) (hx : c.text.length ≤ 1000000) (hn4 : c.pars.length ≤ 1000) :
    Calls Tryz.prog 43 #[.agg (chC c po pc).toArray] w fun e w' => Made w w' 3 (ofChg c) e := by
  have hat := (chC_at c po pc ht).1
  have hCl := chC_len c po pc ht
  obtain ⟨C, hC⟩ : ∃ C, C = chC c po pc := ⟨_, rfl⟩
  rw [← hC] at hat hCl ⊢
  obtain ⟨W0, hW0, hB0, g0⟩ := box_new w 72 C
  have hW1 : ∃ W1, W1 = W0.alloc (.cells #[.int .i64 0, .slice none 0 0] 42) ∧ Blk W1 (w.heap.size + 1) 42 [.int .i64 0, .slice none 0 0] ∧ W0.grownBy W1 none := by
    refine ⟨_, rfl, ?_, gb_alloc (gb_refl _ _) _⟩
    have hsz : W0.heap.size = w.heap.size + 1 := by rw [hW0]; simp
    rw [← hsz]
    exact Blk.new W0 _ _
  obtain ⟨W1, hW1, hB1, g1⟩ := hW1
  have hBC := hB0.kept g1 (by simp)
  have G1 := tn g0 g1
  have hcp : W1.cell? ⟨w.heap.size, 32, none⟩ = some (.slice po c.pars.length pc) := by rw [hBC.cell 32, hat]
  have hW : W1 = (w.alloc (.cells C.toArray 72)).alloc (.cells #[.int .i64 0, .slice none 0 0] 42) := by rw [hW1, hW0]
  have HW := hide hW
  clear hW1 hW0 g1 g0 hB0 hat hW
  by_cases hn : 4 < c.pars.length
  · have hr : ofChg c = (3, []) := by simp [ofChg, hn]
    obtain ⟨n, hln⟩ : ∃ n, n = c.pars.length := ⟨_, rfl⟩
    have hn2 : (4 : Int) < (n : Int) := by omega
    rw [← hln] at hcp
    have HR := hide hr
    have hf0 := hB1.fz 0
    have hf1 := hB1.fz 1
    have hd0 := hB1.cell 0
    have hd1 := hB1.cell 1
    simp only [List.getElem?_cons_zero, List.getElem?_cons_succ] at hd0 hd1
    clear hln hn hP ha hx ht hC hn4 hr hBC hCl
    go_enter Tryz.func43, Tryz.ntmps43
    go_wp2_with (rw [← unhide HW])
    refine bodyPost_ret (results_row_tmp rfl _ _ _ _ _ _ _ rfl ((hB1.set 0 (.int .i64 0)).set 1 (.slice none 0 0)) Tryz.underlying42 rfl info_obj) rfl ?_
    exact Made.bad 3 (unhide HR) (by decide) (gb_setCell (gb_setCell G1 _ _ (Or.inl (Nat.le_succ _))) _ _ (Or.inl (Nat.le_succ _)))
  · obtain ⟨Z, hZ, hzv⟩ := zero_id
    obtain ⟨ps, hps⟩ : ∃ ps, ps = c.pars := ⟨_, rfl⟩
    have hnn : ¬ 4 < c.pars.length := hn
    rw [← hps] at hcp hP hn4 hn
    obtain ⟨n, hln⟩ : ∃ n, n = ps.length := ⟨_, rfl⟩
    have hn2 : ¬ (4 : Int) < (n : Int) := by omega
    have hn3 : n ≤ 4 := by omega
    rw [← hln] at hcp
    have HE := hide (hP.none G1)
    have HL := hide hln
    have HZ := hide hZ
    have HN := hide hnn
    have HPS := hide hps
    have HB1 := hide hB1
    have HBC := hide hBC
    have HG1 := hide G1
    have HC := hide hC
    have HCL := hide hCl
    have HT := hide ht
    have HA := hide ha
    have HX := hide hx
    have HP := hide hP
    clear hP hln hn hZ hnn hps hB1 hBC G1 hC hCl ht ha hx hn4
    go_enter Tryz.func43, Tryz.ntmps43
    go_wp2_with (rw [← unhide HW])
    go_loopw [14] (fun i wr => ∃ j : Nat, i = .int .i64 j ∧ j ≤ n ∧ Hid (onceTo ps j = true) ∧ W1.grownBy wr none) (fun i _ => n - (intOf i).toNat)
    case atStart => exact ⟨0, rfl, Nat.zero_le _, rfl, by rw [unhide HW]; exact gb_refl _ _⟩
    case round =>
      obtain ⟨j, rfl, hj, HG, hg⟩ := hrel
      by_cases hlt : j < n
      · have hlt' : j < ps.length := by have := unhide HL; omega
        obtain ⟨b, o, hao, hrow⟩ := (unhide HE).at j hlt'
        have hr := range_kept (hrow j hlt') hg (by simp)
        have hid := (unhide HE).ids _ (List.getElem_mem hlt')
        have hgd := onceAt_eq ps j hlt'
        obtain ⟨E, hEE⟩ : ∃ E, E = ps[j] := ⟨_, rfl⟩
        rw [← hEE] at hgd hr hid
        obtain ⟨EC, hEC⟩ : ∃ L, L = E.map bv := ⟨_, rfl⟩
        have hEl : EC.length = 32 := by rw [hEC, List.length_map, hid]
        have hEo : EC.toArray.all (·.oneCell') = true := by rw [hEC]; exact all_oneCell_toArray (bv_one _)
        obtain ⟨W, hW, hB, gW⟩ := row_new wr 33 Z EC
        rw [← hEC] at hr
        have hG := tn hg gW
        have hcW := hG.cell hcp (by simp)
        have hsl : ∀ V : World, (Instr.slice 29 (.slice po n pc) none (some (.int .i64 (j : Int))) none).run Tryz.prog V = .ok (.slice po j pc) V := fun V => slice_to_id V po n pc j (by have := (unhide HE).fits; have := unhide HL; omega)
        have hrX := blk_all hB
        have cc : ∀ V, W.grownBy V none → Calls Tryz.prog 71 #[.slice po j pc, .agg EC.toArray] V fun e w' => e = .returned (.bool ((ps.take j).contains E)) ∧ V.grownBy w' none := fun V gV => by
          have h1 := scontains_any V po pc (ps.take j) ((((unhide HE).none hG).none gV).take j (by omega)) E hid (by rw [List.length_take]; omega)
          rw [← hEC, List.length_take, Nat.min_eq_left (by omega)] at h1
          exact h1
        have HW9 := hide hW
        have HEO := hide hEo
        have HHG := hide hG
        have hiE : (Tryz.prog.info? 33).map (·.size) = some EC.length := by rw [hEl]; exact info_id
        have HIE := hide hiE
        have hZE : Z.size = EC.toArray.size := by rw [unhide HZ]; simp [hEl]
        have HZE := hide hZE
        have h0 : W.grownBy W.drew none := gb_drew (gb_refl _ _)
        obtain ⟨B, hBB⟩ : ∃ B, B = (ps.take j).contains E := ⟨_, rfl⟩
        rw [← hBB] at cc hgd
        have HGD := hide hgd
        clear hW hEo hG hB hEC hEl hid hiE hZE hgd gW hg hrow hEE hlt' hBB
        subst hao
        go_upto_region 6 with (first
          | (refine wpList_load_mid rfl 33 _ rfl b (o + j * 32) rfl EC _ hr Tryz.underlying33 rfl (unhide HIE) ?_; clear hr)
          | (refine wpList_store_row rfl 33 _ _ rfl wr.heap.size EC.toArray rfl rfl _ _ (heap_alloc_new _ _) (by simpa using unhide HIE) (unhide HZE) (unhide HEO) ?_; rw [← unhide HW9]))
        cases B
        · have hgt : onceTo ps (j + 1) = true := by rw [onceTo_succ, unhide HG, unhide HGD]; rfl
          have HGT := hide hgt
          clear hgt HGD HG
          refine wp_region_noPanic ?_
          refine wp_region_held_drew (S := fun V => W.grownBy V none) (by kernel_rfl) h0 (fun _ => ?_)
          refine wpAnyH_take (i := 0) (oi := ⟨some 19, .fieldAddr 72 (.tmp 1) 1, _, _, _, _⟩) (v := .pointer (some ⟨w.heap.size, 32, none⟩)) rfl (by kernel_rfl) (by kernel_rfl) (by kernel_rfl) (fun _ _ _ h => h) (Or.inl ⟨by rfl, fun V (hV : W.grownBy V none) => by go_simp⟩) h0 ?_
          (try simp only [Act.put, pq1, pq2, pq3])
          refine wpAnyH_take (i := 1) (oi := ⟨some 20, .load 29 (.tmp 19), _, _, _, _⟩) (v := .slice (some ⟨b, o, none⟩) n pc) rfl (by kernel_rfl) (by kernel_rfl) (by kernel_rfl) (fun _ _ _ h => h) (Or.inl ⟨by rfl, fun V (hV : W.grownBy V none) => by (have q9 := hV.cell hcW (by simp); go_simp)⟩) h0 ?_
          (try simp only [Act.put, pq1, pq2, pq3])
          refine wpAnyH_take (i := 2) (oi := ⟨some 21, .move (.tmp 4), _, _, _, _⟩) (v := .int .i64 (j : Int)) rfl (by kernel_rfl) (by kernel_rfl) (by kernel_rfl) (fun _ _ _ h => h) (Or.inl ⟨by rfl, fun V (hV : W.grownBy V none) => by go_simp⟩) h0 ?_
          (try simp only [Act.put, pq1, pq2, pq3])
          refine wpAnyH_take (i := 3) (oi := ⟨some 22, .slice 29 (.tmp 20) none (some (.tmp 21)) none, _, _, _, _⟩) (v := .slice (some ⟨b, o, none⟩) j pc) rfl (by kernel_rfl) (by kernel_rfl) (by kernel_rfl) (fun _ _ _ h => h) (Or.inl ⟨by rfl, fun V (hV : W.grownBy V none) => by (have q9 := hsl V; go_simp)⟩) h0 ?_
          (try simp only [Act.put, pq1, pq2, pq3])
          refine wpAnyH_take (i := 4) (oi := ⟨some 23, .load 33 (.tmp 5), _, _, _, _⟩) (v := .agg EC.toArray) rfl (by kernel_rfl) (by kernel_rfl) (by kernel_rfl) (fun _ _ _ h => h) (yieldsIf_load_mid (by rfl) _ _ rfl _ _ rfl EC _ (fun V hV => range_kept hrX hV (by simp)) Tryz.underlying33 rfl (unhide HIE)) h0 ?_
          (try simp only [Act.put, pq1, pq2, pq3])
          refine wpAnyH_ready (rs := [5]) (by kernel_rfl) (by simp) ?_
          refine AllReadyH.cons (o := ⟨some 24, .call { callee := .value (.func 71), args := #[(.tmp 22), (.tmp 23)], argTypes := #[29, 33] }, _, _, _, _⟩) rfl (fun K9 hK9 => ?_) AllReadyH.nil
          go_simp
          go_at_call 71
          refine (cc _ h0).mono ?_
          rintro e w2 ⟨rfl, g2a⟩
          have g2 := tn h0 g2a
          clear g2a
          go_wp2_with fail
          refine hK9.out _ _ g2 (fun _ => ?_)
          clear hK9 K9
          (try simp only [Act.put, pq1, pq2, pq3])
          refine wpAnyH_done (by kernel_rfl) ?_ _
          refine NoPanic.normal ?_
          go_wp2
          go_roundw
          case rel => exact ⟨j + 1, by go_num, by omega, HGT, tn (unhide HHG) g2⟩
          case measure => simp [intOf]; omega
        · have hgf : onceAt ps j = false := by rw [unhide HGD]; rfl
          have hres : ofChg c = (2, []) := by
            have h1 : onceTo ps ps.length = false := all_not (by have := unhide HL; omega) hgf
            rw [unhide HPS] at h1
            simp [ofChg, unhide HN, h1]
          have HRS := hide hres
          clear hgf hres HGD HG
          refine wp_region_noPanic ?_
          refine wp_region_held_drew (S := fun V => W.grownBy V none) (by kernel_rfl) h0 (fun _ => ?_)
          refine wpAnyH_take (i := 0) (oi := ⟨some 19, .fieldAddr 72 (.tmp 1) 1, _, _, _, _⟩) (v := .pointer (some ⟨w.heap.size, 32, none⟩)) rfl (by kernel_rfl) (by kernel_rfl) (by kernel_rfl) (fun _ _ _ h => h) (Or.inl ⟨by rfl, fun V (hV : W.grownBy V none) => by go_simp⟩) h0 ?_
          (try simp only [Act.put, pq1, pq2, pq3])
          refine wpAnyH_take (i := 1) (oi := ⟨some 20, .load 29 (.tmp 19), _, _, _, _⟩) (v := .slice (some ⟨b, o, none⟩) n pc) rfl (by kernel_rfl) (by kernel_rfl) (by kernel_rfl) (fun _ _ _ h => h) (Or.inl ⟨by rfl, fun V (hV : W.grownBy V none) => by (have q9 := hV.cell hcW (by simp); go_simp)⟩) h0 ?_
          (try simp only [Act.put, pq1, pq2, pq3])
          refine wpAnyH_take (i := 2) (oi := ⟨some 21, .move (.tmp 4), _, _, _, _⟩) (v := .int .i64 (j : Int)) rfl (by kernel_rfl) (by kernel_rfl) (by kernel_rfl) (fun _ _ _ h => h) (Or.inl ⟨by rfl, fun V (hV : W.grownBy V none) => by go_simp⟩) h0 ?_
          (try simp only [Act.put, pq1, pq2, pq3])
          refine wpAnyH_take (i := 3) (oi := ⟨some 22, .slice 29 (.tmp 20) none (some (.tmp 21)) none, _, _, _, _⟩) (v := .slice (some ⟨b, o, none⟩) j pc) rfl (by kernel_rfl) (by kernel_rfl) (by kernel_rfl) (fun _ _ _ h => h) (Or.inl ⟨by rfl, fun V (hV : W.grownBy V none) => by (have q9 := hsl V; go_simp)⟩) h0 ?_
          (try simp only [Act.put, pq1, pq2, pq3])
          refine wpAnyH_take (i := 4) (oi := ⟨some 23, .load 33 (.tmp 5), _, _, _, _⟩) (v := .agg EC.toArray) rfl (by kernel_rfl) (by kernel_rfl) (by kernel_rfl) (fun _ _ _ h => h) (yieldsIf_load_mid (by rfl) _ _ rfl _ _ rfl EC _ (fun V hV => range_kept hrX hV (by simp)) Tryz.underlying33 rfl (unhide HIE)) h0 ?_
          (try simp only [Act.put, pq1, pq2, pq3])
          refine wpAnyH_ready (rs := [5]) (by kernel_rfl) (by simp) ?_
          refine AllReadyH.cons (o := ⟨some 24, .call { callee := .value (.func 71), args := #[(.tmp 22), (.tmp 23)], argTypes := #[29, 33] }, _, _, _, _⟩) rfl (fun K9 hK9 => ?_) AllReadyH.nil
          go_simp
          go_at_call 71
          refine (cc _ h0).mono ?_
          rintro e w2 ⟨rfl, g2a⟩
          have g2 := tn h0 g2a
          clear g2a
          go_wp2_with fail
          refine hK9.out _ _ g2 (fun _ => ?_)
          clear hK9 K9
          (try simp only [Act.put, pq1, pq2, pq3])
          refine wpAnyH_done (by kernel_rfl) ?_ _
          refine NoPanic.normal ?_
          have gF := tn (unhide HHG) g2
          have hBr := (unhide HB1).kept gF (by simp)
          have hf0 := hBr.fz 0
          have hf1 := hBr.fz 1
          have hd0 := hBr.cell 0
          have hd1 := hBr.cell 1
          simp only [List.getElem?_cons_zero, List.getElem?_cons_succ] at hd0 hd1
          go_wp2
          refine bodyPost_ret (results_row_tmp rfl _ _ _ _ _ _ _ rfl ((hBr.set 0 (.int .i64 0)).set 1 (.slice none 0 0)) Tryz.underlying42 rfl info_obj) rfl ?_
          exact Made.bad 3 (unhide HRS) (by decide) (gb_setCell (gb_setCell (tn (unhide HG1) gF) _ _ (Or.inl (Nat.le_succ _))) _ _ (Or.inl (Nat.le_succ _)))
      · have hjn : j = ps.length := by have := unhide HL; omega
        have hres : ofChg c = fitB (chgB c) := by
          have h1 : onceTo ps ps.length = true := by rw [← hjn]; exact unhide HG
          rw [unhide HPS] at h1
          simp [ofChg, unhide HN, h1]
        have hrC := range_kept (blk_all (unhide HBC)) hg (by simp)
        have G := tn (unhide HG1) hg
        have hP2 : Ids wr po pc c.pars := by rw [← unhide HPS]; exact (unhide HP).none G
        have cl := layChg_any wr c po pc hP2 (unhide HT) (by have := unhide HN; omega) (unhide HA) (unhide HX)
        rw [← unhide HC] at cl
        have hiC : (Tryz.prog.info? 72).map (·.size) = some C.length := by rw [unhide HCL]; exact info_chg
        have HIC := hide hiC
        have HRS := hide hres
        clear hjn hres HG hP2 hiC
        go_wp2_with (refine wpList_load_mid rfl 72 _ rfl w.heap.size 0 rfl C _ hrC Tryz.underlying72 rfl (unhide HIC) ?_; clear hrC)
        refine cl.mono ?_
        rintro e w1 ⟨v1, rfl, hN1, g1⟩
        have hBr := ((unhide HB1).kept hg (by simp)).kept g1 (by simp)
        have cm := made_fit w w1 3 v1 (chgB c) (NewB.later hN1 G.size) (tn G g1)
        obtain ⟨r, hr⟩ : ∃ r, r = fitB (chgB c) := ⟨_, rfl⟩
        rw [← hr] at cm
        have HRR := hide hr
        clear cl hN1 g1 hr
        go_wp2_with fail
        refine cm.mono ?_
        rintro e w2 ⟨v2, x, rfl, hx, hN2, h1c, g2, gm⟩
        have hB2 := hBr.kept gm (by simp)
        have hrr : ofChg c = r := by rw [unhide HRS, unhide HRR]
        have hfin := Made.laid (K := 3) hB2 (by decide) (Nat.le_succ _) hx hN2 g2
        obtain ⟨K, hK⟩ : ∃ K : Int, K = (if r.1 = 0 then 3 else 0) := ⟨_, rfl⟩
        rw [← hK] at hfin ⊢
        have HF := hide hfin
        have HRX := hide hrr
        clear cm hK hx hBr hfin hrr
        go_wp2_with (refine wpList_store_row rfl 42 _ _ rfl (w.heap.size + 1) #[.int .i64 K, v2] rfl rfl _ _ hB2 info_obj rfl (obj_one h1c) ?_)
        refine bodyPost_ret (results_row_tmp rfl _ _ _ _ _ _ _ rfl (hB2.row [.int .i64 K, v2]) Tryz.underlying42 rfl info_obj) rfl ?_
        rw [unhide HRX]
        exact unhide HF

end Go.Proofs.YtlifmipnoeioaaaGreatDoor

/- What object's OfMark answers. Of names of at most 100000 bytes, and texts of at most 1000000. -/
namespace Go.Proofs.YtlifmipnoeioaaaGreatDoor
open Go.RowKit

set_option maxRecDepth 100000 in
set_option maxHeartbeats 4000000 in
theorem ofMrk_any (w : World) (m : MrkL) (ht : m.target.length = 32) (ha : m.name.length ≤ 100000) (hx : m.text.length ≤ 1000000) :
    Calls Tryz.prog 65 #[.agg (mkC m).toArray] w fun e w' => Made w w' 4 (ofMrk m) e := by
  obtain ⟨q1, q2⟩ := mkC_at m ht
  obtain ⟨C, hC⟩ : ∃ C, C = mkC m := ⟨_, rfl⟩
  rw [← hC] at q1 q2 ⊢
  obtain ⟨W0, hW0, hB0, g0⟩ := box_new w 123 C
  have hW1 : ∃ W1, W1 = W0.alloc (.cells #[.int .i64 0, .slice none 0 0] 42) ∧ Blk W1 (w.heap.size + 1) 42 [.int .i64 0, .slice none 0 0] ∧ W0.grownBy W1 none := by
    refine ⟨_, rfl, ?_, gb_alloc (gb_refl _ _) _⟩
    have hsz : W0.heap.size = w.heap.size + 1 := by rw [hW0]; simp
    rw [← hsz]
    exact Blk.new W0 _ _
  obtain ⟨W1, hW1, hB1, g1⟩ := hW1
  have hBC := hB0.kept g1 (by simp)
  have G1 := tn g0 g1
  have c1 : W1.cell? ⟨w.heap.size, 32, none⟩ = some (.string (str m.name)) := by rw [hBC.cell 32, q1]
  have c2 : W1.cell? ⟨w.heap.size, 33, none⟩ = some (.string (str m.text)) := by rw [hBC.cell 33, q2]
  have hW : W1 = (w.alloc (.cells C.toArray 123)).alloc (.cells #[.int .i64 0, .slice none 0 0] 42) := by rw [hW1, hW0]
  have hrT : W1.rangeAt w.heap.size 0 (m.target.map bv) := by
    have := blk_all hBC
    rw [hC] at this
    exact mk_target this
  have ck := kind_any W1 m.name ha
  have hiT : (Tryz.prog.info? 33).map (·.size) = some (m.target.map bv).length := by rw [List.length_map, ht]; exact info_id
  have hbt := built_chg3 m.target (str m.name) (str m.text) ht
  have cl : ∀ V, Calls Tryz.prog 73 #[.int .i64 4, .agg (m.target.map bv ++ ([.slice none 0 0, .int .u64 0, .string (str m.name), .string (str m.text)] : List Value)).toArray] V fun e w' => ∃ v, e = .returned v ∧ NewB V w' v (mrkB m) ∧ V.grownBy w' none := fun V => layMrk_any V m ht (by omega) hx
  obtain ⟨T, hT⟩ : ∃ T, T = m.target.map bv := ⟨_, rfl⟩
  obtain ⟨N, hN⟩ : ∃ N, N = str m.name := ⟨_, rfl⟩
  obtain ⟨X, hX⟩ : ∃ N, N = str m.text := ⟨_, rfl⟩
  rw [← hN] at c1 ck hbt cl
  rw [← hX] at c2 hbt cl
  rw [← hT] at hrT hiT hbt cl
  obtain ⟨CC, hCC⟩ : ∃ CC, CC = (T ++ ([.slice none 0 0, .int .u64 0, .string N, .string X] : List Value)).toArray := ⟨_, rfl⟩
  rw [← hCC] at hbt cl
  obtain ⟨k, hk⟩ : ∃ k, k = kindL m.name := ⟨_, rfl⟩
  rw [← hk] at ck
  have HW := hide hW
  have HI := hide hiT
  have HBT := hide hbt
  have HG1 := hide G1
  have HCL := hide cl
  clear hW1 hW0 g1 g0 hB0 q1 q2 hW hC hT hN hX hCC hBC hiT hbt G1 ht ha hx cl
  by_cases h2 : k = 2
  · have hres : ofMrk m = fitB (mrkB m) := by simp [ofMrk, ← hk, h2]
    subst h2
    have HRS := hide hres
    have HB1 := hide hB1
    clear hres hk hB1
    go_enter Tryz.func65, Tryz.ntmps65
    go_wp2_with (rw [← unhide HW])
    refine ck.mono ?_
    rintro e w2 ⟨rfl, g2⟩
    have d1 := g2.cell c1 (by simp)
    have d2 := g2.cell c2 (by simp)
    have hr2 := range_kept hrT g2 (by simp)
    have cl := unhide HCL w2
    clear ck c1 c2 hrT HCL
    go_wp2_with (first
      | (refine wpList_load_mid rfl 33 _ rfl w.heap.size 0 rfl T _ hr2 Tryz.underlying33 rfl (unhide HI) ?_; clear hr2)
      | (refine wpList_built rfl 72 _ rfl CC ?hbs ?_))
    case hbs => simpa using unhide HBT
    refine cl.mono ?_
    rintro e w3 ⟨v3, rfl, hN3, g3⟩
    have G := tn (unhide HG1) g2
    have hBr := ((unhide HB1).kept g2 (by simp)).kept g3 (by simp)
    have cm := made_fit w w3 4 v3 (mrkB m) (NewB.later hN3 G.size) (tn G g3)
    obtain ⟨r, hr⟩ : ∃ r, r = fitB (mrkB m) := ⟨_, rfl⟩
    rw [← hr] at cm
    have HRR := hide hr
    clear cl hN3 g3 hr d1 d2
    go_wp2_with fail
    refine cm.mono ?_
    rintro e w4 ⟨v4, x, rfl, hx, hN4, h1c, g4, gm⟩
    have hB2 := hBr.kept gm (by simp)
    have hrr : ofMrk m = r := by rw [unhide HRS, unhide HRR]
    have hfin := Made.laid (K := 4) hB2 (by decide) (Nat.le_succ _) hx hN4 g4
    obtain ⟨K, hK⟩ : ∃ K : Int, K = (if r.1 = 0 then 4 else 0) := ⟨_, rfl⟩
    rw [← hK] at hfin ⊢
    have HF := hide hfin
    have HRX := hide hrr
    clear cm hK hx hBr hfin hrr
    go_wp2_with (refine wpList_store_row rfl 42 _ _ rfl (w.heap.size + 1) #[.int .i64 K, v4] rfl rfl _ _ hB2 info_obj rfl (obj_one h1c) ?_)
    refine bodyPost_ret (results_row_tmp rfl _ _ _ _ _ _ _ rfl (hB2.row [.int .i64 K, v4]) Tryz.underlying42 rfl info_obj) rfl ?_
    rw [unhide HRX]
    exact unhide HF
  · have hres : ofMrk m = (2, []) := by simp [ofMrk, ← hk, h2]
    have hk2 : (k == 2) = false := by simpa using h2
    have HRS := hide hres
    clear hres hk
    go_enter Tryz.func65, Tryz.ntmps65
    go_wp2_with (rw [← unhide HW])
    refine ck.mono ?_
    rintro e w2 ⟨rfl, g2⟩
    have hBr := hB1.kept g2 (by simp)
    have hf0 := hBr.fz 0
    have hf1 := hBr.fz 1
    have hd0 := hBr.cell 0
    have hd1 := hBr.cell 1
    simp only [List.getElem?_cons_zero, List.getElem?_cons_succ] at hd0 hd1
    clear ck c1 c2 hrT
    go_wp2
    refine bodyPost_ret (results_row_tmp rfl _ _ _ _ _ _ _ rfl ((hBr.set 0 (.int .i64 0)).set 1 (.slice none 0 0)) Tryz.underlying42 rfl info_obj) rfl ?_
    exact Made.bad 4 (unhide HRS) (by decide) (gb_setCell (gb_setCell (tn (unhide HG1) g2) _ _ (Or.inl (Nat.le_succ _))) _ _ (Or.inl (Nat.le_succ _)))

end Go.Proofs.YtlifmipnoeioaaaGreatDoor

/- What TreeOf's closure does: it reads the entries, keeps them, and makes the tree again. Of data of at most 1000000 bytes. -/
namespace Go.Proofs.YtlifmipnoeioaaaGreatDoor
open Go.RowKit

/-- What such a closure answers: by what is made again. -/
def Again (u w' : World) (K : Int) (r : Int × List UInt8) (R : World → Prop) (e : Ending) : Prop :=
  ∃ v, e = .returned (.tuple #[.agg #[.int .i64 (if r.1 = 0 then K else 0), v], .int .i64 r.1]) ∧ (∃ a' c', v = .slice a' r.2.length c' ∧ Bts w' a' c' r.2) ∧ R w' ∧ u.grownBy w' none

/-- The entries that were read lie there. -/
def KeptT (u : World) (vb : Nat) (es : List EntL) (w : World) : Prop := ∃ v, Blk w vb 118 [v] ∧ w.ownsRow u.heap.size 120 34 v es.length (es.flatMap enC)

theorem KeptT.none {u : World} {vb : Nat} {es : List EntL} {a b : World} (h : KeptT u vb es a) (g : a.grownBy b none) : KeptT u vb es b := by
  obtain ⟨v, h1, h2⟩ := h
  exact ⟨v, h1.kept g (by simp), own_ent h2 g (fun x e => by cases e)⟩

theorem readT_names (d : List UInt8) : ∀ e ∈ readT d, e.name.length ≤ d.length := by
  intro e he
  exact Nat.le_trans (runE_names _ _ e he) (numS_len _ _ _)
theorem readT_ids (d : List UInt8) : ∀ e ∈ readT d, e.id.length = 32 := fun e he => runE_ids _ _ e he

set_option maxRecDepth 100000 in
set_option maxHeartbeats 2000000 in
theorem cloT_any (u w : World) (rb vb : Nat) (d : List UInt8) (hl : d.length ≤ 1000000) (old : Value) (gu : u.grownBy w none) (hv : u.heap.size ≤ vb) (hr : u.heap.size ≤ rb) (hne : rb ≠ vb) (hR : Rd w rb d 0) (hB : Blk w vb 118 [old]) (bk : Nat) (bc : List Value) (hbk : Blk w bk 42 bc) (hkr : bk ≠ rb) (hkv : bk ≠ vb) :
    Calls Tryz.prog 143 #[.pointer (some ⟨rb, 0, none⟩), .pointer (some ⟨vb, 0, none⟩)] w fun e w' => Again u w' 2 (ofTree (readT d)) (fun V => KeptT u vb (readT d) V ∧ Blk V bk 42 bc) e := by
  have hvl := hB.lt
  have hbl := hbk.lt
  have hrl := hR.lt
  obtain ⟨W1, hW1, hB1, g1⟩ : ∃ W1, W1 = w.alloc (.cells #[.int .i64 0, .slice none 0 0] 42) ∧ Blk W1 w.heap.size 42 [.int .i64 0, .slice none 0 0] ∧ w.grownBy W1 none := box_new w _ _
  have cr := readEnts_any W1 rb d hl (hR.kept g1 (Or.inl rfl))
  have hnm := readT_names d
  have hid := readT_ids d
  obtain ⟨es, hes⟩ : ∃ es, es = readT d := ⟨_, rfl⟩
  rw [← hes] at cr hnm hid ⊢
  have HW1 := hide hW1
  have HNM := hide hnm
  have HID := hide hid
  have HBV := hide (hB.kept g1 (by simp))
  have HB1 := hide hB1
  have HK := hide (hbk.kept g1 (by simp))
  have HG1 := hide (tn gu g1)
  have hus : u.heap.size ≤ w.heap.size := gu.size
  clear hW1 hnm hid hB g1 hR hes hB1 gu hbk
  go_enter Tryz.func143, Tryz.ntmps143
  go_wp2_with (rw [← unhide HW1])
  refine cr.mono ?_
  rintro e w2 ⟨v2, rfl, ho2, g2⟩
  have hs1 : w.heap.size < W1.heap.size := (unhide HB1).lt
  obtain ⟨ao, c, hv2⟩ := own_sl ho2
  subst hv2
  have hBv := (unhide HBV).kept g2 (by simp; omega)
  have hBo := (unhide HB1).kept g2 (by simp; omega)
  have hK2 := (unhide HK).kept g2 (by simpa using hkr)
  have G2 : u.grownBy w2 none := gb_trans (unhide HG1) g2 (fun x e => by cases e; exact Or.inl hr)
  have ho2' := own_low ho2 (unhide HG1).size
  have hc2 := hBv.cell 0
  simp only [List.getElem?_cons_zero] at hc2
  have hf2 := hBv.fz 0
  obtain ⟨w3, hw3⟩ : ∃ V, V = w2.setCell ⟨vb, 0, none⟩ (.slice ao es.length c) := ⟨_, rfl⟩
  have hB3 : Blk w3 vb 118 [.slice ao es.length c] := by rw [hw3]; exact hBv.set 0 _
  have hA3 : Blk w3 w.heap.size 42 [.int .i64 0, .slice none 0 0] := by rw [hw3]; exact hBo.other _ _ (by simp; omega)
  have hO3 : w3.ownsRow u.heap.size 120 34 (.slice ao es.length c) es.length (es.flatMap enC) := by rw [hw3]; exact own_set_id ho2' hBv (by decide) 0 _
  have G3 : u.grownBy w3 none := by rw [hw3]; exact gb_setCell G2 _ _ (Or.inl hv)
  have hc3 := hB3.cell 0
  simp only [List.getElem?_cons_zero] at hc3
  have hE3 : Ens w3 ao c es := by
    obtain ⟨ao2, c2, e1, e2⟩ := Ens.own hO3 (unhide HID)
    injection e1 with e3 e4 e5
    subst e3 e5
    exact e2
  have co := ofTree_any w3 ao c es hE3 (fun e he => Nat.le_trans (unhide HNM e he) (by omega))
  obtain ⟨r, hrr⟩ : ∃ r, r = ofTree es := ⟨_, rfl⟩
  rw [← hrr] at co
  have HR := hide hrr
  have HW3 := hide hw3
  have HB3 := hide hB3
  have HA3 := hide hA3
  have HO3 := hide hO3
  have HK3 := hide (show Blk w3 bk 42 bc by rw [hw3]; exact hK2.other _ _ (by simpa using hkv.symm))
  have HG3 := hide G3
  clear cr ho2 ho2' hBv hBo G2 hw3 hB3 hA3 hO3 G3 hE3 g2 hrr HG1 HB1 HBV hK2
  go_wp2_with (rw [← unhide HW3])
  refine co.mono ?_
  rintro e w4 ⟨v4, rfl, hN4, g4⟩
  have hA4 := (unhide HA3).kept g4 (by simp)
  have hK4 := (unhide HK3).kept g4 (by simp)
  have hB4 := (unhide HB3).kept g4 (by simp)
  have hO4 := own_ent (unhide HO3) g4 (fun x e => by cases e)
  have G4 := tn (unhide HG3) g4
  have h1c : v4.oneCell' = true := by obtain ⟨_, _, rfl, _⟩ := hN4; rfl
  obtain ⟨x, hx⟩ : ∃ x : Int, x = r.1 := ⟨_, rfl⟩
  rw [← hx]
  obtain ⟨K, hK⟩ : ∃ K : Int, K = (if x = 0 then 2 else 0) := ⟨_, rfl⟩
  rw [← hK]
  have HKK := hide hK
  have HX := hide hx
  clear co hK hx hc2 hf2 hc3
  go_wp2_with (refine wpList_store_row rfl 42 _ _ rfl w.heap.size #[.int .i64 K, v4] rfl rfl _ _ hA4 info_obj rfl (obj_one h1c) ?_)
  refine bodyPost_ret (results_row_tmp rfl _ _ _ _ _ _ _ rfl (hA4.row [.int .i64 K, v4]) Tryz.underlying42 rfl info_obj) rfl ?_
  have gF := gb_row (gb_refl w4 (some w.heap.size)) #[.int .i64 K, v4] (Or.inr rfl)
  rw [← unhide HR]
  refine ⟨v4, ?_, ?_, ⟨⟨_, hB4.row_other _ _ (by omega), own_row_id hO4 hA4 (by decide) _⟩, hK4.row_other _ _ (by omega)⟩, gb_row G4 _ (Or.inl hus)⟩
  · rw [← unhide HX, ← unhide HKK]
    rfl
  · obtain ⟨a', c', e1, e2, e3⟩ := hN4
    refine ⟨a', c', e1, e2.kept gF ?_⟩
    intro x e ad e5 e4
    cases e
    exact hA4.typ (by decide) (e4 ▸ (e3 ad e5).2)

end Go.Proofs.YtlifmipnoeioaaaGreatDoor
