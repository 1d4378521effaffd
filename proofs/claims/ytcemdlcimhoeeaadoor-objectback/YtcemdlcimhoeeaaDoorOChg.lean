/- What object's OfChange and OfMark answer, and slices.Index and slices.Contains of names of objects. Of parents that lie in memory, and texts of at most 100000 bytes. -/
import Derived.Test.YtcemdlcimhoeeaaDoorOTree
import Derived.Test.YtcemdlcimhoeeaaDoorOLayC
import Derived.Test.YtcemdlcimhoeeaaDoorOApp
import Derived.Test.YtcemdlcimhoeeaaDoorOEq
import Derived.Test.YtcemdlcimhoeeaaDoorNKind
namespace Go.Proofs.YtcemdlcimhoeeaaDoor
open Go.RowKit

theorem eql_ids (w : World) (xs ys : List UInt8) (hx : xs.length = 32) (hy : ys.length = 32) : (binOp .eql 24 (.agg (xs.map bv).toArray) (.agg (ys.map bv).toArray)).run Tryd.prog w = .ok (.bool (xs == ys)) w :=
  run_eql_bytes w 24 5 32 Tryd.underlying24 Tryd.underlying5 size_byte xs ys hx hy
theorem guard_id : Tryd.prog.eqGuardType Tryd.prog.depth 24 = false := by kernel_rfl
theorem size_id (w : World) : (Go.sizeOf 24).run Tryd.prog w = .ok 32 w := by kernel_rfl
theorem slice_to_id (W : World) (ao : Option Addr) (n c k : Nat) (hk : k ≤ c) : (Instr.slice 25 (.slice ao n c) none (some (.int .i64 (k : Int))) none).run Tryd.prog W = .ok (.slice ao k c) W := by
  have ht' : Tryd.prog.underlying 25 = some (.slice (Tryd.prog.elem 25)) := by simp [Program.elem, Tryd.underlying25]
  have he : Tryd.prog.elem 25 = 24 := by simp [Program.elem, Tryd.underlying25]
  rw [run_slice_h W 25 _ _ _ ht' .i64 _ (by omega) (by omega), he, size_id]
  cases ao <;> simp [Result.andThen, sliced, Addr.add]

theorem contains_snoc (ps : List (List UInt8)) (x : List UInt8) (j : Nat) (hj : j < ps.length) : (ps.take (j + 1)).contains x = ((ps.take j).contains x || (x == ps[j])) := by
  rw [List.take_succ_eq_append_getElem hj, Bool.eq_iff_iff]
  simp only [List.contains_iff_mem, List.mem_append, List.mem_singleton, Bool.or_eq_true, beq_iff_eq]

set_option maxRecDepth 100000 in
set_option maxHeartbeats 2000000 in
theorem sindex_any (w : World) (ao : Option Addr) (c : Nat) (ps : List (List UInt8)) (hP : Ids w ao c ps) (x : List UInt8) (hx : x.length = 32) (hn : ps.length ≤ 1000) :
    Calls Tryd.prog 44 #[.slice ao ps.length c, .agg (x.map bv).toArray] w fun e w' => ∃ r : Int, e = .returned (.int .i64 r) ∧ decide (0 ≤ r) = ps.contains x ∧ w.grownBy w' none := by
  obtain ⟨X, hX⟩ : ∃ X, X = x.map bv := ⟨_, rfl⟩
  obtain ⟨W0, hW0, hB0, g0⟩ := box_new w 24 X
  have hiX : (Tryd.prog.info? 24).map (·.size) = some X.length := by rw [hX, List.length_map, hx]; exact info_id
  obtain ⟨n, hln⟩ : ∃ n, n = ps.length := ⟨_, rfl⟩
  have hn' : n ≤ 1000 := by omega
  rw [← hln, ← hX]
  have HX := hide hX
  have HW0 := hide hW0
  have HB0 := hide hB0
  have HI := hide hiX
  have HL := hide hln
  have HP := hide hP
  have HXL := hide hx
  clear hX hW0 hB0 hiX hln hP hx hn
  go_enter Tryd.func44, Tryd.ntmps44
  go_wp2_with (rw [← unhide HW0])
  go_loopw [8] (fun i wr => ∃ j : Nat, i = .int .i64 j ∧ j ≤ n ∧ Hid ((ps.take j).contains x = false) ∧ W0.grownBy wr none) (fun i _ => n - (intOf i).toNat)
  case atStart => exact ⟨0, rfl, Nat.zero_le _, rfl, by rw [unhide HW0]; exact gb_refl _ _⟩
  case round =>
    obtain ⟨j, rfl, hj, HC, hg⟩ := hrel
    by_cases hlt : j < n
    · have hlt' : j < ps.length := by have := unhide HL; omega
      obtain ⟨b, o, hao, hrow⟩ := (unhide HP).at j hlt'
      have hr := range_kept (range_kept (hrow j hlt') g0 (by simp)) hg (by simp)
      have hid := (unhide HP).ids _ (List.getElem_mem hlt')
      have hsn := contains_snoc ps x j hlt'
      obtain ⟨E, hEE⟩ : ∃ E, E = ps[j] := ⟨_, rfl⟩
      rw [← hEE] at hr hid hsn
      have hrX := range_kept (blk_all (unhide HB0)) hg (by simp)
      have hq : ∀ V : World, (binOp .eql 24 (.agg X.toArray) (.agg (E.map bv).toArray)).run Tryd.prog V = .ok (.bool (x == E)) V := fun V => by rw [unhide HX]; exact eql_ids V x E (unhide HXL) hid
      obtain ⟨EC, hEC⟩ : ∃ L, L = E.map bv := ⟨_, rfl⟩
      have hiE : (Tryd.prog.info? 24).map (·.size) = some EC.length := by rw [hEC, List.length_map, hid]; exact info_id
      rw [← hEC] at hr hq
      have h0 : wr.grownBy wr.drew none := gb_drew (gb_refl _ _)
      subst hao
      have HSN := hide hsn
      have HIE := hide hiE
      have hG := tn g0 hg
      have hG2 : w.grownBy wr.drew none := gb_drew hG
      clear hrow hEE hEC hid hlt' hsn hiE
      obtain ⟨B, hB⟩ : ∃ B, B = (x == E) := ⟨_, rfl⟩
      rw [← hB] at hq
      have HBX := hide hB
      clear hB
      go_upto_region 4 with fail
      cases B
      · skip
        refine wp_region_noPanic ?_
        refine wp_region_held_drew (S := fun V => wr.grownBy V none) (by kernel_rfl) h0 (fun _ => ?_)
        refine wpAnyH_take (i := 0) (oi := { dst := some 11, op := Op.load 24 (Operand.tmp 3), type := _, pos := _, after := _, guard := _ }) (v := .agg X.toArray) rfl (by kernel_rfl) (by kernel_rfl) (by kernel_rfl) (fun _ _ _ h => h) (yieldsIf_load_mid (by rfl) _ _ rfl _ _ rfl X _ (fun V hV => range_kept hrX hV (by simp)) Tryd.underlying24 rfl (unhide HI)) h0 ?_
        (try simp only [Act.put, List.setIfInBounds_toArray, List.set_cons_zero, List.set_cons_succ])
        refine wpAnyH_take (i := 1) (oi := { dst := some 12, op := Op.move (Operand.tmp 0), type := _, pos := _, after := _, guard := _ }) (v := .slice (some ⟨b, o, none⟩) n c) rfl (by kernel_rfl) (by kernel_rfl) (by kernel_rfl) (fun _ _ _ h => h) (Or.inl ⟨by rfl, fun V (hV : wr.grownBy V none) => by go_simp⟩) h0 ?_
        (try simp only [Act.put, List.setIfInBounds_toArray, List.set_cons_zero, List.set_cons_succ])
        refine wpAnyH_take (i := 2) (oi := { dst := some 13, op := Op.move (Operand.tmp 5), type := _, pos := _, after := _, guard := _ }) (v := .int .i64 (j : Int)) rfl (by kernel_rfl) (by kernel_rfl) (by kernel_rfl) (fun _ _ _ h => h) (Or.inl ⟨by rfl, fun V (hV : wr.grownBy V none) => by go_simp⟩) h0 ?_
        (try simp only [Act.put, List.setIfInBounds_toArray, List.set_cons_zero, List.set_cons_succ])
        refine wpAnyH_take (i := 3) (oi := { dst := some 14, op := Op.indexAddr 25 (Operand.tmp 12) (Operand.tmp 13), type := _, pos := _, after := _, guard := _ }) (v := .pointer (some ⟨b, o + j * 32, none⟩)) rfl (by kernel_rfl) (by kernel_rfl) (by kernel_rfl) (fun _ _ _ h => h) (Or.inl ⟨by rfl, fun V (hV : wr.grownBy V none) => by go_simp⟩) h0 ?_
        (try simp only [Act.put, List.setIfInBounds_toArray, List.set_cons_zero, List.set_cons_succ])
        refine wpAnyH_take (i := 4) (oi := { dst := some 15, op := Op.load 24 (Operand.tmp 14), type := _, pos := _, after := _, guard := _ }) (v := .agg EC.toArray) rfl (by kernel_rfl) (by kernel_rfl) (by kernel_rfl) (fun _ _ _ h => h) (yieldsIf_load_mid (by rfl) _ _ rfl _ _ rfl EC _ (fun V hV => range_kept hr hV (by simp)) Tryd.underlying24 rfl (unhide HIE)) h0 ?_
        (try simp only [Act.put, List.setIfInBounds_toArray, List.set_cons_zero, List.set_cons_succ])
        refine wpAnyH_take (i := 5) (oi := { dst := some 16, op := Op.binOp BinOp.eql 24 (Operand.tmp 11) (Operand.tmp 15) 24, type := _, pos := _, after := _, guard := _ }) (v := .bool false) rfl (by kernel_rfl) (by kernel_rfl) (by kernel_rfl) (fun _ _ _ h => h) (yieldsIf_same (by rfl) _ _ _ _ rfl _ _ _ rfl rfl guard_id hq) h0 ?_
        (try simp only [Act.put, List.setIfInBounds_toArray, List.set_cons_zero, List.set_cons_succ])
        refine wpAnyH_done (by kernel_rfl) ?_ _
        refine NoPanic.normal ?_
        go_wp2
        go_roundw
        case rel =>
          refine ⟨j + 1, by go_num, by omega, ?_, tn hg h0⟩
          exact hide (by rw [unhide HSN, unhide HC, ← unhide HBX]; rfl)
        case measure => simp [intOf]; omega
      · have hfin : ps.contains x = true := by
          have h1 : (ps.take (j + 1)).contains x = true := by rw [unhide HSN, ← unhide HBX]; simp
          simp only [List.contains_iff_mem] at h1 ⊢
          exact List.mem_of_mem_take h1
        have HF := hide hfin
        clear hfin
        refine wp_region_noPanic ?_
        refine wp_region_held_drew (S := fun V => wr.grownBy V none) (by kernel_rfl) h0 (fun _ => ?_)
        refine wpAnyH_take (i := 0) (oi := { dst := some 11, op := Op.load 24 (Operand.tmp 3), type := _, pos := _, after := _, guard := _ }) (v := .agg X.toArray) rfl (by kernel_rfl) (by kernel_rfl) (by kernel_rfl) (fun _ _ _ h => h) (yieldsIf_load_mid (by rfl) _ _ rfl _ _ rfl X _ (fun V hV => range_kept hrX hV (by simp)) Tryd.underlying24 rfl (unhide HI)) h0 ?_
        (try simp only [Act.put, List.setIfInBounds_toArray, List.set_cons_zero, List.set_cons_succ])
        refine wpAnyH_take (i := 1) (oi := { dst := some 12, op := Op.move (Operand.tmp 0), type := _, pos := _, after := _, guard := _ }) (v := .slice (some ⟨b, o, none⟩) n c) rfl (by kernel_rfl) (by kernel_rfl) (by kernel_rfl) (fun _ _ _ h => h) (Or.inl ⟨by rfl, fun V (hV : wr.grownBy V none) => by go_simp⟩) h0 ?_
        (try simp only [Act.put, List.setIfInBounds_toArray, List.set_cons_zero, List.set_cons_succ])
        refine wpAnyH_take (i := 2) (oi := { dst := some 13, op := Op.move (Operand.tmp 5), type := _, pos := _, after := _, guard := _ }) (v := .int .i64 (j : Int)) rfl (by kernel_rfl) (by kernel_rfl) (by kernel_rfl) (fun _ _ _ h => h) (Or.inl ⟨by rfl, fun V (hV : wr.grownBy V none) => by go_simp⟩) h0 ?_
        (try simp only [Act.put, List.setIfInBounds_toArray, List.set_cons_zero, List.set_cons_succ])
        refine wpAnyH_take (i := 3) (oi := { dst := some 14, op := Op.indexAddr 25 (Operand.tmp 12) (Operand.tmp 13), type := _, pos := _, after := _, guard := _ }) (v := .pointer (some ⟨b, o + j * 32, none⟩)) rfl (by kernel_rfl) (by kernel_rfl) (by kernel_rfl) (fun _ _ _ h => h) (Or.inl ⟨by rfl, fun V (hV : wr.grownBy V none) => by go_simp⟩) h0 ?_
        (try simp only [Act.put, List.setIfInBounds_toArray, List.set_cons_zero, List.set_cons_succ])
        refine wpAnyH_take (i := 4) (oi := { dst := some 15, op := Op.load 24 (Operand.tmp 14), type := _, pos := _, after := _, guard := _ }) (v := .agg EC.toArray) rfl (by kernel_rfl) (by kernel_rfl) (by kernel_rfl) (fun _ _ _ h => h) (yieldsIf_load_mid (by rfl) _ _ rfl _ _ rfl EC _ (fun V hV => range_kept hr hV (by simp)) Tryd.underlying24 rfl (unhide HIE)) h0 ?_
        (try simp only [Act.put, List.setIfInBounds_toArray, List.set_cons_zero, List.set_cons_succ])
        refine wpAnyH_take (i := 5) (oi := { dst := some 16, op := Op.binOp BinOp.eql 24 (Operand.tmp 11) (Operand.tmp 15) 24, type := _, pos := _, after := _, guard := _ }) (v := .bool true) rfl (by kernel_rfl) (by kernel_rfl) (by kernel_rfl) (fun _ _ _ h => h) (yieldsIf_same (by rfl) _ _ _ _ rfl _ _ _ rfl rfl guard_id hq) h0 ?_
        (try simp only [Act.put, List.setIfInBounds_toArray, List.set_cons_zero, List.set_cons_succ])
        refine wpAnyH_done (by kernel_rfl) ?_ _
        refine NoPanic.normal ?_
        go_wp2
        go_ret
        exact ⟨(j : Int), rfl, by rw [unhide HF]; simp, hG2⟩
    · have hjn : j = ps.length := by have := unhide HL; omega
      have hfin : ps.contains x = false := by have := unhide HC; rwa [hjn, List.take_of_length_le (Nat.le_refl _)] at this
      have HF := hide hfin
      have hG := tn g0 hg
      clear hfin hjn
      go_wp2
      go_ret
      exact ⟨-1, rfl, by rw [unhide HF]; simp, hG⟩

set_option maxRecDepth 100000 in
theorem scontains_any (w : World) (ao : Option Addr) (c : Nat) (ps : List (List UInt8)) (hP : Ids w ao c ps) (x : List UInt8) (hx : x.length = 32) (hn : ps.length ≤ 1000) :
    Calls Tryd.prog 28 #[.slice ao ps.length c, .agg (x.map bv).toArray] w fun e w' => e = .returned (.bool (ps.contains x)) ∧ w.grownBy w' none := by
  obtain ⟨X, hX⟩ : ∃ X, X = x.map bv := ⟨_, rfl⟩
  obtain ⟨W0, hW0, hB0, g0⟩ := box_new w 24 X
  have hiX : (Tryd.prog.info? 24).map (·.size) = some X.length := by rw [hX, List.length_map, hx]; exact info_id
  have hr := blk_all hB0
  have ci := sindex_any W0 ao c ps (hP.none g0) x hx hn
  rw [← hX] at ci ⊢
  obtain ⟨n, hln⟩ : ∃ n, n = ps.length := ⟨_, rfl⟩
  rw [← hln] at ci ⊢
  obtain ⟨B, hB⟩ : ∃ B, B = ps.contains x := ⟨_, rfl⟩
  rw [← hB] at ci ⊢
  have HW0 := hide hW0
  have HI := hide hiX
  clear hX hW0 hB0 hiX hln hP hx hn hB
  go_enter Tryd.func28, Tryd.ntmps28
  go_wp2_with (rw [← unhide HW0]; refine wpList_load_mid rfl 24 _ rfl w.heap.size 0 rfl X _ hr Tryd.underlying24 rfl (unhide HI) ?_; clear hr)
  refine ci.mono ?_
  rintro e w2 ⟨r, rfl, hd, g2⟩
  have HD := hide hd
  clear hd ci
  by_cases hr0 : 0 ≤ r
  · have hB : B = true := by rw [← unhide HD]; simpa using hr0
    subst hB
    clear HD
    go_wp2
    go_ret
    exact ⟨rfl, tn g0 g2⟩
  · have hB : B = false := by rw [← unhide HD]; simpa using hr0
    subst hB
    have hr2 : decide (0 ≤ r) = false := by simp [hr0]
    have hr3 : decide (r ≥ 0) = false := by simp [hr0]
    clear HD
    go_wp2
    go_ret
    exact ⟨rfl, tn g0 g2⟩

end Go.Proofs.YtcemdlcimhoeeaaDoor
