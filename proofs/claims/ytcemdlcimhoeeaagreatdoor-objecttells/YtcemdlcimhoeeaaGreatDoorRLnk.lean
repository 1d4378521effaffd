/- What the program tells of an object, and what the document tells of it: pure. -/
import Derived.Test.YtcemdlcimhoeeaaGreatDoorOPut
import Derived.Test.YtcemdlcimhoeeaaGreatDoorRCheck
import Derived.Test.YtcemdlcimhoeeaaGreatDoorREq
import Derived.Test.YtcemdlcimhoeeaaGreatDoorRMrk
import Derived.Test.YtcemdlcimhoeeaaGreatDoorRPureC
import Derived.Test.YtcemdlcimhoeeaaGreatDoorRChg
import Derived.Test.YtcemdlcimhoeeaaGreatDoorOCloM
import Derived.Test.YtcemdlcimhoeeaaGreatDoorORdP
import Derived.Test.YtcemdlcimhoeeaaGreatDoorMStg
namespace Go.Proofs.YtcemdlcimhoeeaaGreatDoor

theorem tel_T (k : Int) (d : List UInt8) : rtT k d = telT k d ∧ (telT k d).2.length ≤ 32 ∧ ∀ e ∈ (telT k d).2, e.id.length = 32 := by
  refine ⟨rfl, ?_, ?_⟩
  · unfold telT
    split
    · split
      · rename_i h; exact (ofTree_ok h).2.1
      · simp
    · simp
  · unfold telT
    split
    · split
      · exact readT_ids d
      · simp
    · simp
theorem tel_C (k : Int) (d : List UInt8) : (rtC k d).1 = (telC k d).1 ∧ ((telC k d).1 = 0 → k = 3 ∧ (rtC k d).2 = (telC k d).2) ∧ (telC k d).2.tree.length = 32 ∧ (telC k d).2.pars.length ≤ 4 ∧ ∀ x ∈ (telC k d).2.pars, x.length = 32 := by
  have hz : zeroCh.tree.length = 32 ∧ zeroCh.pars.length ≤ 4 ∧ ∀ x ∈ zeroCh.pars, x.length = 32 := ⟨rfl, Nat.zero_le _, by intro x hx; cases hx⟩
  have hr := readC_ok d
  unfold rtC telC
  by_cases hk : k = 3
  · rw [if_pos hk, if_pos hk]
    by_cases h : ofChg (readC d) = (0, d)
    · rw [if_pos h, if_pos h]
      exact ⟨rfl, fun _ => ⟨hk, rfl⟩, hr.1, hr.2.2.1, hr.2.1⟩
    · rw [if_neg h, if_neg h]
      exact ⟨rfl, fun e => absurd e (by decide), hz⟩
  · rw [if_neg hk, if_neg hk]
    exact ⟨rfl, fun e => absurd e (by decide), hz⟩
theorem tel_M (k : Int) (d : List UInt8) : (rtM k d).1 = (telM k d).1 ∧ ((telM k d).1 = 0 → k = 4 ∧ (rtM k d).2 = (telM k d).2) ∧ ((telM k d).1 ≠ 0 → (telM k d).2 = zeroMk ∧ (rtM k d).2 = ⟨[], [], []⟩) ∧ (telM k d).2.target.length = 32 := by
  have hr := readM_ok d
  unfold rtM telM
  by_cases hk : k = 4
  · rw [if_pos hk, if_pos hk]
    by_cases h : ofMrk (readM d) = (0, d)
    · rw [if_pos h, if_pos h]
      exact ⟨rfl, fun _ => ⟨hk, rfl⟩, fun e => absurd rfl e, hr.1⟩
    · rw [if_neg h, if_neg h]
      exact ⟨rfl, fun e => absurd e (by decide), fun _ => ⟨rfl, rfl⟩, rfl⟩
  · rw [if_neg hk, if_neg hk]
    exact ⟨rfl, fun e => absurd e (by decide), fun _ => ⟨rfl, rfl⟩, rfl⟩
theorem check_big (k : Int) (d : List UInt8) (h : 20000 < d.length) : checkL k d ≠ 0 := by
  unfold checkL
  split
  · decide
  · rw [if_pos (by omega)]; decide

end Go.Proofs.YtcemdlcimhoeeaaGreatDoor

/- Two entries, or two notes, of the document's held against each other. No condition. -/
namespace Go.Proofs.YtcemdlcimhoeeaaGreatDoor
open Go.RowKit

theorem pt0 (w : World) (a c : ByteArray) (b : Bool) : (part 9 #[.string a, .bool b, .string c] 0).run Tryz.prog w = .ok (.string a) w := by kernel_rfl
theorem pt1 (w : World) (a c : ByteArray) (b : Bool) : (part 4 #[.string a, .bool b, .string c] 1).run Tryz.prog w = .ok (.bool b) w := by kernel_rfl
theorem pt2 (w : World) (a c : ByteArray) (b : Bool) : (part 9 #[.string a, .bool b, .string c] 2).run Tryz.prog w = .ok (.string c) w := by kernel_rfl
theorem pk0 (w : World) (a b c : ByteArray) : (part 9 #[.string a, .string b, .string c] 0).run Tryz.prog w = .ok (.string a) w := by kernel_rfl
theorem pk1 (w : World) (a b c : ByteArray) : (part 9 #[.string a, .string b, .string c] 1).run Tryz.prog w = .ok (.string b) w := by kernel_rfl
theorem pk2 (w : World) (a b c : ByteArray) : (part 9 #[.string a, .string b, .string c] 2).run Tryz.prog w = .ok (.string c) w := by kernel_rfl
theorem fields_rent : Tryz.prog.underlying 61 = some (.struct (Tryz.prog.fieldsOf 61)) := by kernel_rfl
theorem held_rent : Tryz.prog.stoodInHeld 61 = false := by kernel_rfl
theorem guard_rent : Tryz.prog.eqGuardType Tryz.prog.depth 61 = false := by kernel_rfl
theorem fields_rmrk : Tryz.prog.underlying 55 = some (.struct (Tryz.prog.fieldsOf 55)) := by kernel_rfl
theorem held_rmrk : Tryz.prog.stoodInHeld 55 = false := by kernel_rfl
theorem guard_rmrk : Tryz.prog.eqGuardType Tryz.prog.depth 55 = false := by kernel_rfl
theorem rent_fields : ∃ f0 f1 f2 : Field, (Tryz.prog.fieldsOf 61).toList = [f0, f1, f2] ∧ ((f0.name == "_") = false ∧ f0.type = 9 ∧ f0.offset = 0) ∧ ((f1.name == "_") = false ∧ f1.type = 4 ∧ f1.offset = 1) ∧ ((f2.name == "_") = false ∧ f2.type = 9 ∧ f2.offset = 2) := by
  refine ⟨_, _, _, by rw [Program.fieldsOf, Tryz.underlying61], ⟨by decide, rfl, rfl⟩, ⟨by decide, rfl, rfl⟩, ⟨by decide, rfl, rfl⟩⟩
theorem rmrk_fields : ∃ f0 f1 f2 : Field, (Tryz.prog.fieldsOf 55).toList = [f0, f1, f2] ∧ ((f0.name == "_") = false ∧ f0.type = 9 ∧ f0.offset = 0) ∧ ((f1.name == "_") = false ∧ f1.type = 9 ∧ f1.offset = 1) ∧ ((f2.name == "_") = false ∧ f2.type = 9 ∧ f2.offset = 2) := by
  refine ⟨_, _, _, by rw [Program.fieldsOf, Tryz.underlying55], ⟨by decide, rfl, rfl⟩, ⟨by decide, rfl, rfl⟩, ⟨by decide, rfl, rfl⟩⟩
theorem eq_strq (w : World) (s t : ByteArray) : (Op.equalIn 9999 9 (.string s) (.string t)).run Tryz.prog w = .ok (s.toList == t.toList) w := run_equalIn_string w 9998 _ _ _ Tryz.underlying9
theorem eq_boolq (w : World) (b : Bool) : (Op.equalIn 9999 4 (.bool b) (.bool b)).run Tryz.prog w = .ok true w := by cases b <;> kernel_rfl

theorem neq_rent (w : World) (a c : ByteArray) (b : Bool) : (binOp .neq 61 (.agg #[.string a, .bool b, .string c]) (.agg #[.string a, .bool b, .string c])).run Tryz.prog w = .ok (.bool false) w := by
  obtain ⟨f0, f1, f2, hf, ⟨n0, t0, o0⟩, ⟨n1, t1, o1⟩, ⟨n2, t2, o2⟩⟩ := rent_fields
  rw [run_neq_struct, run_equalIn_struct w 9999 _ _ _ fields_rent held_rent, hf,
    eq_one w 9999 _ _ f0 [f1, f2] _ _ _ n0 (by rw [t0, o0]; exact pt0 w a c b) (by rw [t0, o0]; exact pt0 w a c b) (by rw [t0]; exact eq_strq w _ _), if_pos (by simp),
    eq_one w 9999 _ _ f1 [f2] _ _ _ n1 (by rw [t1, o1]; exact pt1 w a c b) (by rw [t1, o1]; exact pt1 w a c b) (by rw [t1]; exact eq_boolq w _), if_pos rfl,
    eq_one w 9999 _ _ f2 [] _ _ _ n2 (by rw [t2, o2]; exact pt2 w a c b) (by rw [t2, o2]; exact pt2 w a c b) (by rw [t2]; exact eq_strq w _ _), if_pos (by simp)]
  rfl
theorem neq_rmrk (w : World) (a b c x y z : ByteArray) : (binOp .neq 55 (.agg #[.string a, .string b, .string c]) (.agg #[.string x, .string y, .string z])).run Tryz.prog w = .ok (.bool (!(a.toList == x.toList && b.toList == y.toList && c.toList == z.toList))) w := by
  obtain ⟨f0, f1, f2, hf, ⟨n0, t0, o0⟩, ⟨n1, t1, o1⟩, ⟨n2, t2, o2⟩⟩ := rmrk_fields
  rw [run_neq_struct, run_equalIn_struct w 9999 _ _ _ fields_rmrk held_rmrk, hf,
    eq_one w 9999 _ _ f0 [f1, f2] _ _ _ n0 (by rw [t0, o0]; exact pk0 w a b c) (by rw [t0, o0]; exact pk0 w x y z) (by rw [t0]; exact eq_strq w _ _)]
  by_cases h0 : (a.toList == x.toList) = true
  · rw [if_pos h0, eq_one w 9999 _ _ f1 [f2] _ _ _ n1 (by rw [t1, o1]; exact pk1 w a b c) (by rw [t1, o1]; exact pk1 w x y z) (by rw [t1]; exact eq_strq w _ _)]
    by_cases h1 : (b.toList == y.toList) = true
    · rw [if_pos h1, eq_one w 9999 _ _ f2 [] _ _ _ n2 (by rw [t2, o2]; exact pk2 w a b c) (by rw [t2, o2]; exact pk2 w x y z) (by rw [t2]; exact eq_strq w _ _)]
      rw [h0, h1]
      cases (c.toList == z.toList) <;> rfl
    · rw [if_neg h1, h0, show (b.toList == y.toList) = false by simpa using h1]
      rfl
  · rw [if_neg h0, show (a.toList == x.toList) = false by simpa using h0]
    rfl

end Go.Proofs.YtcemdlcimhoeeaaGreatDoor

/- What the law package's Own, mark, entries, Ids and change answer: the same, in the document's words. Of what lies in memory. -/
namespace Go.Proofs.YtcemdlcimhoeeaaGreatDoor
open Go.RowKit

set_option maxRecDepth 100000 in
theorem lown_any (w : World) (k : Int) (ao : Option Addr) (c : Nat) (d : List UInt8) (hb : Bts w ao c d) : Calls Tryz.prog 6 #[.agg #[.int .i64 k, .slice ao d.length c]] w fun e w' => e = .returned (.agg #[.int .i64 k, .string (str d)]) ∧ w.grownBy w' none := by
  obtain ⟨n, hn⟩ : ∃ n, n = d.length := ⟨_, rfl⟩
  obtain ⟨S0, hS0⟩ : ∃ S, S = str [] := ⟨_, rfl⟩
  have hzv := zero_robj
  rw [← hS0] at hzv
  obtain ⟨W1, hW1⟩ : ∃ W, W = (w.alloc (.cells #[.int .i64 k, .slice ao n c] 24)).alloc (.cells #[.int .i64 0, .string S0] 29) := ⟨_, rfl⟩
  have G1 : w.grownBy W1 none := by rw [hW1]; exact gb_alloc (gb_alloc (gb_refl _ _) _) _
  have hcv := conv_str (hb.kept G1 (fun _ e => by cases e))
  rw [← hn] at hcv ⊢
  rw [hW1] at hcv
  obtain ⟨SS, hSS⟩ : ∃ S, S = str d := ⟨_, rfl⟩
  rw [← hSS] at hcv ⊢
  clear hSS hn hb G1 hW1 W1 hS0
  go_enter Tryz.func6, Tryz.ntmps6
  go_wp2
  exact bodyPost_ret (v := .agg #[.int .i64 k, .string SS]) (by simp [results, Tryz.results6, go_sem]) rfl ⟨rfl, gb_alloc (gb_alloc (gb_refl _ _) _) _⟩

theorem rmC_one (m : MrkL) : ∀ u ∈ rmC m, u.oneCell' = true := by
  intro u hu
  simp only [rmC, List.mem_cons, List.not_mem_nil, or_false] at hu
  rcases hu with rfl | rfl | rfl <;> rfl
theorem rcC_one (c : ChgL) (po : Option Addr) (pc : Nat) : ∀ u ∈ rcC c po pc, u.oneCell' = true := by
  intro u hu
  simp only [rcC, List.mem_cons, List.not_mem_nil, or_false] at hu
  rcases hu with rfl | rfl | rfl | rfl | rfl <;> rfl
theorem info_rmrk : (Tryz.prog.info? 55).map (·.size) = some 3 := by kernel_rfl
theorem info_rchg : (Tryz.prog.info? 47).map (·.size) = some 5 := by kernel_rfl

set_option maxRecDepth 100000 in
set_option maxHeartbeats 2000000 in
theorem lmark_any (w : World) (m : MrkL) (ht : m.target.length = 32) : Calls Tryz.prog 13 #[.agg (mkC m).toArray] w fun e w' => e = .returned (.agg (rmC m).toArray) ∧ w.grownBy w' none := by
  obtain ⟨q1, q2⟩ := mkC_at m ht
  obtain ⟨C, hC⟩ : ∃ C, C = mkC m := ⟨_, rfl⟩
  rw [← hC] at q1 q2 ⊢
  obtain ⟨Z, hZ⟩ : ∃ Z : List Value, Z = [.string (str []), .string (str []), .string (str [])] := ⟨_, rfl⟩
  have hzv : ∀ w, (zeroValue 55).run Tryz.prog w = .ok (.agg Z.toArray) w := fun w => by rw [hZ]; kernel_rfl
  have hZl : Z.toArray.size = 3 := by rw [hZ]; rfl
  obtain ⟨W0, hW0, hB0, g0⟩ := box_new w 51 C
  obtain ⟨W1, hW1, hB1, g1⟩ := box_new W0 55 Z
  have hs0 : W0.heap.size = w.heap.size + 1 := by rw [hW0]; simp
  rw [hs0] at hB1
  have hBo := hB0.kept g1 (by simp)
  have hW : W1 = (w.alloc (.cells C.toArray 51)).alloc (.cells Z.toArray 55) := by rw [hW1, hW0]
  have hcell : ∀ V, Blk V w.heap.size 51 C → V.cell? ⟨w.heap.size, 32, none⟩ = some (.string (str m.name)) ∧ V.cell? ⟨w.heap.size, 33, none⟩ = some (.string (str m.text)) ∧ (convert 22 9 (.slice (some ⟨w.heap.size, 0, none⟩) 32 32)).run Tryz.prog V = .ok (.string (str m.target)) V := fun V h => by
    refine ⟨by rw [h.cell 32, q1], by rw [h.cell 33, q2], ?_⟩
    have h1 := blk_all h
    rw [hC] at h1
    have h2 := conv_str (range_bts (mk_target h1) (by rw [ht]; unfold maxLen; omega))
    rwa [ht] at h2
  have hsl := slice_wid w.heap.size 0
  have hbt : Tryz.prog.built 55 [(0, .string (str m.target)), (1, .string (str m.name)), (2, .string (str m.text))] = some (rmC m).toArray := by kernel_rfl
  obtain ⟨TT, hTT⟩ : ∃ T, T = str m.target := ⟨_, rfl⟩
  obtain ⟨TN, hTN⟩ : ∃ T, T = str m.name := ⟨_, rfl⟩
  obtain ⟨TX, hTX⟩ : ∃ T, T = str m.text := ⟨_, rfl⟩
  rw [← hTT] at hcell hbt
  rw [← hTN] at hcell hbt
  rw [← hTX] at hcell hbt
  obtain ⟨RC, hRC⟩ : ∃ R, R = rmC m := ⟨_, rfl⟩
  rw [← hRC] at hbt ⊢
  have hRl : RC.toArray.size = 3 := by rw [hRC]; rfl
  have hRo : RC.toArray.all (·.oneCell') = true := by rw [hRC]; exact all_oneCell_toArray (rmC_one m)
  have hiR : (Tryz.prog.info? 55).map (·.size) = some RC.toArray.size := by rw [hRl]; exact info_rmrk
  have hZR : Z.toArray.size = RC.toArray.size := by rw [hZl, hRl]
  have HW := hide hW
  have HCE := hide hcell
  have HBT := hide hbt
  have HRO := hide hRo
  have HIR := hide hiR
  have HZR := hide hZR
  have h0 : w.grownBy W1.drew none ∧ Blk W1.drew w.heap.size 51 C := ⟨gb_drew (tn g0 g1), hBo.drew⟩
  have hB1d := hB1.drew
  clear hW hW0 hW1 hB0 hB1 g0 g1 hs0 hBo hC hZ hZl hTT hTN hTX hRC hRl hRo hiR hZR hcell hbt q1 q2 ht
  go_enter Tryz.func13, Tryz.ntmps13
  go_upto_region 1 with (rw [← unhide HW])
  refine wp_region_noPanic ?_
  refine wp_region_held_drew (S := fun V => w.grownBy V none ∧ Blk V w.heap.size 51 C) (by kernel_rfl) h0 (fun _ => ?_)
  refine wpAnyH_take (i := 0) (oi := { dst := some 3, op := Op.fieldAddr 51 (Operand.tmp 1) 0, type := _, pos := _, after := _, guard := _ }) (v := .pointer (some ⟨w.heap.size, 0, none⟩)) rfl (by kernel_rfl) (by kernel_rfl) (by kernel_rfl) (fun _ _ _ h => h) (Or.inl ⟨by rfl, fun V (hV : w.grownBy V none ∧ Blk V w.heap.size 51 C) => by go_simp⟩) h0 ?_
  (try simp only [Act.put, List.setIfInBounds_toArray, List.set_cons_zero, List.set_cons_succ])
  refine wpAnyH_take (i := 1) (oi := { dst := some 4, op := Op.slice 38 (Operand.tmp 3) none none none, type := _, pos := _, after := _, guard := _ }) (v := .slice (some ⟨w.heap.size, 0, none⟩) 32 32) rfl (by kernel_rfl) (by kernel_rfl) (by kernel_rfl) (fun _ _ _ h => h) (Or.inl ⟨by rfl, fun V (hV : w.grownBy V none ∧ Blk V w.heap.size 51 C) => by (have q9 := hsl V; go_simp)⟩) h0 ?_
  (try simp only [Act.put, List.setIfInBounds_toArray, List.set_cons_zero, List.set_cons_succ])
  refine wpAnyH_take (i := 2) (oi := { dst := some 5, op := Op.convert 22 9 (Operand.tmp 4), type := _, pos := _, after := _, guard := _ }) (v := .string TT) rfl (by kernel_rfl) (by kernel_rfl) (by kernel_rfl) (fun _ _ _ h => h) (Or.inl ⟨by rfl, fun V (hV : w.grownBy V none ∧ Blk V w.heap.size 51 C) => by (have q9 := (unhide HCE V hV.2).2.2; go_simp)⟩) h0 ?_
  (try simp only [Act.put, List.setIfInBounds_toArray, List.set_cons_zero, List.set_cons_succ])
  refine wpAnyH_take (i := 3) (oi := { dst := some 6, op := Op.fieldAddr 51 (Operand.tmp 1) 1, type := _, pos := _, after := _, guard := _ }) (v := .pointer (some ⟨w.heap.size, 32, none⟩)) rfl (by kernel_rfl) (by kernel_rfl) (by kernel_rfl) (fun _ _ _ h => h) (Or.inl ⟨by rfl, fun V (hV : w.grownBy V none ∧ Blk V w.heap.size 51 C) => by go_simp⟩) h0 ?_
  (try simp only [Act.put, List.setIfInBounds_toArray, List.set_cons_zero, List.set_cons_succ])
  refine wpAnyH_take (i := 4) (oi := { dst := some 7, op := Op.load 9 (Operand.tmp 6), type := _, pos := _, after := _, guard := _ }) (v := .string TN) rfl (by kernel_rfl) (by kernel_rfl) (by kernel_rfl) (fun _ _ _ h => h) (Or.inl ⟨by rfl, fun V (hV : w.grownBy V none ∧ Blk V w.heap.size 51 C) => by (have q9 := (unhide HCE V hV.2).1; go_simp)⟩) h0 ?_
  (try simp only [Act.put, List.setIfInBounds_toArray, List.set_cons_zero, List.set_cons_succ])
  refine wpAnyH_take (i := 5) (oi := { dst := some 8, op := Op.fieldAddr 51 (Operand.tmp 1) 2, type := _, pos := _, after := _, guard := _ }) (v := .pointer (some ⟨w.heap.size, 33, none⟩)) rfl (by kernel_rfl) (by kernel_rfl) (by kernel_rfl) (fun _ _ _ h => h) (Or.inl ⟨by rfl, fun V (hV : w.grownBy V none ∧ Blk V w.heap.size 51 C) => by go_simp⟩) h0 ?_
  (try simp only [Act.put, List.setIfInBounds_toArray, List.set_cons_zero, List.set_cons_succ])
  refine wpAnyH_take (i := 6) (oi := { dst := some 9, op := Op.load 9 (Operand.tmp 8), type := _, pos := _, after := _, guard := _ }) (v := .string TX) rfl (by kernel_rfl) (by kernel_rfl) (by kernel_rfl) (fun _ _ _ h => h) (Or.inl ⟨by rfl, fun V (hV : w.grownBy V none ∧ Blk V w.heap.size 51 C) => by (have q9 := (unhide HCE V hV.2).2.1; go_simp)⟩) h0 ?_
  (try simp only [Act.put, List.setIfInBounds_toArray, List.set_cons_zero, List.set_cons_succ])
  refine wpAnyH_take (i := 7) (oi := { dst := some 10, op := Op.build 55 #[(0, (Operand.tmp 5)), (1, (Operand.tmp 7)), (2, (Operand.tmp 9))], type := _, pos := _, after := _, guard := _ }) (v := .agg RC.toArray) rfl (by kernel_rfl) (by kernel_rfl) (by kernel_rfl) (fun _ _ _ h => h) (yieldsIf_built (by rfl) _ _ rfl _ (Eq.trans (b := Tryz.prog.built 55 [(0, .string TT), (1, .string TN), (2, .string TX)]) (by kernel_rfl) (unhide HBT))) h0 ?_
  (try simp only [Act.put, List.setIfInBounds_toArray, List.set_cons_zero, List.set_cons_succ])
  have h6 : w.grownBy (W1.drew.setRow (w.heap.size + 1) RC.toArray) none ∧ Blk (W1.drew.setRow (w.heap.size + 1) RC.toArray) w.heap.size 51 C := ⟨gb_row h0.1 _ (Or.inl (Nat.le_succ _)), h0.2.row_other _ _ (by omega)⟩
  refine wpAnyH_ready (rs := [8]) (by kernel_rfl) (by simp) ?_
  refine AllReadyH.cons (o := { dst := none, op := Op.store 55 (Operand.tmp 2) (Operand.tmp 10), type := _, pos := _, after := _, guard := _ }) rfl (fun K9 hK9 => ?_) AllReadyH.nil
  rw [if_pos (by rfl)]
  refine wp_store_row _ _ _ rfl (w.heap.size + 1) RC.toArray rfl rfl _ _ hB1d (unhide HIR) (unhide HZR) (unhide HRO) ?_
  refine hK9.out _ _ h6 (fun _ => ?_)
  clear hK9 K9 h6
  (try simp only [Act.put])
  refine wpAnyH_done (by kernel_rfl) ?_ _
  refine NoPanic.normal ?_
  go_wp2
  refine bodyPost_ret (results_cell_row rfl _ _ _ _ _ _ _ rfl (hB1d.row RC) Tryz.underlying55 rfl (unhide HIR)) rfl ?_
  exact ⟨rfl, gb_row h0.1 _ (Or.inl (Nat.le_succ _))⟩

theorem bs_str (s : ByteArray) (V : World) : (Instr.buildSlice 45 1 #[(0, .string s)]).run Tryz.prog V = .ok (.slice (some ⟨V.heap.size, 0, none⟩) 1 1) (V.alloc (.cells #[.string s] 9)) := by kernel_rfl

set_option maxRecDepth 100000 in
set_option maxHeartbeats 2000000 in
theorem lids_any (w : World) (ao : Option Addr) (c : Nat) (ps : List (List UInt8)) (hP : Ids w ao c ps) (hm : ps.length ≤ 100000) : Calls Tryz.prog 20 #[.slice ao ps.length c] w fun e w' => ∃ v, e = .returned v ∧ Stg w' w.heap.size v ps ∧ w.grownBy w' none := by
  obtain ⟨n, hln⟩ : ∃ n, n = ps.length := ⟨_, rfl⟩
  rw [← hln]
  have HP := hide hP
  have HL := hide hln
  have hn9 : n ≤ 100000 := by omega
  clear hP hln hm
  go_enter Tryz.func20, Tryz.ntmps20
  go_wp2
  go_loopw [3, 4] (fun v i wr => ∃ j : Nat, i = .int .i64 j ∧ j ≤ n ∧ Stg wr w.heap.size v (ps.take j) ∧ w.grownBy wr none) (fun _ i _ => n - (intOf i).toNat)
  case atStart => exact ⟨0, rfl, Nat.zero_le _, Stg.nil _ _, gb_refl _ _⟩
  case round =>
    obtain ⟨j, rfl, hj, ho, hg⟩ := hrel
    by_cases hlt : j < n
    · have hlt' : j < ps.length := by have := unhide HL; omega
      obtain ⟨b, o, hao, hrow⟩ := (unhide HP).at j hlt'
      have hr := range_kept (hrow j hlt') hg (by simp)
      have hid := (unhide HP).ids _ (List.getElem_mem hlt')
      have hnew := List.take_succ_eq_append_getElem hlt'
      obtain ⟨E, hEE⟩ : ∃ E, E = ps[j] := ⟨_, rfl⟩
      rw [← hEE] at hr hid hnew
      have hcv := conv_str (range_bts hr (by rw [hid]; unfold maxLen; omega))
      rw [hid] at hcv
      have hsl := slice_wid b (o + j * 32)
      have hbs := bs_str (str E) wr
      obtain ⟨W5, hW5, hB5, g5⟩ : ∃ W, W = wr.alloc (.cells #[.string (str E)] 9) ∧ Blk W wr.heap.size 9 [.string (str E)] ∧ wr.grownBy W none := box_new wr _ _
      have hcE : W5.cell? ⟨wr.heap.size, 0, none⟩ = some (stv E) := by rw [hB5.cell 0]; rfl
      obtain ⟨TE, hTE⟩ : ∃ T, T = str E := ⟨_, rfl⟩
      rw [← hTE] at hcv hbs hW5
      have ho5 := ho.kept g5
      have G5 := tn hg g5
      have hl9 : (ps.take j).length ≤ 1000000 := by rw [List.length_take]; omega
      have HW5 := hide hW5
      have HBS := hide hbs
      have HNW := hide hnew
      have HO5 := hide ho5
      have HG5 := hide G5
      have HCE := hide hcE
      clear hrow hEE hr hid hnew hW5 hB5 g5 hTE hbs ho hg ho5 G5 hcE hlt'
      subst hao
      go_wp2_with (first
        | (refine wpList_build1 rfl 45 _ rfl (.string TE) _ rfl (unhide HBS) ?_; rw [← unhide HW5])
        | (refine wpList_append_str rfl _ _ rfl w.heap.size _ _ E _ rfl (unhide HO5) rfl (unhide HCE) hl9 (unhide HG5).size ?_; intro v6 w6 ho6 g6; have HO6 := hide ho6; have HG6 := hide (gb_trans (unhide HG5) g6 (fun x e => Or.inl ((unhide HO5).lt x e).1)); clear ho6 g6 HO5 HG5))
      go_roundw
      case rel =>
        refine ⟨j + 1, by go_num, by omega, ?_, unhide HG6⟩
        rw [unhide HNW]
        exact unhide HO6
      case measure => simp [intOf]; omega
    · have hjn : j = ps.length := by have := unhide HL; omega
      rw [hjn, List.take_of_length_le (Nat.le_refl _)] at ho
      have HO := hide ho
      clear hjn ho
      go_wp2
      go_ret
      exact ⟨_, rfl, unhide HO, hg⟩

set_option maxRecDepth 100000 in
set_option maxHeartbeats 4000000 in
theorem lentries_any (w : World) (ao : Option Addr) (c : Nat) (es : List EntL) (hE : Ens w ao c es) (hm : es.length ≤ 100000) : Calls Tryz.prog 14 #[.slice ao es.length c] w fun e w' => ∃ v, e = .returned v ∧ w'.ownsRow w.heap.size 61 3 v es.length (es.flatMap reC) ∧ w.grownBy w' none := by
  obtain ⟨n, hln⟩ : ∃ n, n = es.length := ⟨_, rfl⟩
  rw [← hln]
  have HE := hide hE
  have HL := hide hln
  have hn9 : n ≤ 100000 := by omega
  clear hE hln hm
  go_enter Tryz.func14, Tryz.ntmps14
  go_wp2
  go_loopw [3, 4] (fun v i wr => ∃ j : Nat, i = .int .i64 j ∧ j ≤ n ∧ wr.ownsRow w.heap.size 61 3 v j ((es.take j).flatMap reC) ∧ w.grownBy wr none) (fun _ i _ => n - (intOf i).toNat)
  case atStart => exact ⟨0, rfl, Nat.zero_le _, World.ownsRow_nil _ _ _ _, gb_refl _ _⟩
  case round =>
    obtain ⟨j, rfl, hj, ho, hg⟩ := hrel
    by_cases hlt : j < n
    · have hlt' : j < es.length := by have := unhide HL; omega
      obtain ⟨b, o, hao, hrow⟩ := (unhide HE).at j hlt'
      have hr := hrow j hlt'
      have hid := (unhide HE).ids _ (List.getElem_mem hlt')
      have hnew : (es.take (j + 1)).flatMap reC = (es.take j).flatMap reC ++ reC es[j] := by rw [List.take_succ_eq_append_getElem hlt', List.flatMap_append]; simp
      obtain ⟨E, hEE⟩ : ∃ E, E = es[j] := ⟨_, rfl⟩
      rw [← hEE] at hr hid hnew
      obtain ⟨nm, D, id⟩ := E
      simp only at hid
      have k0 : w.cell? ⟨b, o + j * 34, none⟩ = some (.string (str nm)) := hr 0 _ rfl
      have k1 : w.cell? ⟨b, o + (j * 34 + 1), none⟩ = some (.bool D) := by rw [← Nat.add_assoc]; exact hr 1 _ rfl
      have k2 : ∀ V, w.grownBy V none → (convert 22 9 (.slice (some ⟨b, o + (j * 34 + 2), none⟩) 32 32)).run Tryz.prog V = .ok (.string (str id)) V := fun V gV => by
        have h1 := en_id hr
        rw [Nat.add_assoc] at h1
        have h2 := conv_str (range_bts (range_kept h1 gV (by simp)) (by rw [hid]; unfold maxLen; omega))
        rwa [hid] at h2
      have hsl := slice_wid b (o + (j * 34 + 2))
      obtain ⟨TN, hTN⟩ : ∃ T, T = str nm := ⟨_, rfl⟩
      obtain ⟨TI, hTI⟩ : ∃ T, T = str id := ⟨_, rfl⟩
      have hRC : reC ⟨nm, D, id⟩ = [.string TN, .bool D, .string TI] := by rw [hTN, hTI]; rfl
      rw [hRC] at hnew
      rw [← hTN] at k0
      rw [← hTI] at k2
      have hbt := built_rent TN TI D
      have hbs := bs_rent TN TI D
      have h0 : w.grownBy wr.drew none := gb_drew hg
      have hod := own_rent ho (gb_drew (gb_refl wr none)) (fun x e => by cases e)
      have HNW := hide hnew
      have HBT := hide hbt
      have hj9 : j ≤ 100000 := by omega
      clear hrow hEE hr hid hnew ho hg hlt' hTN hTI hRC hbt
      subst hao
      go_upto_region 5 with fail
      refine wp_region_noPanic ?_
      refine wp_region_held_drew (S := fun V => w.grownBy V none) (by kernel_rfl) h0 (fun _ => ?_)
      refine wpAnyH_take (i := 0) (oi := { dst := some 11, op := Op.move (Operand.tmp 3), type := _, pos := _, after := _, guard := _ }) (v := u3) rfl (by kernel_rfl) (by kernel_rfl) (by kernel_rfl) (fun _ _ _ h => h) (Or.inl ⟨by rfl, fun V (hV : w.grownBy V none) => by go_simp⟩) h0 ?_
      (try simp only [Act.put, List.setIfInBounds_toArray, List.set_cons_zero, List.set_cons_succ])
      refine wpAnyH_take (i := 1) (oi := { dst := some 12, op := Op.move (Operand.tmp 0), type := _, pos := _, after := _, guard := _ }) (v := .slice (some ⟨b, o, none⟩) n c) rfl (by kernel_rfl) (by kernel_rfl) (by kernel_rfl) (fun _ _ _ h => h) (Or.inl ⟨by rfl, fun V (hV : w.grownBy V none) => by go_simp⟩) h0 ?_
      (try simp only [Act.put, List.setIfInBounds_toArray, List.set_cons_zero, List.set_cons_succ])
      refine wpAnyH_take (i := 2) (oi := { dst := some 13, op := Op.move (Operand.tmp 4), type := _, pos := _, after := _, guard := _ }) (v := .int .i64 (j : Int)) rfl (by kernel_rfl) (by kernel_rfl) (by kernel_rfl) (fun _ _ _ h => h) (Or.inl ⟨by rfl, fun V (hV : w.grownBy V none) => by go_simp⟩) h0 ?_
      (try simp only [Act.put, List.setIfInBounds_toArray, List.set_cons_zero, List.set_cons_succ])
      refine wpAnyH_take (i := 3) (oi := { dst := some 14, op := Op.indexAddr 31 (Operand.tmp 12) (Operand.tmp 13), type := _, pos := _, after := _, guard := _ }) (v := .pointer (some ⟨b, o + j * 34, none⟩)) rfl (by kernel_rfl) (by kernel_rfl) (by kernel_rfl) (fun _ _ _ h => h) (Or.inl ⟨by rfl, fun V (hV : w.grownBy V none) => by go_simp⟩) h0 ?_
      (try simp only [Act.put, List.setIfInBounds_toArray, List.set_cons_zero, List.set_cons_succ])
      refine wpAnyH_take (i := 4) (oi := { dst := some 15, op := Op.fieldAddr 97 (Operand.tmp 14) 0, type := _, pos := _, after := _, guard := _ }) (v := .pointer (some ⟨b, o + j * 34, none⟩)) rfl (by kernel_rfl) (by kernel_rfl) (by kernel_rfl) (fun _ _ _ h => h) (Or.inl ⟨by rfl, fun V (hV : w.grownBy V none) => by go_simp⟩) h0 ?_
      (try simp only [Act.put, List.setIfInBounds_toArray, List.set_cons_zero, List.set_cons_succ])
      refine wpAnyH_take (i := 5) (oi := { dst := some 16, op := Op.load 9 (Operand.tmp 15), type := _, pos := _, after := _, guard := _ }) (v := .string TN) rfl (by kernel_rfl) (by kernel_rfl) (by kernel_rfl) (fun _ _ _ h => h) (Or.inl ⟨by rfl, fun V (hV : w.grownBy V none) => by (have q9 := hV.cell k0 (by simp); go_simp)⟩) h0 ?_
      (try simp only [Act.put, List.setIfInBounds_toArray, List.set_cons_zero, List.set_cons_succ])
      refine wpAnyH_take (i := 6) (oi := { dst := some 17, op := Op.move (Operand.tmp 0), type := _, pos := _, after := _, guard := _ }) (v := .slice (some ⟨b, o, none⟩) n c) rfl (by kernel_rfl) (by kernel_rfl) (by kernel_rfl) (fun _ _ _ h => h) (Or.inl ⟨by rfl, fun V (hV : w.grownBy V none) => by go_simp⟩) h0 ?_
      (try simp only [Act.put, List.setIfInBounds_toArray, List.set_cons_zero, List.set_cons_succ])
      refine wpAnyH_take (i := 7) (oi := { dst := some 18, op := Op.move (Operand.tmp 4), type := _, pos := _, after := _, guard := _ }) (v := .int .i64 (j : Int)) rfl (by kernel_rfl) (by kernel_rfl) (by kernel_rfl) (fun _ _ _ h => h) (Or.inl ⟨by rfl, fun V (hV : w.grownBy V none) => by go_simp⟩) h0 ?_
      (try simp only [Act.put, List.setIfInBounds_toArray, List.set_cons_zero, List.set_cons_succ])
      refine wpAnyH_take (i := 8) (oi := { dst := some 19, op := Op.indexAddr 31 (Operand.tmp 17) (Operand.tmp 18), type := _, pos := _, after := _, guard := _ }) (v := .pointer (some ⟨b, o + j * 34, none⟩)) rfl (by kernel_rfl) (by kernel_rfl) (by kernel_rfl) (fun _ _ _ h => h) (Or.inl ⟨by rfl, fun V (hV : w.grownBy V none) => by go_simp⟩) h0 ?_
      (try simp only [Act.put, List.setIfInBounds_toArray, List.set_cons_zero, List.set_cons_succ])
      refine wpAnyH_take (i := 9) (oi := { dst := some 20, op := Op.fieldAddr 97 (Operand.tmp 19) 1, type := _, pos := _, after := _, guard := _ }) (v := .pointer (some ⟨b, o + (j * 34 + 1), none⟩)) rfl (by kernel_rfl) (by kernel_rfl) (by kernel_rfl) (fun _ _ _ h => h) (Or.inl ⟨by rfl, fun V (hV : w.grownBy V none) => by go_simp⟩) h0 ?_
      (try simp only [Act.put, List.setIfInBounds_toArray, List.set_cons_zero, List.set_cons_succ])
      refine wpAnyH_take (i := 10) (oi := { dst := some 21, op := Op.load 4 (Operand.tmp 20), type := _, pos := _, after := _, guard := _ }) (v := .bool D) rfl (by kernel_rfl) (by kernel_rfl) (by kernel_rfl) (fun _ _ _ h => h) (Or.inl ⟨by rfl, fun V (hV : w.grownBy V none) => by (have q9 := hV.cell k1 (by simp); go_simp)⟩) h0 ?_
      (try simp only [Act.put, List.setIfInBounds_toArray, List.set_cons_zero, List.set_cons_succ])
      refine wpAnyH_take (i := 11) (oi := { dst := some 22, op := Op.move (Operand.tmp 0), type := _, pos := _, after := _, guard := _ }) (v := .slice (some ⟨b, o, none⟩) n c) rfl (by kernel_rfl) (by kernel_rfl) (by kernel_rfl) (fun _ _ _ h => h) (Or.inl ⟨by rfl, fun V (hV : w.grownBy V none) => by go_simp⟩) h0 ?_
      (try simp only [Act.put, List.setIfInBounds_toArray, List.set_cons_zero, List.set_cons_succ])
      refine wpAnyH_take (i := 12) (oi := { dst := some 23, op := Op.move (Operand.tmp 4), type := _, pos := _, after := _, guard := _ }) (v := .int .i64 (j : Int)) rfl (by kernel_rfl) (by kernel_rfl) (by kernel_rfl) (fun _ _ _ h => h) (Or.inl ⟨by rfl, fun V (hV : w.grownBy V none) => by go_simp⟩) h0 ?_
      (try simp only [Act.put, List.setIfInBounds_toArray, List.set_cons_zero, List.set_cons_succ])
      refine wpAnyH_take (i := 13) (oi := { dst := some 24, op := Op.indexAddr 31 (Operand.tmp 22) (Operand.tmp 23), type := _, pos := _, after := _, guard := _ }) (v := .pointer (some ⟨b, o + j * 34, none⟩)) rfl (by kernel_rfl) (by kernel_rfl) (by kernel_rfl) (fun _ _ _ h => h) (Or.inl ⟨by rfl, fun V (hV : w.grownBy V none) => by go_simp⟩) h0 ?_
      (try simp only [Act.put, List.setIfInBounds_toArray, List.set_cons_zero, List.set_cons_succ])
      refine wpAnyH_take (i := 14) (oi := { dst := some 25, op := Op.fieldAddr 97 (Operand.tmp 24) 2, type := _, pos := _, after := _, guard := _ }) (v := .pointer (some ⟨b, o + (j * 34 + 2), none⟩)) rfl (by kernel_rfl) (by kernel_rfl) (by kernel_rfl) (fun _ _ _ h => h) (Or.inl ⟨by rfl, fun V (hV : w.grownBy V none) => by go_simp⟩) h0 ?_
      (try simp only [Act.put, List.setIfInBounds_toArray, List.set_cons_zero, List.set_cons_succ])
      refine wpAnyH_take (i := 15) (oi := { dst := some 26, op := Op.slice 38 (Operand.tmp 25) none none none, type := _, pos := _, after := _, guard := _ }) (v := .slice (some ⟨b, o + (j * 34 + 2), none⟩) 32 32) rfl (by kernel_rfl) (by kernel_rfl) (by kernel_rfl) (fun _ _ _ h => h) (Or.inl ⟨by rfl, fun V (hV : w.grownBy V none) => by (have q9 := hsl V; go_simp)⟩) h0 ?_
      (try simp only [Act.put, List.setIfInBounds_toArray, List.set_cons_zero, List.set_cons_succ])
      refine wpAnyH_take (i := 16) (oi := { dst := some 27, op := Op.convert 22 9 (Operand.tmp 26), type := _, pos := _, after := _, guard := _ }) (v := .string TI) rfl (by kernel_rfl) (by kernel_rfl) (by kernel_rfl) (fun _ _ _ h => h) (Or.inl ⟨by rfl, fun V (hV : w.grownBy V none) => by (have q9 := k2 V hV; go_simp)⟩) h0 ?_
      (try simp only [Act.put, List.setIfInBounds_toArray, List.set_cons_zero, List.set_cons_succ])
      refine wpAnyH_take (i := 17) (oi := { dst := some 28, op := Op.build 61 #[(0, (Operand.tmp 16)), (1, (Operand.tmp 21)), (2, (Operand.tmp 27))], type := _, pos := _, after := _, guard := _ }) (v := .agg #[.string TN, .bool D, .string TI]) rfl (by kernel_rfl) (by kernel_rfl) (by kernel_rfl) (fun _ _ _ h => h) (yieldsIf_built (by rfl) _ _ rfl _ (Eq.trans (b := Tryz.prog.built 61 [(0, .string TN), (1, .bool D), (2, .string TI)]) (by kernel_rfl) (unhide HBT))) h0 ?_
      (try simp only [Act.put, List.setIfInBounds_toArray, List.set_cons_zero, List.set_cons_succ])
      refine wpAnyH_ready (rs := [18]) (by kernel_rfl) (by simp) ?_
      refine AllReadyH.cons (o := { dst := some 29, op := Op.buildSlice 34 1 #[(0, (Operand.tmp 28))], type := _, pos := _, after := _, guard := _ }) rfl (fun K9 hK9 => ?_) AllReadyH.nil
      obtain ⟨w5, hw5, hB5, g5⟩ : ∃ W, W = wr.drew.alloc (.cells #[.string TN, .bool D, .string TI] 61) ∧ Blk W wr.drew.heap.size 61 [.string TN, .bool D, .string TI] ∧ wr.drew.grownBy W none := box_new wr.drew _ _
      refine step_build1 (by rfl) _ _ rfl _ _ rfl (hbs wr.drew) ?_
      rw [← hw5]
      have G5 := tn h0 g5
      refine hK9.out _ _ G5 (fun _ => ?_)
      clear hK9 K9 hw5
      (try simp only [Act.put, List.setIfInBounds_toArray, List.set_cons_zero, List.set_cons_succ])
      have ho5 := own_rent hod g5 (fun x e => by cases e)
      refine wpAnyH_ready (rs := [19]) (by kernel_rfl) (by simp) ?_
      refine AllReadyH.cons (o := { dst := some 30, op := Op.call { callee := Callee.builtin Builtin.append, args := #[(Operand.tmp 11), (Operand.tmp 29)], argTypes := #[34, 34] }, type := _, pos := _, after := _, guard := _ }) rfl (fun K9 hK9 => ?_) AllReadyH.nil
      refine step_append_rent (by rfl) _ _ rfl w.heap.size u3 _ _ rfl ho5 _ _ hB5 rfl (by intro u hu; simp only [List.mem_cons, List.not_mem_nil, or_false] at hu; rcases hu with rfl | rfl | rfl <;> rfl) rfl hj9 G5.size ?_
      intro v6 w6 ho6 g6
      have G6 : w.grownBy w6 none := gb_trans G5 g6 (fun x e => Or.inl (ho5.lt x e).1)
      refine hK9.out _ _ G6 (fun _ => ?_)
      clear hK9 K9 g6 ho5 hB5 g5
      (try simp only [Act.put, List.setIfInBounds_toArray, List.set_cons_zero, List.set_cons_succ])
      refine wpAnyH_take (i := 20) (oi := { dst := some 3, op := Op.assign (Operand.tmp 30), type := _, pos := _, after := _, guard := _ }) (v := v6) rfl (by kernel_rfl) (by kernel_rfl) (by kernel_rfl) (fun _ _ _ h => h) (Or.inl ⟨by rfl, fun V (hV : w.grownBy V none) => by go_simp⟩) G6 ?_
      (try simp only [Act.put, List.setIfInBounds_toArray, List.set_cons_zero, List.set_cons_succ])
      refine wpAnyH_done (by kernel_rfl) ?_ _
      refine NoPanic.normal ?_
      go_wp2
      go_roundw
      case rel =>
        refine ⟨j + 1, by go_num, by omega, ?_, G6⟩
        rw [unhide HNW]
        exact ho6
      case measure => simp [intOf]; omega
    · have hjn : j = es.length := by have := unhide HL; omega
      have hln := unhide HL
      rw [hjn, List.take_of_length_le (Nat.le_refl _), ← hln] at ho
      have HO := hide ho
      clear hjn ho hln
      go_wp2
      go_ret
      exact ⟨_, rfl, unhide HO, hg⟩

set_option maxRecDepth 100000 in
set_option maxHeartbeats 4000000 in
theorem lchange_any (w : World) (cg : ChgL) (ao : Option Addr) (c : Nat) (hP : Ids w ao c cg.pars) (ht : cg.tree.length = 32) (hm : cg.pars.length ≤ 100000) : Calls Tryz.prog 15 #[.agg (chC cg ao c).toArray] w fun e w' => ∃ po pc, e = .returned (.agg (rcC cg po pc).toArray) ∧ Stl w' w.heap.size po pc cg.pars ∧ w.grownBy w' none := by
  obtain ⟨q1, q2, q3, q4⟩ := chC_at cg ao c ht
  obtain ⟨C, hC⟩ : ∃ C, C = chC cg ao c := ⟨_, rfl⟩
  rw [← hC] at q1 q2 q3 q4 ⊢
  obtain ⟨Z, hZ⟩ : ∃ Z : List Value, Z = rcC ⟨[], [], 0, [], []⟩ none 0 := ⟨_, rfl⟩
  have hzv : ∀ w, (zeroValue 47).run Tryz.prog w = .ok (.agg Z.toArray) w := fun w => by rw [hZ]; kernel_rfl
  have hZl : Z.toArray.size = 5 := by rw [hZ]; rfl
  obtain ⟨W0, hW0, hB0, g0⟩ := box_new w 42 C
  obtain ⟨W1, hW1, hB1, g1⟩ := box_new W0 47 Z
  have hs0 : W0.heap.size = w.heap.size + 1 := by rw [hW0]; simp
  rw [hs0] at hB1
  have hBo := hB0.kept g1 (by simp)
  have hW : W1 = (w.alloc (.cells C.toArray 42)).alloc (.cells Z.toArray 47) := by rw [hW1, hW0]
  obtain ⟨TT, hTT⟩ : ∃ T, T = str cg.tree := ⟨_, rfl⟩
  obtain ⟨TA, hTA⟩ : ∃ T, T = str cg.author := ⟨_, rfl⟩
  obtain ⟨TX, hTX⟩ : ∃ T, T = str cg.text := ⟨_, rfl⟩
  obtain ⟨n, hn⟩ : ∃ n, n = cg.pars.length := ⟨_, rfl⟩
  have hcell : ∀ V, Blk V w.heap.size 42 C → V.cell? ⟨w.heap.size, 32, none⟩ = some (.slice ao n c) ∧ V.cell? ⟨w.heap.size, 33, none⟩ = some (.int .u64 (cg.time : Int)) ∧ V.cell? ⟨w.heap.size, 34, none⟩ = some (.string TA) ∧ V.cell? ⟨w.heap.size, 35, none⟩ = some (.string TX) ∧ (convert 22 9 (.slice (some ⟨w.heap.size, 0, none⟩) 32 32)).run Tryz.prog V = .ok (.string TT) V := fun V h => by
    refine ⟨by rw [h.cell 32, q1, hn], by rw [h.cell 33, q2], by rw [h.cell 34, q3, hTA], by rw [h.cell 35, q4, hTX], ?_⟩
    have h1 := blk_all h
    rw [hC] at h1
    have h2 := conv_str (range_bts (ch_tree h1) (by rw [ht]; unfold maxLen; omega))
    rwa [ht, ← hTT] at h2
  have hsl := slice_wid w.heap.size 0
  have ci : ∀ V, w.grownBy V none → Calls Tryz.prog 20 #[.slice ao n c] V fun e w' => ∃ v, e = .returned v ∧ Stg w' V.heap.size v cg.pars ∧ V.grownBy w' none := fun V gV => by
    have := lids_any V ao c cg.pars (hP.none gV) hm
    rwa [← hn] at this
  have hbt : ∀ po pc, Tryz.prog.built 47 [(0, .string TT), (1, .slice po n pc), (2, .int .u64 (cg.time : Int)), (3, .string TA), (4, .string TX)] = some (rcC cg po pc).toArray := fun po pc => by rw [hTT, hTA, hTX, hn]; kernel_rfl
  have HW := hide hW
  have HCE := hide hcell
  have HBT := hide hbt
  have HN := hide hn
  have h0 : w.grownBy W1.drew none ∧ Blk W1.drew w.heap.size 42 C := ⟨gb_drew (tn g0 g1), hBo.drew⟩
  have hB1d := hB1.drew
  obtain ⟨tm, htm⟩ : ∃ t : Int, t = (cg.time : Int) := ⟨_, rfl⟩
  rw [← htm] at HCE HBT
  clear hW hW0 hW1 hB0 hB1 g0 g1 hs0 hBo hC hZ hTT hTA hTX hcell hbt q1 q2 q3 q4 ht hP hm hn htm
  go_enter Tryz.func15, Tryz.ntmps15
  go_upto_region 1 with (rw [← unhide HW])
  refine wp_region_noPanic ?_
  refine wp_region_held_drew (S := fun V => w.grownBy V none ∧ Blk V w.heap.size 42 C) (by kernel_rfl) h0 (fun _ => ?_)
  refine wpAnyH_take (i := 0) (oi := { dst := some 3, op := Op.fieldAddr 42 (Operand.tmp 1) 0, type := _, pos := _, after := _, guard := _ }) (v := .pointer (some ⟨w.heap.size, 0, none⟩)) rfl (by kernel_rfl) (by kernel_rfl) (by kernel_rfl) (fun _ _ _ h => h) (Or.inl ⟨by rfl, fun V (hV : w.grownBy V none ∧ Blk V w.heap.size 42 C) => by go_simp⟩) h0 ?_
  (try simp only [Act.put, List.setIfInBounds_toArray, List.set_cons_zero, List.set_cons_succ])
  refine wpAnyH_take (i := 1) (oi := { dst := some 4, op := Op.slice 38 (Operand.tmp 3) none none none, type := _, pos := _, after := _, guard := _ }) (v := .slice (some ⟨w.heap.size, 0, none⟩) 32 32) rfl (by kernel_rfl) (by kernel_rfl) (by kernel_rfl) (fun _ _ _ h => h) (Or.inl ⟨by rfl, fun V (hV : w.grownBy V none ∧ Blk V w.heap.size 42 C) => by (have q9 := hsl V; go_simp)⟩) h0 ?_
  (try simp only [Act.put, List.setIfInBounds_toArray, List.set_cons_zero, List.set_cons_succ])
  refine wpAnyH_take (i := 2) (oi := { dst := some 5, op := Op.convert 22 9 (Operand.tmp 4), type := _, pos := _, after := _, guard := _ }) (v := .string TT) rfl (by kernel_rfl) (by kernel_rfl) (by kernel_rfl) (fun _ _ _ h => h) (Or.inl ⟨by rfl, fun V (hV : w.grownBy V none ∧ Blk V w.heap.size 42 C) => by (have q9 := (unhide HCE V hV.2).2.2.2.2; go_simp)⟩) h0 ?_
  (try simp only [Act.put, List.setIfInBounds_toArray, List.set_cons_zero, List.set_cons_succ])
  refine wpAnyH_take (i := 3) (oi := { dst := some 6, op := Op.fieldAddr 42 (Operand.tmp 1) 1, type := _, pos := _, after := _, guard := _ }) (v := .pointer (some ⟨w.heap.size, 32, none⟩)) rfl (by kernel_rfl) (by kernel_rfl) (by kernel_rfl) (fun _ _ _ h => h) (Or.inl ⟨by rfl, fun V (hV : w.grownBy V none ∧ Blk V w.heap.size 42 C) => by go_simp⟩) h0 ?_
  (try simp only [Act.put, List.setIfInBounds_toArray, List.set_cons_zero, List.set_cons_succ])
  refine wpAnyH_take (i := 4) (oi := { dst := some 7, op := Op.load 39 (Operand.tmp 6), type := _, pos := _, after := _, guard := _ }) (v := .slice ao n c) rfl (by kernel_rfl) (by kernel_rfl) (by kernel_rfl) (fun _ _ _ h => h) (Or.inl ⟨by rfl, fun V (hV : w.grownBy V none ∧ Blk V w.heap.size 42 C) => by (have q9 := (unhide HCE V hV.2).1; go_simp)⟩) h0 ?_
  (try simp only [Act.put, List.setIfInBounds_toArray, List.set_cons_zero, List.set_cons_succ])
  refine wpAnyH_take (i := 6) (oi := { dst := some 9, op := Op.fieldAddr 42 (Operand.tmp 1) 2, type := _, pos := _, after := _, guard := _ }) (v := .pointer (some ⟨w.heap.size, 33, none⟩)) rfl (by kernel_rfl) (by kernel_rfl) (by kernel_rfl) (fun _ _ _ h => h) (Or.inl ⟨by rfl, fun V (hV : w.grownBy V none ∧ Blk V w.heap.size 42 C) => by go_simp⟩) h0 ?_
  (try simp only [Act.put, List.setIfInBounds_toArray, List.set_cons_zero, List.set_cons_succ])
  refine wpAnyH_take (i := 7) (oi := { dst := some 10, op := Op.load 40 (Operand.tmp 9), type := _, pos := _, after := _, guard := _ }) (v := .int .u64 tm) rfl (by kernel_rfl) (by kernel_rfl) (by kernel_rfl) (fun _ _ _ h => h) (Or.inl ⟨by rfl, fun V (hV : w.grownBy V none ∧ Blk V w.heap.size 42 C) => by (have q9 := (unhide HCE V hV.2).2.1; go_simp)⟩) h0 ?_
  (try simp only [Act.put, List.setIfInBounds_toArray, List.set_cons_zero, List.set_cons_succ])
  refine wpAnyH_take (i := 8) (oi := { dst := some 11, op := Op.fieldAddr 42 (Operand.tmp 1) 3, type := _, pos := _, after := _, guard := _ }) (v := .pointer (some ⟨w.heap.size, 34, none⟩)) rfl (by kernel_rfl) (by kernel_rfl) (by kernel_rfl) (fun _ _ _ h => h) (Or.inl ⟨by rfl, fun V (hV : w.grownBy V none ∧ Blk V w.heap.size 42 C) => by go_simp⟩) h0 ?_
  (try simp only [Act.put, List.setIfInBounds_toArray, List.set_cons_zero, List.set_cons_succ])
  refine wpAnyH_take (i := 9) (oi := { dst := some 12, op := Op.load 9 (Operand.tmp 11), type := _, pos := _, after := _, guard := _ }) (v := .string TA) rfl (by kernel_rfl) (by kernel_rfl) (by kernel_rfl) (fun _ _ _ h => h) (Or.inl ⟨by rfl, fun V (hV : w.grownBy V none ∧ Blk V w.heap.size 42 C) => by (have q9 := (unhide HCE V hV.2).2.2.1; go_simp)⟩) h0 ?_
  (try simp only [Act.put, List.setIfInBounds_toArray, List.set_cons_zero, List.set_cons_succ])
  refine wpAnyH_take (i := 10) (oi := { dst := some 13, op := Op.fieldAddr 42 (Operand.tmp 1) 4, type := _, pos := _, after := _, guard := _ }) (v := .pointer (some ⟨w.heap.size, 35, none⟩)) rfl (by kernel_rfl) (by kernel_rfl) (by kernel_rfl) (fun _ _ _ h => h) (Or.inl ⟨by rfl, fun V (hV : w.grownBy V none ∧ Blk V w.heap.size 42 C) => by go_simp⟩) h0 ?_
  (try simp only [Act.put, List.setIfInBounds_toArray, List.set_cons_zero, List.set_cons_succ])
  refine wpAnyH_take (i := 11) (oi := { dst := some 14, op := Op.load 9 (Operand.tmp 13), type := _, pos := _, after := _, guard := _ }) (v := .string TX) rfl (by kernel_rfl) (by kernel_rfl) (by kernel_rfl) (fun _ _ _ h => h) (Or.inl ⟨by rfl, fun V (hV : w.grownBy V none ∧ Blk V w.heap.size 42 C) => by (have q9 := (unhide HCE V hV.2).2.2.2.1; go_simp)⟩) h0 ?_
  (try simp only [Act.put, List.setIfInBounds_toArray, List.set_cons_zero, List.set_cons_succ])
  refine wpAnyH_ready (rs := [5]) (by kernel_rfl) (by simp) ?_
  refine AllReadyH.cons (o := { dst := some 8, op := Op.call { callee := Callee.value (Operand.func 20), args := #[(Operand.tmp 7)], argTypes := #[39] }, type := _, pos := _, after := _, guard := _ }) rfl (fun K9 hK9 => ?_) AllReadyH.nil
  go_simp
  go_at_call 20
  refine (ci _ h0.1).mono ?_
  rintro e w2 ⟨v2, rfl, hS2, g2⟩
  have h2 : w.grownBy w2 none ∧ Blk w2 w.heap.size 42 C := ⟨tn h0.1 g2, h0.2.kept g2 (by simp)⟩
  go_wp2_with fail
  refine hK9.out _ _ h2 (fun _ => ?_)
  clear hK9 K9
  (try simp only [Act.put, List.setIfInBounds_toArray, List.set_cons_zero, List.set_cons_succ])
  obtain ⟨po, pc, hv2, hStl2⟩ := hS2.open
  rw [← unhide HN] at hv2
  subst hv2
  have hB2 := hB1d.kept g2 (by simp)
  obtain ⟨RC, hRC⟩ : ∃ R, R = rcC cg po pc := ⟨_, rfl⟩
  have hbt := unhide HBT po pc
  rw [← hRC] at hbt
  have hRl : RC.toArray.size = 5 := by rw [hRC]; rfl
  have hRo : RC.toArray.all (·.oneCell') = true := by rw [hRC]; exact all_oneCell_toArray (rcC_one _ _ _)
  have hiR : (Tryz.prog.info? 47).map (·.size) = some RC.toArray.size := by rw [hRl]; exact info_rchg
  have hZR : Z.toArray.size = RC.toArray.size := by rw [hZl, hRl]
  have HIR := hide hiR
  have HZR := hide hZR
  have HRO := hide hRo
  have HRC := hide hRC
  have HBT2 := hide hbt
  clear hRl hRo hiR hZR hRC hbt
  refine wpAnyH_take (i := 12) (oi := { dst := some 15, op := Op.build 47 #[(0, (Operand.tmp 5)), (1, (Operand.tmp 8)), (2, (Operand.tmp 10)), (3, (Operand.tmp 12)), (4, (Operand.tmp 14))], type := _, pos := _, after := _, guard := _ }) (v := .agg RC.toArray) rfl (by kernel_rfl) (by kernel_rfl) (by kernel_rfl) (fun _ _ _ h => h) (yieldsIf_built (by rfl) _ _ rfl _ (Eq.trans (b := Tryz.prog.built 47 [(0, .string TT), (1, .slice po n pc), (2, .int .u64 tm), (3, .string TA), (4, .string TX)]) (by kernel_rfl) (unhide HBT2))) h2 ?_
  (try simp only [Act.put, List.setIfInBounds_toArray, List.set_cons_zero, List.set_cons_succ])
  have h6 : w.grownBy (w2.setRow (w.heap.size + 1) RC.toArray) none ∧ Blk (w2.setRow (w.heap.size + 1) RC.toArray) w.heap.size 42 C := ⟨gb_row h2.1 _ (Or.inl (Nat.le_succ _)), h2.2.row_other _ _ (by omega)⟩
  have hS3 : Stg (w2.setRow (w.heap.size + 1) RC.toArray) w.heap.size (.slice po n pc) cg.pars := own_row_id (own_low hS2 h0.1.size) hB2 (by decide) RC.toArray
  have hStl : Stl (w2.setRow (w.heap.size + 1) RC.toArray) w.heap.size po pc cg.pars := by
    obtain ⟨a1, c1, e1, e2⟩ := hS3.open
    injection e1 with e3 e4 e5
    subst e3 e5
    exact e2
  refine wpAnyH_ready (rs := [13]) (by kernel_rfl) (by simp) ?_
  refine AllReadyH.cons (o := { dst := none, op := Op.store 47 (Operand.tmp 2) (Operand.tmp 15), type := _, pos := _, after := _, guard := _ }) rfl (fun K9 hK9 => ?_) AllReadyH.nil
  rw [if_pos (by rfl)]
  refine wp_store_row _ _ _ rfl (w.heap.size + 1) RC.toArray rfl rfl _ _ hB2 (unhide HIR) (unhide HZR) (unhide HRO) ?_
  refine hK9.out _ _ h6 (fun _ => ?_)
  clear hK9 K9 h6
  (try simp only [Act.put])
  refine wpAnyH_done (by kernel_rfl) ?_ _
  refine NoPanic.normal ?_
  go_wp2
  refine bodyPost_ret (results_cell_row rfl _ _ _ _ _ _ _ rfl (hB2.row RC) Tryz.underlying47 rfl (unhide HIR)) rfl ?_
  refine ⟨po, pc, by rw [unhide HRC], ?_, gb_row h2.1 _ (Or.inl (Nat.le_succ _))⟩
  exact hStl

end Go.Proofs.YtcemdlcimhoeeaaGreatDoor

/- What the document's Links answers. Of data of at most 100000 bytes. -/
namespace Go.Proofs.YtcemdlcimhoeeaaGreatDoor
open Go.RowKit

theorem rt_links1 (d : List UInt8) : linksL 1 d = [] := by
  unfold linksL
  by_cases h : checkL 1 d ≠ 0
  · rw [if_pos h]
  · rw [if_neg h]; rfl
theorem rt_links2 {d : List UInt8} (h : checkL 2 d = 0) : linksL 2 d = (rtT 2 d).2.map (·.id) := by
  unfold linksL
  rw [if_neg (by rw [h]; simp)]
  have hs : (treeOf d).isSome := by
    unfold checkL at h
    rw [if_neg (by omega)] at h
    by_cases h2 : 16384 < d.length
    · rw [if_pos h2] at h; exact absurd h (by decide)
    · rw [if_neg h2, if_pos rfl] at h
      unfold errO at h
      by_cases h3 : (treeOf d).isSome
      · exact h3
      · rw [if_neg h3] at h; exact absurd h (by decide)
  unfold treeOf at hs ⊢
  by_cases h4 : ofTree (readT d) = (0, d)
  · simp [rtT, h4]
  · rw [if_neg h4] at hs; exact absurd hs (by decide)
theorem rt_links3 {d : List UInt8} (h : checkL 3 d = 0) : linksL 3 d = (rtC 3 d).2.tree :: (rtC 3 d).2.pars := by
  unfold linksL
  rw [if_neg (by rw [h]; simp)]
  have hs : (chgOf d).isSome := by
    unfold checkL at h
    rw [if_neg (by omega)] at h
    by_cases h2 : 16384 < d.length
    · rw [if_pos h2] at h; exact absurd h (by decide)
    · rw [if_neg h2, if_neg (by decide), if_pos rfl] at h
      unfold errO at h
      by_cases h3 : (chgOf d).isSome
      · exact h3
      · rw [if_neg h3] at h; exact absurd h (by decide)
  unfold chgOf at hs ⊢
  by_cases h4 : ofChg (readC d) = (0, d)
  · simp [rtC, h4]
  · rw [if_neg h4] at hs; exact absurd hs (by decide)
theorem rt_links4 {d : List UInt8} (h : checkL 4 d = 0) : linksL 4 d = [(rtM 4 d).2.target] := by
  unfold linksL
  rw [if_neg (by rw [h]; simp)]
  have hs : (mrkOf d).isSome := by
    unfold checkL at h
    rw [if_neg (by omega)] at h
    by_cases h2 : 16384 < d.length
    · rw [if_pos h2] at h; exact absurd h (by decide)
    · rw [if_neg h2, if_neg (by decide), if_neg (by decide), if_pos rfl] at h
      unfold errO at h
      by_cases h3 : (mrkOf d).isSome
      · exact h3
      · rw [if_neg h3] at h; exact absurd h (by decide)
  unfold mrkOf at hs ⊢
  by_cases h4 : ofMrk (readM d) = (0, d)
  · simp [rtM, h4]
  · rw [if_neg h4] at hs; exact absurd hs (by decide)

/-- 'append(own, x...)', own and x rows of strings of the call's own. -/
theorem step_append_strs {w : World} {ops : Array Oper} {o : Oper} {a : Act} {K : Act → World → Prop} {Q : Exit → Act → World → Prop} {E : Prop} (hw : Region.wanted o (yielded ops a.tmps) = true) (s x : Operand)
    (ho : o.op = .call { callee := .builtin .append, args := #[s, x], argTypes := #[45, 45] })
    (base base2 : Nat) (v v2 : Value) (L M : List (List UInt8)) (hs : a.eval s = v) (hown : Stg w base v L) (hx : a.eval x = v2) (h2 : Stg w base2 v2 M) (hn : L.length + M.length ≤ 1000000) (hbase : base ≤ w.heap.size)
    (h : ∀ v' w', Stg w' base v' (L ++ M) → w.grownBy w' v.ownBlock → K (a.put o.dst v') w') :
    if Region.wanted o (yielded ops a.tmps) = true then Oper.wp Tryz.prog o a w K Q else E := by
  rw [if_pos hw]
  obtain ⟨i0, hi, hz0, hz1, hz2⟩ := info_parts info_stg
  rcases h2.2 with ⟨e1, e2⟩ | ⟨g, cap, cur, e1, hg, hh, h3, h4, h5, h6⟩
  · have hM : M = [] := List.eq_nil_of_length_eq_zero e2
    subst hM
    rw [e1] at hx
    have hrun := run_append_owned_none (P := Tryz.prog) (w := w) base 45 o.type 9 i0 1 Tryz.underlying45 hi v L.length (L.map stv) hown
    unfold Oper.wp
    simp [execOp, ho, resolve, invoke, builtin, hs, hx, hrun, Result.andThen]
    exact h v w (by simpa using hown) (gb_refl _ _)
  · rw [e1] at hx
    exact wp_append_own w s x 45 ho base 9 i0 (.string ⟨#[]⟩) 1 16 Tryz.underlying45 hi hz0 hz1 hz2 rfl (by decide) v L.length (L.map stv) hs hown ⟨g, 0, none⟩ M.length cap (M.map stv) hx (by simp)
      (fun j u hj => by
        have hj2 : j < M.length := by
          have := (List.getElem?_eq_some_iff.1 hj).1
          simpa using this
        have h7 : (cur.toList.take (M.length * 1))[j]? = (M.map stv)[j]? := by rw [h6]
        rw [List.getElem?_take_of_lt (by omega), hj] at h7
        rw [Addr.add_mid]
        simp [World.cell?, hh] at h7 ⊢
        exact h7)
      (stv_one M) (by unfold maxLen; omega) (by omega) hbase
      (fun v' w' q1 q2 _ => h v' w' (by unfold Stg; simpa using q1) q2)

theorem one_str {w : World} {p base : Nat} {y : List UInt8} (h : Blk w p 9 [.string (str y)]) (hp : base ≤ p) : Stg w base (.slice (some ⟨p, 0, none⟩) 1 1) [y] := by
  exact ⟨rfl, Or.inr ⟨p, 1, #[.string (str y)], rfl, hp, h, Nat.le_refl _, by unfold maxLen; omega, rfl, rfl⟩⟩
theorem zero_rchg : ∃ Z : Array Value, Z.size = 5 ∧ ∀ w, (zeroValue 47).run Tryz.prog w = .ok (.agg Z) w := ⟨_, rfl, fun w => (by kernel_rfl : (zeroValue 47).run Tryz.prog w = .ok (.agg #[.string ⟨#[]⟩, .slice none 0 0, .int .u64 0, .string ⟨#[]⟩, .string ⟨#[]⟩]) w)⟩
theorem zero_rmrk : ∃ Z : Array Value, Z.size = 3 ∧ ∀ w, (zeroValue 55).run Tryz.prog w = .ok (.agg Z) w := ⟨_, rfl, fun w => (by kernel_rfl : (zeroValue 55).run Tryz.prog w = .ok (.agg #[.string ⟨#[]⟩, .string ⟨#[]⟩, .string ⟨#[]⟩]) w)⟩
set_option maxRecDepth 100000 in
set_option maxHeartbeats 8000000 in
theorem rlinks_any (w : World) (k : Int) (d : List UInt8) (hd : d.length ≤ 100000) : Calls Tryz.prog 22 #[.agg #[.int .i64 k, .string (str d)]] w fun e w' => ∃ v, e = .returned v ∧ Stg w' w.heap.size v (linksL k d) ∧ w.grownBy w' none := by
  obtain ⟨W0, hW0, hB0, g0⟩ : ∃ W, W = w.alloc (.cells #[.int .i64 k, .string (str d)] 29) ∧ Blk W w.heap.size 29 [.int .i64 k, .string (str d)] ∧ w.grownBy W none := box_new w _ _
  have c0 := hB0.cell 0
  have c1 := hB0.cell 1
  simp only [List.getElem?_cons_zero, List.getElem?_cons_succ] at c0 c1
  have cc := rcheck_any W0 k d hd
  have ct : ∀ V : World, _ := fun V => rtreeOf_any V k d hd
  have cg : ∀ V : World, _ := fun V => rchangeOf_any V k d hd
  have cm : ∀ V : World, _ := fun V => rmarkOf_any V k d hd
  obtain ⟨SD, hSD⟩ : ∃ S, S = str d := ⟨_, rfl⟩
  rw [← hSD] at c1 cc hW0 ⊢
  simp only [← hSD] at ct cg cm
  have hs0 : W0.heap.size = w.heap.size + 1 := by rw [hW0]; simp
  have HW := hide hW0
  clear hW0 hB0 hSD
  by_cases hch : checkL k d = 0
  · rw [hch] at cc
    have h5 : k = 1 ∨ k = 2 ∨ k = 3 ∨ k = 4 := by
      unfold checkL at hch
      by_cases h1 : k < 1 ∨ 4 < k
      · rw [if_pos h1] at hch; exact absurd hch (by decide)
      · omega
    rcases h5 with rfl | rfl | rfl | rfl
    · rw [rt_links1]
      clear ct cg cm hch hd
      go_enter Tryz.func22, Tryz.ntmps22
      go_wp2_with (rw [← unhide HW])
      refine cc.mono ?_
      rintro e w2 ⟨rfl, g2⟩
      have d0 := g2.cell c0 (by simp)
      clear cc c0 c1
      go_wp2
      go_ret
      exact ⟨_, rfl, Stg.nil _ _, tn g0 g2⟩
    · have hln : (rtT 2 d).2.length ≤ 100000 := by
        unfold rtT
        rw [if_pos rfl]
        by_cases h4 : ofTree (readT d) = (0, d)
        · rw [if_pos h4]; have := (ofTree_ok h4).2.1; simp only; omega
        · rw [if_neg h4]; simp
      rw [rt_links2 hch]
      obtain ⟨⟨y0, es⟩, hRT⟩ : ∃ R, R = rtT 2 d := ⟨_, rfl⟩
      simp only [← hRT] at ct hln ⊢
      clear cg cm hch hd hRT
      go_enter Tryz.func22, Tryz.ntmps22
      go_wp2_with (rw [← unhide HW])
      refine cc.mono ?_
      rintro e w2 ⟨rfl, g2⟩
      have d0 := g2.cell c0 (by simp)
      have d1 := g2.cell c1 (by simp)
      clear cc c0 c1
      go_wp2_with fail
      refine (ct w2).mono ?_
      rintro e w3 ⟨v3, y3, rfl, _, ho3, g3⟩
      obtain ⟨ao, c, rfl, hE⟩ := Rens.own ho3
      have G3 := tn (tn g0 g2) g3
      have HE := hide hE
      obtain ⟨n, hn⟩ : ∃ n, n = es.length := ⟨_, rfl⟩
      rw [← hn]
      have HN := hide hn
      have hn9 : n ≤ 100000 := by omega
      clear d0 d1 ct ho3 hE g2 g3 hn hln
      go_wp2
      go_loopw [3, 6] (fun v i wr => ∃ j : Nat, i = .int .i64 j ∧ j ≤ n ∧ Stg wr w3.heap.size v ((es.take j).map (·.id)) ∧ w3.grownBy wr none) (fun _ i _ => n - (intOf i).toNat)
      case atStart => exact ⟨0, rfl, Nat.zero_le _, Stg.nil _ _, gb_refl _ _⟩
      case round =>
        obtain ⟨j, rfl, hj, ho, hg⟩ := hrel
        by_cases hlt : j < n
        · have hlt' : j < es.length := by have := unhide HN; omega
          obtain ⟨b, o, hao, hrow⟩ := (unhide HE).at j hlt'
          have hr := range_kept (hrow j hlt') hg (by simp)
          have hc2 : wr.cell? ⟨b, o + (j * 3 + 2), none⟩ = some (.string (str es[j].id)) := by
            have := hr 2 _ rfl
            rwa [Nat.add_assoc] at this
          have hc2' : wr.cell? ⟨b, o + j * 3 + 2, none⟩ = some (.string (str es[j].id)) := by rw [Nat.add_assoc]; exact hc2
          have hnew : (es.take (j + 1)).map (·.id) = (es.take j).map (·.id) ++ [es[j].id] := by rw [List.take_succ_eq_append_getElem hlt', List.map_append]; rfl
          obtain ⟨E, hEE⟩ : ∃ E, E = es[j].id := ⟨_, rfl⟩
          rw [← hEE] at hc2 hc2' hnew
          have hbs := bs_str (str E) wr
          obtain ⟨W5, hW5, hB5, g5⟩ : ∃ W, W = wr.alloc (.cells #[.string (str E)] 9) ∧ Blk W wr.heap.size 9 [.string (str E)] ∧ wr.grownBy W none := box_new wr _ _
          have hcE : W5.cell? ⟨wr.heap.size, 0, none⟩ = some (stv E) := by rw [hB5.cell 0]; rfl
          obtain ⟨TE, hTE⟩ : ∃ T, T = str E := ⟨_, rfl⟩
          rw [← hTE] at hc2 hc2' hbs hW5
          have ho5 := ho.kept g5
          have G5 := tn hg g5
          have hl9 : ((es.take j).map (·.id)).length ≤ 1000000 := by rw [List.length_map, List.length_take]; omega
          have HW5 := hide hW5
          have HBS := hide hbs
          have HNW := hide hnew
          have HO5 := hide ho5
          have HG5 := hide G5
          have HCE := hide hcE
          clear hrow hEE hr hnew hW5 hB5 g5 hTE hbs ho hg ho5 G5 hcE hlt'
          subst hao
          go_wp2_with (first
            | (refine wpList_build1 rfl 45 _ rfl (.string TE) _ rfl (unhide HBS) ?_; rw [← unhide HW5])
            | (refine wpList_append_str rfl _ _ rfl w3.heap.size _ _ E _ rfl (unhide HO5) rfl (unhide HCE) hl9 (unhide HG5).size ?_; intro v6 w6 ho6 g6; have HO6 := hide ho6; have HG6 := hide (gb_trans (unhide HG5) g6 (fun x e => Or.inl ((unhide HO5).lt x e).1)); clear ho6 g6 HO5 HG5))
          go_roundw
          case rel =>
            refine ⟨j + 1, by go_num, by omega, ?_, unhide HG6⟩
            rw [unhide HNW]
            exact unhide HO6
          case measure => simp [intOf]; omega
        · have hjn : j = es.length := by have := unhide HN; omega
          rw [hjn, List.take_of_length_le (Nat.le_refl _)] at ho
          have HO := hide ho
          clear hjn ho
          go_wp2
          go_ret
          exact ⟨_, rfl, own_low (unhide HO) G3.size, tn G3 hg⟩
    · have hln : (rtC 3 d).2.pars.length ≤ 4 := by
        unfold rtC
        rw [if_pos rfl]
        by_cases h4 : ofChg (readC d) = (0, d)
        · rw [if_pos h4]; exact (ofChg_ok h4).2.1
        · rw [if_neg h4]; simp
      rw [rt_links3 hch]
      obtain ⟨⟨y0, cg0⟩, hRT⟩ : ∃ R, R = rtC 3 d := ⟨_, rfl⟩
      simp only [← hRT] at cg hln ⊢
      obtain ⟨Z, hZl, hzv⟩ := zero_rchg
      clear ct cm hch hd hRT
      go_enter Tryz.func22, Tryz.ntmps22
      go_wp2_with (rw [← unhide HW])
      refine cc.mono ?_
      rintro e w2 ⟨rfl, g2⟩
      have d0 := g2.cell c0 (by simp)
      have d1 := g2.cell c1 (by simp)
      clear cc c0 c1
      go_wp2_with fail
      refine (cg w2).mono ?_
      rintro e w3 ⟨po, pc, y3, rfl, _, hS3, g3⟩
      have G3 := tn (tn g0 g2) g3
      obtain ⟨RC, hRC⟩ : ∃ R, R = rcC cg0 po pc := ⟨_, rfl⟩
      rw [← hRC]
      have hRl : RC.toArray.size = 5 := by rw [hRC]; rfl
      have hRo : RC.toArray.all (·.oneCell') = true := by rw [hRC]; exact all_oneCell_toArray (rcC_one _ _ _)
      have hiR : (Tryz.prog.info? 47).map (·.size) = some RC.toArray.size := by rw [hRl]; exact info_rchg3
      have hZR : Z.size = RC.toArray.size := by rw [hZl, hRl]
      obtain ⟨W4, hW4, hB4, g4⟩ := row_new w3 47 Z RC
      have G4 := tn G3 g4
      have hS4 := hS3.kept g4
      have e0 := hB4.cell 0
      have e1 := hB4.cell 1
      rw [hRC] at e0 e1
      simp only [rcC, List.getElem?_cons_zero, List.getElem?_cons_succ] at e0 e1
      obtain ⟨TT, hTT⟩ : ∃ T, T = str cg0.tree := ⟨_, rfl⟩
      rw [← hTT] at e0
      obtain ⟨n, hn⟩ : ∃ n, n = cg0.pars.length := ⟨_, rfl⟩
      rw [← hn] at e1
      have HIR := hide hiR
      have HZR := hide hZR
      have HRO := hide hRo
      have HW4 := hide hW4
      have HS4 := hide hS4
      have HTT := hide hTT
      have HN := hide hn
      clear cg d0 d1 hRC hRl hRo hiR hZR hW4 hB4 hS4 hS3 g2 g3 g4 hTT hn hZl
      go_upto_region 13 with (first
        | (refine wpList_store_row rfl 47 _ _ rfl w3.heap.size RC.toArray rfl rfl _ _ (heap_alloc_new _ _) (unhide HIR) (unhide HZR) (unhide HRO) ?_; rw [← unhide HW4]))
      have h0 : W4.grownBy W4.drew none := gb_drew (gb_refl _ _)
      refine wp_region_noPanic ?_
      refine wp_region_held_drew (S := fun V => W4.grownBy V none) (by kernel_rfl) h0 (fun _ => ?_)
      obtain ⟨WD, hWD⟩ : ∃ V, V = W4.drew := ⟨_, rfl⟩
      rw [← hWD]
      rw [← hWD] at h0
      clear hWD
      refine wpAnyH_take (i := 0) (oi := { dst := some 44, op := Op.move (Operand.tmp 3), type := _, pos := _, after := _, guard := _ }) (v := .slice none 0 0) rfl (by kernel_rfl) (by kernel_rfl) (by kernel_rfl) (fun _ _ _ h => h) (Or.inl ⟨by rfl, fun V (hV : W4.grownBy V none) => by go_simp⟩) h0 ?_
      (try simp only [Act.put, List.setIfInBounds_toArray, List.set_cons_zero, List.set_cons_succ])
      refine wpAnyH_take (i := 1) (oi := { dst := some 45, op := Op.fieldAddr 47 (Operand.tmp 7) 0, type := _, pos := _, after := _, guard := _ }) (v := .pointer (some ⟨w3.heap.size, 0, none⟩)) rfl (by kernel_rfl) (by kernel_rfl) (by kernel_rfl) (fun _ _ _ h => h) (Or.inl ⟨by rfl, fun V (hV : W4.grownBy V none) => by go_simp⟩) h0 ?_
      (try simp only [Act.put, List.setIfInBounds_toArray, List.set_cons_zero, List.set_cons_succ])
      refine wpAnyH_take (i := 5) (oi := { dst := some 49, op := Op.fieldAddr 47 (Operand.tmp 7) 1, type := _, pos := _, after := _, guard := _ }) (v := .pointer (some ⟨w3.heap.size, 1, none⟩)) rfl (by kernel_rfl) (by kernel_rfl) (by kernel_rfl) (fun _ _ _ h => h) (Or.inl ⟨by rfl, fun V (hV : W4.grownBy V none) => by go_simp⟩) h0 ?_
      (try simp only [Act.put, List.setIfInBounds_toArray, List.set_cons_zero, List.set_cons_succ])
      refine wpAnyH_take (i := 2) (oi := { dst := some 46, op := Op.load 9 (Operand.tmp 45), type := _, pos := _, after := _, guard := _ }) (v := .string TT) rfl (by kernel_rfl) (by kernel_rfl) (by kernel_rfl) (fun _ _ _ h => h) (Or.inl ⟨by rfl, fun V (hV : W4.grownBy V none) => by (have q9 := hV.cell e0 (by simp); go_simp)⟩) h0 ?_
      (try simp only [Act.put, List.setIfInBounds_toArray, List.set_cons_zero, List.set_cons_succ])
      refine wpAnyH_take (i := 6) (oi := { dst := some 50, op := Op.load 45 (Operand.tmp 49), type := _, pos := _, after := _, guard := _ }) (v := .slice po n pc) rfl (by kernel_rfl) (by kernel_rfl) (by kernel_rfl) (fun _ _ _ h => h) (Or.inl ⟨by rfl, fun V (hV : W4.grownBy V none) => by (have q9 := hV.cell e1 (by simp); go_simp)⟩) h0 ?_
      (try simp only [Act.put, List.setIfInBounds_toArray, List.set_cons_zero, List.set_cons_succ])
      refine wpAnyH_ready (rs := [3]) (by kernel_rfl) (by simp) ?_
      refine AllReadyH.cons (o := { dst := some 47, op := Op.buildSlice 45 1 #[(0, (Operand.tmp 46))], type := _, pos := _, after := _, guard := _ }) rfl (fun K9 hK9 => ?_) AllReadyH.nil
      obtain ⟨w5, hw5, hB5, g5⟩ : ∃ W, W = WD.alloc (.cells #[.string TT] 9) ∧ Blk W WD.heap.size 9 [.string TT] ∧ WD.grownBy W none := box_new WD _ _
      refine step_build1 (by rfl) _ _ rfl _ _ rfl (bs_str TT WD) ?_
      rw [← hw5]
      have h5 := tn h0 g5
      refine hK9.out _ _ h5 (fun _ => ?_)
      clear hK9 K9 hw5
      (try simp only [Act.put, List.setIfInBounds_toArray, List.set_cons_zero, List.set_cons_succ])
      refine wpAnyH_ready (rs := [4]) (by kernel_rfl) (by simp) ?_
      refine AllReadyH.cons (o := { dst := some 48, op := Op.call { callee := Callee.builtin Builtin.append, args := #[(Operand.tmp 44), (Operand.tmp 47)], argTypes := #[45, 45] }, type := _, pos := _, after := _, guard := _ }) rfl (fun K9 hK9 => ?_) AllReadyH.nil
      have hcE : Stg w5 w.heap.size (.slice (some ⟨WD.heap.size, 0, none⟩) 1 1) [cg0.tree] := one_str (by rw [unhide HTT] at hB5; exact hB5) (tn G4 h0).size
      refine step_append_strs (by rfl) _ _ rfl w5.heap.size w.heap.size _ _ [] [cg0.tree] rfl (Stg.nil _ _) rfl hcE (by simp) (Nat.le_refl _) ?_
      intro v6 w6 ho6 g6
      have h6 := tn h5 g6
      rw [List.nil_append] at ho6
      refine hK9.out _ _ h6 (fun _ => ?_)
      clear hK9 K9 hcE hB5
      (try simp only [Act.put, List.setIfInBounds_toArray, List.set_cons_zero, List.set_cons_succ])
      refine wpAnyH_ready (rs := [7]) (by kernel_rfl) (by simp) ?_
      refine AllReadyH.cons (o := { dst := some 51, op := Op.call { callee := Callee.builtin Builtin.append, args := #[(Operand.tmp 48), (Operand.tmp 50)], argTypes := #[45, 45] }, type := _, pos := _, after := _, guard := _ }) rfl (fun K9 hK9 => ?_) AllReadyH.nil
      have hS6 := (unhide HS4).kept h6
      rw [← unhide HN] at hS6
      have h6b : w5.heap.size ≤ w6.heap.size := g6.size
      refine step_append_strs (by rfl) _ _ rfl w5.heap.size w2.heap.size _ _ [cg0.tree] cg0.pars rfl ho6 rfl hS6 (by simp; omega) h6b ?_
      intro v7 w7 ho7 g7
      have h7 : W4.grownBy w7 none := gb_trans h6 g7 (fun x e => Or.inl (Nat.le_trans h5.size (ho6.lt x e).1))
      refine hK9.out _ _ h7 (fun _ => ?_)
      clear hK9 K9
      (try simp only [Act.put, List.setIfInBounds_toArray, List.set_cons_zero, List.set_cons_succ])
      refine wpAnyH_take (i := 8) (oi := { dst := some 3, op := Op.assign (Operand.tmp 51), type := _, pos := _, after := _, guard := _ }) (v := v7) rfl (by kernel_rfl) (by kernel_rfl) (by kernel_rfl) (fun _ _ _ h => h) (Or.inl ⟨by rfl, fun V (hV : W4.grownBy V none) => by go_simp⟩) h7 ?_
      (try simp only [Act.put, List.setIfInBounds_toArray, List.set_cons_zero, List.set_cons_succ])
      refine wpAnyH_done (by kernel_rfl) ?_ _
      refine NoPanic.normal ?_
      have HO7 := hide ho7
      clear ho7
      go_wp2
      go_ret
      exact ⟨_, rfl, own_low (unhide HO7) (tn G4 h5).size, tn G4 h7⟩
    · rw [rt_links4 hch]
      obtain ⟨⟨y0, mk0⟩, hRT⟩ : ∃ R, R = rtM 4 d := ⟨_, rfl⟩
      simp only [← hRT] at cm ⊢
      obtain ⟨Z, hZl, hzv⟩ := zero_rmrk
      obtain ⟨RC, hRC⟩ : ∃ R, R = rmC mk0 := ⟨_, rfl⟩
      simp only [← hRC] at cm
      have hRl : RC.toArray.size = 3 := by rw [hRC]; rfl
      have hRo : RC.toArray.all (·.oneCell') = true := by rw [hRC]; exact all_oneCell_toArray (rmC_one _)
      have hiR : (Tryz.prog.info? 55).map (·.size) = some RC.toArray.size := by rw [hRl]; exact info_rmrk3
      have hZR : Z.size = RC.toArray.size := by rw [hZl, hRl]
      have hR0 : RC[0]? = some (.string (str mk0.target)) := by rw [hRC]; rfl
      obtain ⟨E, hE⟩ : ∃ E, E = mk0.target := ⟨_, rfl⟩
      rw [← hE] at hR0 ⊢
      obtain ⟨TE, hTE⟩ : ∃ T, T = str E := ⟨_, rfl⟩
      have HIR := hide hiR
      have HZR := hide hZR
      have HRO := hide hRo
      clear ct cg hch hd hRT hRC hRl hRo hiR hZR hE
      go_enter Tryz.func22, Tryz.ntmps22
      go_wp2_with (rw [← unhide HW])
      refine cc.mono ?_
      rintro e w2 ⟨rfl, g2⟩
      have d0 := g2.cell c0 (by simp)
      have d1 := g2.cell c1 (by simp)
      clear cc c0 c1
      go_wp2_with fail
      refine (cm w2).mono ?_
      rintro e w3 ⟨rfl, g3⟩
      obtain ⟨W4, hW4, hB4, g4⟩ := row_new w3 55 Z RC
      have G4 := tn (tn (tn g0 g2) g3) g4
      have e0 := hB4.cell 0
      rw [hR0, ← hTE] at e0
      obtain ⟨W5, hW5, hB5, g5⟩ : ∃ W, W = W4.alloc (.cells #[.string TE] 9) ∧ Blk W W4.heap.size 9 [.string TE] ∧ W4.grownBy W none := box_new W4 _ _
      have hcE : W5.cell? ⟨W4.heap.size, 0, none⟩ = some (stv E) := by rw [hB5.cell 0, hTE]; rfl
      have hbs := bs_str TE W4
      have G5 := tn G4 g5
      have HW4 := hide hW4
      have HW5 := hide hW5
      have HBS := hide hbs
      have HCE := hide hcE
      clear cm d0 d1 hW4 hB4 hR0 hTE hW5 hB5 hbs hcE g2 g3 g4 g5 hZl
      go_wp2_with (first
        | (refine wpList_store_row rfl 55 _ _ rfl w3.heap.size RC.toArray rfl rfl _ _ (heap_alloc_new _ _) (unhide HIR) (unhide HZR) (unhide HRO) ?_; rw [← unhide HW4])
        | (refine wpList_build1 rfl 45 _ rfl (.string TE) _ rfl (unhide HBS) ?_; rw [← unhide HW5])
        | (refine wpList_append_str rfl _ _ rfl W5.heap.size _ [] E _ rfl (Stg.nil _ _) rfl (unhide HCE) (by simp) (Nat.le_refl _) ?_; intro v6 w6 ho6 g6; have HO6 := hide ho6; have HG6 := hide g6; clear ho6 g6))
      go_ret
      exact ⟨_, rfl, own_low (unhide HO6) G5.size, tn G5 (unhide HG6)⟩
  · have hl : linksL k d = [] := by unfold linksL; rw [if_pos hch]
    rw [hl]
    obtain ⟨y, hy⟩ : ∃ y, y = checkL k d := ⟨_, rfl⟩
    rw [← hy] at cc hch
    clear ct cg cm hd hl hy
    go_enter Tryz.func22, Tryz.ntmps22
    go_wp2_with (rw [← unhide HW])
    refine cc.mono ?_
    rintro e w2 ⟨rfl, g2⟩
    clear cc c0 c1
    go_wp2
    go_ret
    exact ⟨_, rfl, Stg.nil _ _, tn g0 g2⟩

end Go.Proofs.YtcemdlcimhoeeaaGreatDoor
