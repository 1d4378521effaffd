/- ObjectIds answers true of any object, and nothing that was in memory has changed. Condition: sha's tables are laid. -/
import Derived.Test.YtcemdlcimhoeeaaDoorOId
import Derived.Test.YtcemdlcimhoeeaaDoorOOne
import Derived.Laws.StructEq
namespace Go.Proofs.YtcemdlcimhoeeaaDoor
open Go.RowKit

theorem neq_ids (w : World) (xs ys : List UInt8) (hx : xs.length = 32) (hy : ys.length = 32) : (binOp .neq 24 (.agg (xs.map bv).toArray) (.agg (ys.map bv).toArray)).run Tryd.prog w = .ok (.bool (!(xs == ys))) w := by
  have h : (Op.equalIn 10000 24 (.agg (xs.map bv).toArray) (.agg (ys.map bv).toArray)).run Tryd.prog w = .ok (xs == ys) w := run_equalIn_bytes w 9998 24 5 32 Tryd.underlying24 Tryd.underlying5 size_byte xs ys hx hy
  rw [run_neq_struct, h]
  cases (xs == ys) <;> rfl
theorem yieldsIf_neq {P : Program} {ops : Array Oper} {S : World → Prop} {op : Oper} {a : Act} (hw : Region.wanted op (yielded ops a.tmps) = true) (t t' : TypeId) (x y : Operand) (ho : op.op = .binOp .neq t x y t') (X Z : Array Value) (r : Bool)
    (hx : a.eval x = .agg X) (hy : a.eval y = .agg Z) (hm : P.eqGuardType P.depth t = false) (hq : ∀ w : World, (binOp .neq t (.agg X) (.agg Z)).run P w = .ok (.bool r) w) : YieldsIf P ops S op (.bool r) a :=
  .inl ⟨hw, fun w _ => by
    unfold execOp
    simp only [ho, hx, hy, Sem.run_bind, run_eqGuard_agg w .neq t x y X Z hm, hq, Result.andThen_ok]
    rfl⟩
theorem slice_both (W : World) (ao : Option Addr) (n c lo hi : Nat) (h1 : lo ≤ hi) (h2 : hi ≤ c) : (Instr.slice 32 (.slice ao n c) (some (.int .i64 (lo : Int))) (some (.int .i64 (hi : Int))) none).run Tryd.prog W = .ok (.slice (cutA ao c lo) (hi - lo) (c - lo)) W := by
  have ht' : Tryd.prog.underlying 32 = some (.slice (Tryd.prog.elem 32)) := by simp [Program.elem, Tryd.underlying32]
  have he : Tryd.prog.elem 32 = 5 := by simp [Program.elem, Tryd.underlying32]
  rw [run_slice_lh W 32 _ _ _ ht' .i64 .i64 _ _ (by omega) (by omega) (by omega), he, size_byte]
  simp [Result.andThen, sliced, cutA]

set_option maxRecDepth 100000 in
set_option maxHeartbeats 8000000 in
theorem ids_law (w : World) (k : Int) (ao : Option Addr) (c : Nat) (d : List UInt8) (hb : Bts w ao c d) (hT : Tabs w) : Calls Tryd.prog 4 #[.agg #[.int .i64 k, .slice ao d.length c]] w fun e w' => e = .returned (.bool true) ∧ w.grownBy w' none := by
  obtain ⟨n, hn⟩ : ∃ n, n = d.length := ⟨_, rfl⟩
  obtain ⟨W0, hW0, hB0, g0⟩ : ∃ W1, W1 = w.alloc (.cells #[.int .i64 k, .slice ao n c] 34) ∧ Blk W1 w.heap.size 34 [.int .i64 k, .slice ao n c] ∧ w.grownBy W1 none := box_new w _ _
  have c0 := hB0.cell 0
  have c1 := hB0.cell 1
  simp only [List.getElem?_cons_zero, List.getElem?_cons_succ] at c0 c1
  have HW := hide hW0
  rw [← hn]
  by_cases hbig : 20000 < d.length
  · have hb1 : (20000 : Int) < (n : Int) := by omega
    clear hbig hn hb hT hW0 hB0
    go_enter Tryd.func4, Tryd.ntmps4
    go_wp2_with (rw [← unhide HW])
    go_ret
    exact ⟨rfl, g0⟩
  · have hb1 : ¬ (20000 : Int) < (n : Int) := by omega
    by_cases hk0 : k < 0
    · clear hbig hn hb hT hW0 hB0
      go_enter Tryd.func4, Tryd.ntmps4
      go_wp2_with (rw [← unhide HW])
      go_ret
      exact ⟨rfl, g0⟩
    · by_cases hk2 : 255 < k
      · clear hbig hn hb hT hW0 hB0
        go_enter Tryd.func4, Tryd.ntmps4
        go_wp2_with (rw [← unhide HW])
        go_ret
        exact ⟨rfl, g0⟩
      · have hd2 : d.length ≤ 20000 := by omega
        have ci : ∀ V, W0.grownBy V none → Calls Tryd.prog 18 #[.agg #[.int .i64 k, .slice ao n c]] V fun e w' => e = .returned (.agg ((shaL (putL k d)).map bv).toArray) ∧ V.grownBy w' none := fun V gV => by
          have := oid_any V k ao c d (hb.kept (tn g0 gV) (fun _ e => by cases e)) (by omega) (hT.kept0 (tn g0 gV))
          rwa [← hn] at this
        have cp : ∀ V, W0.grownBy V none → Calls Tryd.prog 14 #[.agg #[.int .i64 k, .slice ao n c]] V fun e w' => ∃ v, e = .returned v ∧ NewB V w' v (putL k d) ∧ V.grownBy w' none := fun V gV => by
          have := oput_any V k ao c d (hb.kept (tn g0 gV) (fun _ e => by cases e)) (by omega)
          rwa [← hn] at this
        have cs : ∀ V a2 c2, W0.grownBy V none → Bts V a2 c2 (putL k d) → Calls Tryd.prog 20 #[.slice a2 (putL k d).length c2] V fun e w' => e = .returned (.agg ((shaL (putL k d)).map bv).toArray) ∧ V.grownBy w' none := fun V a2 c2 gV h2 => sumf_any V a2 c2 _ h2 (hT.kept0 (tn g0 gV)) (by unfold putL layS; simp [lb_len]; omega)
        have cl : ∀ V, W0.grownBy V none → Calls Tryd.prog 11 #[.agg #[.int .i64 k, .slice ao n c]] V fun e w' => ∃ v, e = .returned v ∧ w'.ownsRow V.heap.size 24 32 v (linksL k d).length ((linksL k d).flatMap (·.map bv)) ∧ V.grownBy w' none := fun V gV => by
          have := olinks_any V k ao c d (hb.kept (tn g0 gV) (fun _ e => by cases e))
          rwa [← hn] at this
        have cc : ∀ V, W0.grownBy V none → Calls Tryd.prog 17 #[.agg #[.int .i64 k, .slice ao n c]] V fun e w' => e = .returned (.int .i64 (checkL k d)) ∧ V.grownBy w' none := fun V gV => by
          have := check_any V k ao c d (hb.kept (tn g0 gV) (fun _ e => by cases e))
          rwa [← hn] at this
        have hsl := shaL_length (putL k d)
        obtain ⟨S, hS⟩ : ∃ S, S = shaL (putL k d) := ⟨_, rfl⟩
        rw [← hS] at ci cs hsl
        have hq : ∀ V : World, (binOp .neq 24 (.agg (S.map bv).toArray) (.agg (S.map bv).toArray)).run Tryd.prog V = .ok (.bool false) V := fun V => by
          rw [neq_ids V S S hsl hsl]; simp
        obtain ⟨hocc, hids⟩ := links_occ k d
        have hll := links_len k d
        have hchk : checkL k d = 0 ∨ linksL k d = [] := by
          by_cases h : checkL k d = 0
          · exact Or.inl h
          · right; unfold linksL; rw [if_pos h]
        obtain ⟨P, hP⟩ : ∃ P, P = putL k d := ⟨_, rfl⟩
        rw [← hP] at cp cs
        obtain ⟨ls, hls⟩ : ∃ l, l = linksL k d := ⟨_, rfl⟩
        rw [← hls] at cl hocc hids hll hchk
        obtain ⟨CK, hCK⟩ : ∃ x, x = checkL k d := ⟨_, rfl⟩
        rw [← hCK] at cc hchk
        have HB := hide hb
        have HN := hide hn
        have HG0 := hide g0
        have HOCC := hide hocc
        have HIDS := hide hids
        have HCHK := hide hchk
        have h0 : W0.grownBy W0.drew none := gb_drew (gb_refl _ _)
        have hn2 : n ≤ 20000 := by omega
        clear hbig hn hb hT hW0 hB0 hS hsl hP hls hCK g0 hocc hids hchk hd2
        go_enter Tryd.func4, Tryd.ntmps4
        go_upto_region 3 with (rw [← unhide HW])
        refine wp_region_noPanic ?_
        refine wp_region_held_drew (S := fun V => W0.grownBy V none) (by kernel_rfl) h0 (fun _ => ?_)
        refine wpAnyH_take (i := 0) (oi := { dst := some 20, op := Op.load 34 (Operand.tmp 1), type := _, pos := _, after := _, guard := _ }) (v := .agg #[.int .i64 k, .slice ao n c]) rfl (by kernel_rfl) (by kernel_rfl) (by kernel_rfl) (fun _ _ _ h => h) (Or.inl ⟨by rfl, fun V (hV : W0.grownBy V none) => by (have q0 := hV.cell c0 (by simp); have q1 := hV.cell c1 (by simp); go_simp)⟩) h0 ?_
        (try simp only [Act.put, List.setIfInBounds_toArray, List.set_cons_zero, List.set_cons_succ])
        refine wpAnyH_take (i := 2) (oi := { dst := some 22, op := Op.load 34 (Operand.tmp 1), type := _, pos := _, after := _, guard := _ }) (v := .agg #[.int .i64 k, .slice ao n c]) rfl (by kernel_rfl) (by kernel_rfl) (by kernel_rfl) (fun _ _ _ h => h) (Or.inl ⟨by rfl, fun V (hV : W0.grownBy V none) => by (have q0 := hV.cell c0 (by simp); have q1 := hV.cell c1 (by simp); go_simp)⟩) h0 ?_
        (try simp only [Act.put, List.setIfInBounds_toArray, List.set_cons_zero, List.set_cons_succ])
        refine wpAnyH_ready (rs := [1]) (by kernel_rfl) (by simp) ?_
        refine AllReadyH.cons (o := { dst := some 21, op := Op.call { callee := Callee.value (Operand.func 18), args := #[(Operand.tmp 20)], argTypes := #[34] }, type := _, pos := _, after := _, guard := _ }) rfl (fun K9 hK9 => ?_) AllReadyH.nil
        go_simp
        go_at_call 18
        refine (ci _ h0).mono ?_
        rintro e w1 ⟨rfl, g1a⟩
        have g1 := tn h0 g1a
        clear g1a
        go_wp2_with fail
        refine hK9.out _ _ g1 (fun _ => ?_)
        clear hK9 K9
        (try simp only [Act.put, List.setIfInBounds_toArray, List.set_cons_zero, List.set_cons_succ])
        refine wpAnyH_ready (rs := [3]) (by kernel_rfl) (by simp) ?_
        refine AllReadyH.cons (o := { dst := some 23, op := Op.call { callee := Callee.value (Operand.func 14), args := #[(Operand.tmp 22)], argTypes := #[34] }, type := _, pos := _, after := _, guard := _ }) rfl (fun K9 hK9 => ?_) AllReadyH.nil
        go_simp
        go_at_call 14
        refine (cp _ g1).mono ?_
        rintro e w2 ⟨v2, rfl, ⟨a2, c2, rfl, hb2, _⟩, g2a⟩
        have g2 := tn g1 g2a
        clear g2a
        go_wp2_with fail
        refine hK9.out _ _ g2 (fun _ => ?_)
        clear hK9 K9
        (try simp only [Act.put, List.setIfInBounds_toArray, List.set_cons_zero, List.set_cons_succ])
        refine wpAnyH_ready (rs := [4]) (by kernel_rfl) (by simp) ?_
        refine AllReadyH.cons (o := { dst := some 24, op := Op.call { callee := Callee.value (Operand.func 20), args := #[(Operand.tmp 23)], argTypes := #[32] }, type := _, pos := _, after := _, guard := _ }) rfl (fun K9 hK9 => ?_) AllReadyH.nil
        go_simp
        go_at_call 20
        refine (cs _ a2 c2 g2 hb2).mono ?_
        rintro e w4 ⟨rfl, g4a⟩
        have g4 := tn g2 g4a
        clear g4a
        go_wp2_with fail
        refine hK9.out _ _ g4 (fun _ => ?_)
        clear hK9 K9
        (try simp only [Act.put, List.setIfInBounds_toArray, List.set_cons_zero, List.set_cons_succ])
        refine wpAnyH_take (i := 5) (oi := { dst := some 25, op := Op.binOp BinOp.neq 24 (Operand.tmp 21) (Operand.tmp 24) 24, type := _, pos := _, after := _, guard := _ }) (v := .bool false) rfl (by kernel_rfl) (by kernel_rfl) (by kernel_rfl) (fun _ _ _ h => h) (yieldsIf_neq (by rfl) _ _ _ _ rfl _ _ _ rfl rfl guard_id hq) g4 ?_
        (try simp only [Act.put, List.setIfInBounds_toArray, List.set_cons_zero, List.set_cons_succ])
        refine wpAnyH_done (by kernel_rfl) ?_ _
        refine NoPanic.normal ?_
        have hcl := cl _ g4
        have c0b := g4.cell c0 (by simp)
        have c1b := g4.cell c1 (by simp)
        clear c0 c1 ci cp cs cl hq h0
        go_wp2_with fail
        refine hcl.mono ?_
        rintro e w5 ⟨v5, rfl, ho5, g5⟩
        obtain ⟨lo, lc, hv5⟩ := own_sl ho5
        subst hv5
        have hI5 : Ids w5 lo lc ls := by
          obtain ⟨ao2, c2, e1, e2⟩ := Ids.own ho5 (unhide HIDS)
          injection e1 with e3 e4 e5
          subst e3 e5
          exact e2
        have G5 := tn g4 g5
        have c0 := g5.cell c0b (by simp)
        have c1 := g5.cell c1b (by simp)
        obtain ⟨m, hm⟩ : ∃ m, m = ls.length := ⟨_, rfl⟩
        rw [← hm]
        have HM := hide hm
        have hm33 : m ≤ 33 := by omega
        have HI := hide hI5
        have hB5 : Bts w5 ao c d := (unhide HB).kept (tn (unhide HG0) G5) (fun _ e => by cases e)
        have HB5 := hide hB5
        have HG5 := hide G5
        have hfit := hB5.fits
        clear hcl ho5 hm c0b c1b g4 g5 hI5 hB5 hll HB
        go_wp2
        go_loopw [4, 5] (fun a i wr => ∃ (j p : Nat), i = .int .i64 j ∧ a = .int .i64 p ∧ j ≤ m ∧ p ≤ 40000 ∧ Hid (Occ (ls.drop j) (d.drop p)) ∧ Hid (p ≤ d.length) ∧ w5.grownBy wr none) (fun _ i _ => m - (intOf i).toNat)
        case atStart => exact ⟨0, 0, rfl, rfl, Nat.zero_le _, Nat.zero_le _, hide (by simpa using unhide HOCC), Nat.zero_le _, gb_refl _ _⟩
        case round =>
          obtain ⟨j, p, rfl, rfl, hj, hp4, HO, HPL, hg⟩ := hrel
          by_cases hlt : j < m
          · have hlt' : j < ls.length := by have := unhide HM; omega
            obtain ⟨b, o, hlo, hrow⟩ := (unhide HI).at j hlt'
            have hid := (unhide HIDS) _ (List.getElem_mem hlt')
            have hocc := unhide HO
            rw [List.drop_eq_getElem_cons hlt'] at hocc
            have hr := hrow j hlt'
            obtain ⟨E, hEE⟩ : ∃ E, E = ls[j] := ⟨_, rfl⟩
            rw [← hEE] at hr hid hocc
            obtain ⟨q, hq1, hq2, hq3, hq4⟩ := hocc.at hid
            have HQ2 := hide hq2
            have HQ3 := hide hq3
            have HQ4 := hide hq4
            have HR := hide hr
            have HID := hide hid
            have hqn : q + 32 ≤ n := by have := unhide HN; omega
            clear hrow hEE hocc hq2 hq3 hq4 hr hid HO
            subst hlo
            go_wp2
            go_loopw [4] (fun a wr => ∃ x : Nat, a = .int .i64 x ∧ p ≤ x ∧ x ≤ q ∧ w5.grownBy wr none) (fun a _ => q - (intOf a).toNat)
            case atStart => exact ⟨p, rfl, Nat.le_refl _, hq1, hg⟩
            case round =>
              obtain ⟨x, rfl, hx1, hx2, hgi⟩ := hrel
              have hnd := unhide HN
              obtain ⟨A, hA⟩ : ∃ A, A = (d.drop x).take 32 := ⟨_, rfl⟩
              have hAl : A.length = 32 := by rw [hA, List.length_take, List.length_drop]; omega
              have hcA : ∀ V, w5.grownBy V none → (convert 32 9 (.slice (cutA ao c x) 32 (c - x))).run Tryd.prog V = .ok (.string (str A)) V := fun V gV => by
                have h1 := conv_str ((((unhide HB5).kept gV (fun _ e => by cases e)).drop x (by omega)).take 32 (by rw [List.length_drop]; omega))
                rwa [← hA, hAl] at h1
              have hcE : ∀ V, w5.grownBy V none → (convert 32 9 (.slice (some ⟨b, o + j * 32, none⟩) 32 32)).run Tryd.prog V = .ok (.string (str E)) V := fun V gV => by
                have h1 := conv_str (range_bts (range_kept (unhide HR) gV (by simp)) (by rw [unhide HID]; unfold maxLen; omega))
                rwa [unhide HID] at h1
              obtain ⟨y, hy⟩ : ∃ y, y = x + 32 := ⟨_, rfl⟩
              have hslx : ∀ V, (Instr.slice 32 (.slice ao n c) (some (.int .i64 (x : Int))) (some (.int .i64 (y : Int))) none).run Tryd.prog V = .ok (.slice (cutA ao c x) 32 (c - x)) V := fun V => by
                have h1 := slice_both V ao n c x y (by omega) (by omega)
                rwa [show y - x = 32 by omega] at h1
              have hsw := slice_wid b (o + j * 32)
              have hxy : (x : Int) + 32 = (y : Int) := by omega
              have hyw : IntKind.i64.wrap (y : Int) = (y : Int) := by rw [IntKind.wrap_i64]; omega
              have hyn : y ≤ n := by omega
              have hyni : (y : Int) ≤ (n : Int) := by omega
              have h0 : w5.grownBy _ none := gb_drew hgi
              obtain ⟨SA, hSA⟩ : ∃ S, S = str A := ⟨_, rfl⟩
              rw [← hSA] at hcA
              obtain ⟨SE, hSE⟩ : ∃ S, S = str E := ⟨_, rfl⟩
              rw [← hSE] at hcE
              have hTA : SA.toList = A := by rw [hSA, str_list]
              have hTE : SE.toList = E := by rw [hSE, str_list]
              have HSA := hide hSA
              have HSE := hide hSE
              have HY := hide hy
              have HA := hide hA
              clear hAl hnd hSA hSE hy hA
              by_cases hAE : A = E
              · have hSS : SE = SA := by
                  rw [unhide HSE, unhide HSA, hAE]
                subst hSS
                clear hAE hTA hTE
                go_upto_region 10 with fail
                refine wp_region_noPanic ?_
                refine wp_region_held_drew (S := fun V => w5.grownBy V none) (by kernel_rfl) h0 (fun _ => ?_)
                refine wpAnyH_take (i := 0) (oi := { dst := some 34, op := Op.move (Operand.tmp 4), type := _, pos := _, after := _, guard := _ }) (v := .int .i64 (x : Int)) rfl (by kernel_rfl) (by kernel_rfl) (by kernel_rfl) (fun _ _ _ h => h) (Or.inl ⟨by rfl, fun V (hV : w5.grownBy V none) => by go_simp⟩) h0 ?_
                (try simp only [Act.put, List.setIfInBounds_toArray, List.set_cons_zero, List.set_cons_succ])
                refine wpAnyH_take (i := 1) (oi := { dst := some 35, op := Op.binOp BinOp.add 3 (Operand.tmp 34) (Operand.const (Value.int IntKind.i64 32)) 3, type := _, pos := _, after := _, guard := _ }) (v := .int .i64 (y : Int)) rfl (by kernel_rfl) (by kernel_rfl) (by kernel_rfl) (fun _ _ _ h => h) (Or.inl ⟨by rfl, fun V (hV : w5.grownBy V none) => by go_simp⟩) h0 ?_
                (try simp only [Act.put, List.setIfInBounds_toArray, List.set_cons_zero, List.set_cons_succ])
                refine wpAnyH_take (i := 2) (oi := { dst := some 36, op := Op.fieldAddr 34 (Operand.tmp 1) 1, type := _, pos := _, after := _, guard := _ }) (v := .pointer (some ⟨w.heap.size, 1, none⟩)) rfl (by kernel_rfl) (by kernel_rfl) (by kernel_rfl) (fun _ _ _ h => h) (Or.inl ⟨by rfl, fun V (hV : w5.grownBy V none) => by go_simp⟩) h0 ?_
                (try simp only [Act.put, List.setIfInBounds_toArray, List.set_cons_zero, List.set_cons_succ])
                refine wpAnyH_take (i := 3) (oi := { dst := some 37, op := Op.load 32 (Operand.tmp 36), type := _, pos := _, after := _, guard := _ }) (v := .slice ao n c) rfl (by kernel_rfl) (by kernel_rfl) (by kernel_rfl) (fun _ _ _ h => h) (Or.inl ⟨by rfl, fun V (hV : w5.grownBy V none) => by (have q1 := hV.cell c1 (by simp); go_simp)⟩) h0 ?_
                (try simp only [Act.put, List.setIfInBounds_toArray, List.set_cons_zero, List.set_cons_succ])
                refine wpAnyH_take (i := 4) (oi := { dst := some 38, op := Op.call { callee := Callee.builtin Builtin.len, args := #[(Operand.tmp 37)], argTypes := #[32] }, type := _, pos := _, after := _, guard := _ }) (v := .int .i64 (n : Int)) rfl (by kernel_rfl) (by kernel_rfl) (by kernel_rfl) (fun _ _ _ h => h) (Or.inl ⟨by rfl, fun V (hV : w5.grownBy V none) => by go_simp⟩) h0 ?_
                (try simp only [Act.put, List.setIfInBounds_toArray, List.set_cons_zero, List.set_cons_succ])
                refine wpAnyH_take (i := 5) (oi := { dst := some 39, op := Op.binOp BinOp.leq 3 (Operand.tmp 35) (Operand.tmp 38) 3, type := _, pos := _, after := _, guard := _ }) (v := .bool true) rfl (by kernel_rfl) (by kernel_rfl) (by kernel_rfl) (fun _ _ _ h => h) (Or.inl ⟨by rfl, fun V (hV : w5.grownBy V none) => by go_simp⟩) h0 ?_
                (try simp only [Act.put, List.setIfInBounds_toArray, List.set_cons_zero, List.set_cons_succ])
                refine wpAnyH_take (i := 6) (oi := { dst := some 40, op := Op.move (Operand.tmp 39), type := _, pos := _, after := _, guard := _ }) (v := .bool true) rfl (by kernel_rfl) (by kernel_rfl) (by kernel_rfl) (fun _ _ _ h => h) (Or.inl ⟨by rfl, fun V (hV : w5.grownBy V none) => by go_simp⟩) h0 ?_
                (try simp only [Act.put, List.setIfInBounds_toArray, List.set_cons_zero, List.set_cons_succ])
                refine wpAnyH_take (i := 7) (oi := { dst := some 41, op := Op.fieldAddr 34 (Operand.tmp 1) 1, type := _, pos := _, after := _, guard := _ }) (v := .pointer (some ⟨w.heap.size, 1, none⟩)) rfl (by kernel_rfl) (by kernel_rfl) (by kernel_rfl) (fun _ _ _ h => h) (Or.inl ⟨by rfl, fun V (hV : w5.grownBy V none) => by go_simp⟩) h0 ?_
                (try simp only [Act.put, List.setIfInBounds_toArray, List.set_cons_zero, List.set_cons_succ])
                refine wpAnyH_take (i := 8) (oi := { dst := some 42, op := Op.load 32 (Operand.tmp 41), type := _, pos := _, after := _, guard := _ }) (v := .slice ao n c) rfl (by kernel_rfl) (by kernel_rfl) (by kernel_rfl) (fun _ _ _ h => h) (Or.inl ⟨by rfl, fun V (hV : w5.grownBy V none) => by (have q1 := hV.cell c1 (by simp); go_simp)⟩) h0 ?_
                (try simp only [Act.put, List.setIfInBounds_toArray, List.set_cons_zero, List.set_cons_succ])
                refine wpAnyH_take (i := 9) (oi := { dst := some 43, op := Op.move (Operand.tmp 4), type := _, pos := _, after := _, guard := _ }) (v := .int .i64 (x : Int)) rfl (by kernel_rfl) (by kernel_rfl) (by kernel_rfl) (fun _ _ _ h => h) (Or.inl ⟨by rfl, fun V (hV : w5.grownBy V none) => by go_simp⟩) h0 ?_
                (try simp only [Act.put, List.setIfInBounds_toArray, List.set_cons_zero, List.set_cons_succ])
                refine wpAnyH_take (i := 10) (oi := { dst := some 44, op := Op.move (Operand.tmp 4), type := _, pos := _, after := _, guard := _ }) (v := .int .i64 (x : Int)) rfl (by kernel_rfl) (by kernel_rfl) (by kernel_rfl) (fun _ _ _ h => h) (Or.inl ⟨by rfl, fun V (hV : w5.grownBy V none) => by go_simp⟩) h0 ?_
                (try simp only [Act.put, List.setIfInBounds_toArray, List.set_cons_zero, List.set_cons_succ])
                refine wpAnyH_take (i := 11) (oi := { dst := some 45, op := Op.binOp BinOp.add 3 (Operand.tmp 44) (Operand.const (Value.int IntKind.i64 32)) 3, type := _, pos := _, after := _, guard := _ }) (v := .int .i64 (y : Int)) rfl (by kernel_rfl) (by kernel_rfl) (by kernel_rfl) (fun _ _ _ h => h) (Or.inl ⟨by rfl, fun V (hV : w5.grownBy V none) => by go_simp⟩) h0 ?_
                (try simp only [Act.put, List.setIfInBounds_toArray, List.set_cons_zero, List.set_cons_succ])
                refine wpAnyH_take (i := 12) (oi := { dst := some 46, op := Op.slice 32 (Operand.tmp 42) (some (Operand.tmp 43)) (some (Operand.tmp 45)) none, type := _, pos := _, after := _, guard := _ }) (v := .slice (cutA ao c x) 32 (c - x)) rfl (by kernel_rfl) (by kernel_rfl) (by kernel_rfl) (fun _ _ _ h => h) (Or.inl ⟨by rfl, fun V (hV : w5.grownBy V none) => by (have q9 := hslx V; go_simp)⟩) h0 ?_
                (try simp only [Act.put, List.setIfInBounds_toArray, List.set_cons_zero, List.set_cons_succ])
                refine wpAnyH_take (i := 13) (oi := { dst := some 47, op := Op.convert 32 9 (Operand.tmp 46), type := _, pos := _, after := _, guard := _ }) (v := .string SE) rfl (by kernel_rfl) (by kernel_rfl) (by kernel_rfl) (fun _ _ _ h => h) (Or.inl ⟨by rfl, fun V (hV : w5.grownBy V none) => by (have q9 := hcA V hV; go_simp)⟩) h0 ?_
                (try simp only [Act.put, List.setIfInBounds_toArray, List.set_cons_zero, List.set_cons_succ])
                refine wpAnyH_take (i := 14) (oi := { dst := some 48, op := Op.move (Operand.tmp 3), type := _, pos := _, after := _, guard := _ }) (v := .slice (some ⟨b, o, none⟩) m lc) rfl (by kernel_rfl) (by kernel_rfl) (by kernel_rfl) (fun _ _ _ h => h) (Or.inl ⟨by rfl, fun V (hV : w5.grownBy V none) => by go_simp⟩) h0 ?_
                (try simp only [Act.put, List.setIfInBounds_toArray, List.set_cons_zero, List.set_cons_succ])
                refine wpAnyH_take (i := 15) (oi := { dst := some 49, op := Op.move (Operand.tmp 5), type := _, pos := _, after := _, guard := _ }) (v := .int .i64 (j : Int)) rfl (by kernel_rfl) (by kernel_rfl) (by kernel_rfl) (fun _ _ _ h => h) (Or.inl ⟨by rfl, fun V (hV : w5.grownBy V none) => by go_simp⟩) h0 ?_
                (try simp only [Act.put, List.setIfInBounds_toArray, List.set_cons_zero, List.set_cons_succ])
                refine wpAnyH_take (i := 16) (oi := { dst := some 50, op := Op.indexAddr 25 (Operand.tmp 48) (Operand.tmp 49), type := _, pos := _, after := _, guard := _ }) (v := .pointer (some ⟨b, o + j * 32, none⟩)) rfl (by kernel_rfl) (by kernel_rfl) (by kernel_rfl) (fun _ _ _ h => h) (Or.inl ⟨by rfl, fun V (hV : w5.grownBy V none) => by go_simp⟩) h0 ?_
                (try simp only [Act.put, List.setIfInBounds_toArray, List.set_cons_zero, List.set_cons_succ])
                refine wpAnyH_take (i := 17) (oi := { dst := some 51, op := Op.slice 24 (Operand.tmp 50) none none none, type := _, pos := _, after := _, guard := _ }) (v := .slice (some ⟨b, o + j * 32, none⟩) 32 32) rfl (by kernel_rfl) (by kernel_rfl) (by kernel_rfl) (fun _ _ _ h => h) (Or.inl ⟨by rfl, fun V (hV : w5.grownBy V none) => by (have q9 := hsw V; go_simp)⟩) h0 ?_
                (try simp only [Act.put, List.setIfInBounds_toArray, List.set_cons_zero, List.set_cons_succ])
                refine wpAnyH_take (i := 18) (oi := { dst := some 52, op := Op.convert 32 9 (Operand.tmp 51), type := _, pos := _, after := _, guard := _ }) (v := .string SE) rfl (by kernel_rfl) (by kernel_rfl) (by kernel_rfl) (fun _ _ _ h => h) (Or.inl ⟨by rfl, fun V (hV : w5.grownBy V none) => by (have q9 := hcE V hV; go_simp)⟩) h0 ?_
                (try simp only [Act.put, List.setIfInBounds_toArray, List.set_cons_zero, List.set_cons_succ])
                refine wpAnyH_take (i := 19) (oi := { dst := some 53, op := Op.binOp BinOp.neq 9 (Operand.tmp 47) (Operand.tmp 52) 9, type := _, pos := _, after := _, guard := _ }) (v := .bool false) rfl (by kernel_rfl) (by kernel_rfl) (by kernel_rfl) (fun _ _ _ h => h) (Or.inl ⟨by rfl, fun V (hV : w5.grownBy V none) => by go_simp⟩) h0 ?_
                (try simp only [Act.put, List.setIfInBounds_toArray, List.set_cons_zero, List.set_cons_succ])
                refine wpAnyH_take (i := 20) (oi := { dst := some 54, op := Op.pick (Operand.tmp 40) (Operand.tmp 53) (Operand.const (Value.bool false)), type := _, pos := _, after := _, guard := _ }) (v := .bool false) rfl (by kernel_rfl) (by kernel_rfl) (by kernel_rfl) (fun _ _ _ h => h) (Or.inl ⟨by rfl, fun V (hV : w5.grownBy V none) => by go_simp⟩) h0 ?_
                (try simp only [Act.put, List.setIfInBounds_toArray, List.set_cons_zero, List.set_cons_succ])
                refine wpAnyH_done (by kernel_rfl) ?_ _
                refine NoPanic.normal ?_
                have d1 := hgi.cell c1 (by simp)
                have hyn2 : ¬ (n : Int) < (y : Int) := by omega
                clear hcA hcE hslx hsw h0
                go_wp2
                go_roundw
                case rel =>
                  refine ⟨j + 1, y, by go_num, rfl, by omega, by omega, hide ((unhide HQ4).back (by have := unhide HY; omega)), hide (by have := unhide HN; omega), gb_drew hgi⟩
                case measure => simp [intOf]; omega
              · have hne : ¬ SA.toList = SE.toList := by rw [hTA, hTE]; exact hAE
                have hne2 : (A == E) = false := by simpa using hAE
                have hxq : x < q := by
                  rcases Nat.lt_or_ge x q with h | h
                  · exact h
                  · have : x = q := by omega
                    rw [unhide HA, this, unhide HQ3] at hAE
                    exact absurd rfl hAE
                go_upto_region 10 with fail
                refine wp_region_noPanic ?_
                refine wp_region_held_drew (S := fun V => w5.grownBy V none) (by kernel_rfl) h0 (fun _ => ?_)
                refine wpAnyH_take (i := 0) (oi := { dst := some 34, op := Op.move (Operand.tmp 4), type := _, pos := _, after := _, guard := _ }) (v := .int .i64 (x : Int)) rfl (by kernel_rfl) (by kernel_rfl) (by kernel_rfl) (fun _ _ _ h => h) (Or.inl ⟨by rfl, fun V (hV : w5.grownBy V none) => by go_simp⟩) h0 ?_
                (try simp only [Act.put, List.setIfInBounds_toArray, List.set_cons_zero, List.set_cons_succ])
                refine wpAnyH_take (i := 1) (oi := { dst := some 35, op := Op.binOp BinOp.add 3 (Operand.tmp 34) (Operand.const (Value.int IntKind.i64 32)) 3, type := _, pos := _, after := _, guard := _ }) (v := .int .i64 (y : Int)) rfl (by kernel_rfl) (by kernel_rfl) (by kernel_rfl) (fun _ _ _ h => h) (Or.inl ⟨by rfl, fun V (hV : w5.grownBy V none) => by go_simp⟩) h0 ?_
                (try simp only [Act.put, List.setIfInBounds_toArray, List.set_cons_zero, List.set_cons_succ])
                refine wpAnyH_take (i := 2) (oi := { dst := some 36, op := Op.fieldAddr 34 (Operand.tmp 1) 1, type := _, pos := _, after := _, guard := _ }) (v := .pointer (some ⟨w.heap.size, 1, none⟩)) rfl (by kernel_rfl) (by kernel_rfl) (by kernel_rfl) (fun _ _ _ h => h) (Or.inl ⟨by rfl, fun V (hV : w5.grownBy V none) => by go_simp⟩) h0 ?_
                (try simp only [Act.put, List.setIfInBounds_toArray, List.set_cons_zero, List.set_cons_succ])
                refine wpAnyH_take (i := 3) (oi := { dst := some 37, op := Op.load 32 (Operand.tmp 36), type := _, pos := _, after := _, guard := _ }) (v := .slice ao n c) rfl (by kernel_rfl) (by kernel_rfl) (by kernel_rfl) (fun _ _ _ h => h) (Or.inl ⟨by rfl, fun V (hV : w5.grownBy V none) => by (have q1 := hV.cell c1 (by simp); go_simp)⟩) h0 ?_
                (try simp only [Act.put, List.setIfInBounds_toArray, List.set_cons_zero, List.set_cons_succ])
                refine wpAnyH_take (i := 4) (oi := { dst := some 38, op := Op.call { callee := Callee.builtin Builtin.len, args := #[(Operand.tmp 37)], argTypes := #[32] }, type := _, pos := _, after := _, guard := _ }) (v := .int .i64 (n : Int)) rfl (by kernel_rfl) (by kernel_rfl) (by kernel_rfl) (fun _ _ _ h => h) (Or.inl ⟨by rfl, fun V (hV : w5.grownBy V none) => by go_simp⟩) h0 ?_
                (try simp only [Act.put, List.setIfInBounds_toArray, List.set_cons_zero, List.set_cons_succ])
                refine wpAnyH_take (i := 5) (oi := { dst := some 39, op := Op.binOp BinOp.leq 3 (Operand.tmp 35) (Operand.tmp 38) 3, type := _, pos := _, after := _, guard := _ }) (v := .bool true) rfl (by kernel_rfl) (by kernel_rfl) (by kernel_rfl) (fun _ _ _ h => h) (Or.inl ⟨by rfl, fun V (hV : w5.grownBy V none) => by go_simp⟩) h0 ?_
                (try simp only [Act.put, List.setIfInBounds_toArray, List.set_cons_zero, List.set_cons_succ])
                refine wpAnyH_take (i := 6) (oi := { dst := some 40, op := Op.move (Operand.tmp 39), type := _, pos := _, after := _, guard := _ }) (v := .bool true) rfl (by kernel_rfl) (by kernel_rfl) (by kernel_rfl) (fun _ _ _ h => h) (Or.inl ⟨by rfl, fun V (hV : w5.grownBy V none) => by go_simp⟩) h0 ?_
                (try simp only [Act.put, List.setIfInBounds_toArray, List.set_cons_zero, List.set_cons_succ])
                refine wpAnyH_take (i := 7) (oi := { dst := some 41, op := Op.fieldAddr 34 (Operand.tmp 1) 1, type := _, pos := _, after := _, guard := _ }) (v := .pointer (some ⟨w.heap.size, 1, none⟩)) rfl (by kernel_rfl) (by kernel_rfl) (by kernel_rfl) (fun _ _ _ h => h) (Or.inl ⟨by rfl, fun V (hV : w5.grownBy V none) => by go_simp⟩) h0 ?_
                (try simp only [Act.put, List.setIfInBounds_toArray, List.set_cons_zero, List.set_cons_succ])
                refine wpAnyH_take (i := 8) (oi := { dst := some 42, op := Op.load 32 (Operand.tmp 41), type := _, pos := _, after := _, guard := _ }) (v := .slice ao n c) rfl (by kernel_rfl) (by kernel_rfl) (by kernel_rfl) (fun _ _ _ h => h) (Or.inl ⟨by rfl, fun V (hV : w5.grownBy V none) => by (have q1 := hV.cell c1 (by simp); go_simp)⟩) h0 ?_
                (try simp only [Act.put, List.setIfInBounds_toArray, List.set_cons_zero, List.set_cons_succ])
                refine wpAnyH_take (i := 9) (oi := { dst := some 43, op := Op.move (Operand.tmp 4), type := _, pos := _, after := _, guard := _ }) (v := .int .i64 (x : Int)) rfl (by kernel_rfl) (by kernel_rfl) (by kernel_rfl) (fun _ _ _ h => h) (Or.inl ⟨by rfl, fun V (hV : w5.grownBy V none) => by go_simp⟩) h0 ?_
                (try simp only [Act.put, List.setIfInBounds_toArray, List.set_cons_zero, List.set_cons_succ])
                refine wpAnyH_take (i := 10) (oi := { dst := some 44, op := Op.move (Operand.tmp 4), type := _, pos := _, after := _, guard := _ }) (v := .int .i64 (x : Int)) rfl (by kernel_rfl) (by kernel_rfl) (by kernel_rfl) (fun _ _ _ h => h) (Or.inl ⟨by rfl, fun V (hV : w5.grownBy V none) => by go_simp⟩) h0 ?_
                (try simp only [Act.put, List.setIfInBounds_toArray, List.set_cons_zero, List.set_cons_succ])
                refine wpAnyH_take (i := 11) (oi := { dst := some 45, op := Op.binOp BinOp.add 3 (Operand.tmp 44) (Operand.const (Value.int IntKind.i64 32)) 3, type := _, pos := _, after := _, guard := _ }) (v := .int .i64 (y : Int)) rfl (by kernel_rfl) (by kernel_rfl) (by kernel_rfl) (fun _ _ _ h => h) (Or.inl ⟨by rfl, fun V (hV : w5.grownBy V none) => by go_simp⟩) h0 ?_
                (try simp only [Act.put, List.setIfInBounds_toArray, List.set_cons_zero, List.set_cons_succ])
                refine wpAnyH_take (i := 12) (oi := { dst := some 46, op := Op.slice 32 (Operand.tmp 42) (some (Operand.tmp 43)) (some (Operand.tmp 45)) none, type := _, pos := _, after := _, guard := _ }) (v := .slice (cutA ao c x) 32 (c - x)) rfl (by kernel_rfl) (by kernel_rfl) (by kernel_rfl) (fun _ _ _ h => h) (Or.inl ⟨by rfl, fun V (hV : w5.grownBy V none) => by (have q9 := hslx V; go_simp)⟩) h0 ?_
                (try simp only [Act.put, List.setIfInBounds_toArray, List.set_cons_zero, List.set_cons_succ])
                refine wpAnyH_take (i := 13) (oi := { dst := some 47, op := Op.convert 32 9 (Operand.tmp 46), type := _, pos := _, after := _, guard := _ }) (v := .string SA) rfl (by kernel_rfl) (by kernel_rfl) (by kernel_rfl) (fun _ _ _ h => h) (Or.inl ⟨by rfl, fun V (hV : w5.grownBy V none) => by (have q9 := hcA V hV; go_simp)⟩) h0 ?_
                (try simp only [Act.put, List.setIfInBounds_toArray, List.set_cons_zero, List.set_cons_succ])
                refine wpAnyH_take (i := 14) (oi := { dst := some 48, op := Op.move (Operand.tmp 3), type := _, pos := _, after := _, guard := _ }) (v := .slice (some ⟨b, o, none⟩) m lc) rfl (by kernel_rfl) (by kernel_rfl) (by kernel_rfl) (fun _ _ _ h => h) (Or.inl ⟨by rfl, fun V (hV : w5.grownBy V none) => by go_simp⟩) h0 ?_
                (try simp only [Act.put, List.setIfInBounds_toArray, List.set_cons_zero, List.set_cons_succ])
                refine wpAnyH_take (i := 15) (oi := { dst := some 49, op := Op.move (Operand.tmp 5), type := _, pos := _, after := _, guard := _ }) (v := .int .i64 (j : Int)) rfl (by kernel_rfl) (by kernel_rfl) (by kernel_rfl) (fun _ _ _ h => h) (Or.inl ⟨by rfl, fun V (hV : w5.grownBy V none) => by go_simp⟩) h0 ?_
                (try simp only [Act.put, List.setIfInBounds_toArray, List.set_cons_zero, List.set_cons_succ])
                refine wpAnyH_take (i := 16) (oi := { dst := some 50, op := Op.indexAddr 25 (Operand.tmp 48) (Operand.tmp 49), type := _, pos := _, after := _, guard := _ }) (v := .pointer (some ⟨b, o + j * 32, none⟩)) rfl (by kernel_rfl) (by kernel_rfl) (by kernel_rfl) (fun _ _ _ h => h) (Or.inl ⟨by rfl, fun V (hV : w5.grownBy V none) => by go_simp⟩) h0 ?_
                (try simp only [Act.put, List.setIfInBounds_toArray, List.set_cons_zero, List.set_cons_succ])
                refine wpAnyH_take (i := 17) (oi := { dst := some 51, op := Op.slice 24 (Operand.tmp 50) none none none, type := _, pos := _, after := _, guard := _ }) (v := .slice (some ⟨b, o + j * 32, none⟩) 32 32) rfl (by kernel_rfl) (by kernel_rfl) (by kernel_rfl) (fun _ _ _ h => h) (Or.inl ⟨by rfl, fun V (hV : w5.grownBy V none) => by (have q9 := hsw V; go_simp)⟩) h0 ?_
                (try simp only [Act.put, List.setIfInBounds_toArray, List.set_cons_zero, List.set_cons_succ])
                refine wpAnyH_take (i := 18) (oi := { dst := some 52, op := Op.convert 32 9 (Operand.tmp 51), type := _, pos := _, after := _, guard := _ }) (v := .string SE) rfl (by kernel_rfl) (by kernel_rfl) (by kernel_rfl) (fun _ _ _ h => h) (Or.inl ⟨by rfl, fun V (hV : w5.grownBy V none) => by (have q9 := hcE V hV; go_simp)⟩) h0 ?_
                (try simp only [Act.put, List.setIfInBounds_toArray, List.set_cons_zero, List.set_cons_succ])
                refine wpAnyH_take (i := 19) (oi := { dst := some 53, op := Op.binOp BinOp.neq 9 (Operand.tmp 47) (Operand.tmp 52) 9, type := _, pos := _, after := _, guard := _ }) (v := .bool true) rfl (by kernel_rfl) (by kernel_rfl) (by kernel_rfl) (fun _ _ _ h => h) (Or.inl ⟨by rfl, fun V (hV : w5.grownBy V none) => by go_simp⟩) h0 ?_
                (try simp only [Act.put, List.setIfInBounds_toArray, List.set_cons_zero, List.set_cons_succ])
                refine wpAnyH_take (i := 20) (oi := { dst := some 54, op := Op.pick (Operand.tmp 40) (Operand.tmp 53) (Operand.const (Value.bool false)), type := _, pos := _, after := _, guard := _ }) (v := .bool true) rfl (by kernel_rfl) (by kernel_rfl) (by kernel_rfl) (fun _ _ _ h => h) (Or.inl ⟨by rfl, fun V (hV : w5.grownBy V none) => by go_simp⟩) h0 ?_
                (try simp only [Act.put, List.setIfInBounds_toArray, List.set_cons_zero, List.set_cons_succ])
                refine wpAnyH_done (by kernel_rfl) ?_ _
                refine NoPanic.normal ?_
                clear hcA hcE hslx hsw h0
                go_wp2
                go_roundw
                case rel => exact ⟨x + 1, by go_num, by omega, by omega, gb_drew hgi⟩
                case measure => simp [intOf]; omega
          · have hjm : j = m := by omega
            have c0f := hg.cell c0 (by simp)
            have c1f := hg.cell c1 (by simp)
            have GF := tn (unhide HG5) hg
            have hck := cc _ GF
            clear c0 c1 cc
            rcases (unhide HCHK) with h0 | hnil
            · subst h0
              go_wp2_with (first
                | (go_at_call 17; refine hck.mono ?_; rintro e w6 ⟨rfl, g6⟩; clear hck)
                | (go_at_call 19; refine (oone_any _).mono ?_; rintro e w7 ⟨rfl, g7⟩))
              go_ret
              exact ⟨rfl, tn (tn (tn (unhide HG0) GF) g6) g7⟩
            · have hm0 : m = 0 := by rw [unhide HM, hnil]; rfl
              by_cases h0 : CK = 0
              · subst h0
                go_wp2_with (first
                  | (go_at_call 17; refine hck.mono ?_; rintro e w6 ⟨rfl, g6⟩; clear hck)
                  | (go_at_call 19; refine (oone_any _).mono ?_; rintro e w7 ⟨rfl, g7⟩))
                go_ret
                exact ⟨rfl, tn (tn (tn (unhide HG0) GF) g6) g7⟩
              · have h1 : (CK == 0) = false := by simpa using h0
                subst hm0
                go_wp2_with (first
                  | (go_at_call 17; refine hck.mono ?_; rintro e w6 ⟨rfl, g6⟩; clear hck)
                  | (go_at_call 19; refine (oone_any _).mono ?_; rintro e w7 ⟨rfl, g7⟩))
                go_ret
                exact ⟨rfl, tn (tn (tn (unhide HG0) GF) g6) g7⟩

end Go.Proofs.YtcemdlcimhoeeaaDoor
