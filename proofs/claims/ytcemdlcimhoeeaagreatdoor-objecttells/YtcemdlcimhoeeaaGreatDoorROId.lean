/- What the document's Id answers. Of data of at most 100000 bytes. -/
import Derived.Test.YtcemdlcimhoeeaaGreatDoorRSum
import Derived.Test.YtcemdlcimhoeeaaGreatDoorRPut
import Derived.Test.YtcemdlcimhoeeaaGreatDoorOPut
namespace Go.Proofs.YtcemdlcimhoeeaaGreatDoor
open Go.RowKit

theorem info_arr : (Tryz.prog.info? 37).map (·.size) = some 32 := by kernel_rfl
theorem slice_warr (b o : Nat) (W : World) : (Instr.sliceAt 37 (.pointer (some ⟨b, o, none⟩)) none none none).run Tryz.prog W = .ok (.slice (some ⟨b, o, none⟩) 32 32) W := by
  have ea : Tryz.prog.arrayLen 37 = 32 := by simp [Program.arrayLen, Tryz.underlying37]
  have ee : Tryz.prog.elem 37 = 5 := by simp [Program.elem, Tryz.underlying37]
  rw [run_sliceAt_array_all W 37 ⟨b, o, none⟩ (by rw [ea, ee]; exact Tryz.underlying37), ea, ee, size_byte]
  simp only [Result.andThen_ok, slicedAt, Nat.zero_mul, Nat.sub_zero]
  rw [if_neg (by omega), Addr.add_mid]
  rfl

set_option maxRecDepth 100000 in
set_option maxHeartbeats 4000000 in
theorem rdid_any (w : World) (k : Int) (d : List UInt8) (hd : d.length ≤ 100000) : Calls Tryz.prog 18 #[.agg #[.int .i64 k, .string (str d)]] w fun e w' => e = .returned (.string (str (shaL (putL k d)))) ∧ w.grownBy w' none := by
  obtain ⟨SD, hSD⟩ : ∃ S, S = str d := ⟨_, rfl⟩
  obtain ⟨W0, hW0, hB0, g0⟩ : ∃ W1, W1 = w.alloc (.cells #[.int .i64 k, .string SD] 29) ∧ Blk W1 w.heap.size 29 [.int .i64 k, .string SD] ∧ w.grownBy W1 none := box_new w _ _
  have c0 := hB0.cell 0
  have c1 := hB0.cell 1
  simp only [List.getElem?_cons_zero, List.getElem?_cons_succ] at c0 c1
  obtain ⟨n, hn⟩ : ∃ n, n = d.length := ⟨_, rfl⟩
  have hzs := str_size d
  rw [← hSD, ← hn] at hzs
  have hcv := wrap_b k
  obtain ⟨z, hz⟩ : ∃ z : Int, z = (((UInt8.ofInt k).toNat : Nat) : Int) := ⟨_, rfl⟩
  rw [← hz] at hcv
  have hcu : IntKind.u64.wrap (n : Int) = (n : Int) := by rw [IntKind.wrap_u64]; omega
  have cput : ∀ V : World, Calls Tryz.prog 44 #[.string (str []), .int .u64 (n : Int), .int .i64 4] V fun e w' => e = .returned (.string (str (lb n 4))) ∧ V.grownBy w' none := fun V => by
    have := rput_any V [] n 4 (by omega) (by simp)
    simpa [show nb 4 = 4 from rfl] using this
  have hl4 : (lb n 4).length = 4 := lb_len _ _
  have csum : ∀ V : World, Calls Tryz.prog 43 #[.string (str (putL k d))] V fun e w' => e = .returned (.agg ((shaL (putL k d)).map bv).toArray) ∧ V.grownBy w' none := fun V => rsum_any V _ (by unfold putL layS; simp [lb_len]; omega)
  have ha1 : str [UInt8.ofInt k] ++ str (lb n 4) = str ([UInt8.ofInt k] ++ lb n 4) := by rw [str_app]
  have ha2 : str ([UInt8.ofInt k] ++ lb n 4) ++ SD = str (putL k d) := by rw [hSD, str_app]; unfold putL layS; rw [hn]; simp
  have hs1 := str_size [UInt8.ofInt k]
  have hs2 := str_size (lb n 4)
  have hs3 := str_size ([UInt8.ofInt k] ++ lb n 4)
  rw [List.length_append, hl4] at hs3
  rw [hl4] at hs2
  rw [show ([UInt8.ofInt k] : List UInt8).length = 1 from rfl] at hs1 hs3
  obtain ⟨S, hS⟩ : ∃ S, S = (shaL (putL k d)).map bv := ⟨_, rfl⟩
  have hSl : S.length = 32 := by rw [hS, List.length_map]; exact shaL_length _
  have hSo : S.toArray.all (·.oneCell') = true := by rw [hS]; exact all_oneCell_toArray (bv_one _)
  obtain ⟨ZL, hZL⟩ : ∃ Z : List Value, Z = (List.replicate 32 (0 : UInt8)).map bv := ⟨_, rfl⟩
  have hzv : ∀ w, (zeroValue 37).run Tryz.prog w = .ok (.agg ZL.toArray) w := fun w => by rw [hZL]; kernel_rfl
  have hiS : (Tryz.prog.info? 37).map (·.size) = some S.toArray.size := by rw [show S.toArray.size = 32 by simpa using hSl]; exact info_arr
  have hZS : ZL.toArray.size = S.toArray.size := by simp [hZL, hSl]
  obtain ⟨TS, hTS⟩ : ∃ T, T = str (shaL (putL k d)) := ⟨_, rfl⟩
  have htail : ∀ V p, Blk V p 37 S → (convert 22 9 (.slice (some ⟨p, 0, none⟩) 32 32)).run Tryz.prog V = .ok (.string TS) V := fun V p hB => by
    have h1 := blk_all hB
    rw [hS] at h1
    have h2 := conv_str (range_bts h1 (by rw [shaL_length]; decide))
    rwa [shaL_length, ← hTS] at h2
  have hsl := fun b V => slice_warr b 0 V
  obtain ⟨TB, hTB⟩ : ∃ T, T = str [UInt8.ofInt k] := ⟨_, rfl⟩
  obtain ⟨T4, hT4⟩ : ∃ T, T = str (lb n 4) := ⟨_, rfl⟩
  obtain ⟨T2, hT2⟩ : ∃ T, T = str ([UInt8.ofInt k] ++ lb n 4) := ⟨_, rfl⟩
  obtain ⟨TQ, hTQ⟩ : ∃ T, T = str (putL k d) := ⟨_, rfl⟩
  rw [← hTB] at ha1 hs1
  rw [← hT4] at ha1 hs2 cput
  rw [← hT2] at ha1 ha2 hs3
  rw [← hTQ] at ha2 csum
  rw [← hS] at csum
  rw [← hSD, ← hTS]
  have HI := hide hiS
  have HZS := hide hZS
  have HSO := hide hSo
  have hn5 : 5 + n ≤ 9223372036854775807 := by omega
  have hn6 : ¬ 9223372036854775807 < 5 + n := by omega
  have HW := hide hW0
  have HZ := hide hz
  have HTB := hide hTB
  have h0 : W0.grownBy W0.drew none := gb_drew (gb_refl _ _)
  clear hz hTB hSD hW0 hB0 hn hd hl4 hS hSl hSo hZL hiS hZS hTS hT4 hT2 hTQ
  go_enter Tryz.func18, Tryz.ntmps18
  go_upto_region 1 with (rw [← unhide HW])
  refine wp_region_noPanic ?_
  refine wp_region_held_drew (S := fun V => W0.grownBy V none) (by kernel_rfl) h0 (fun _ => ?_)
  obtain ⟨WD, hWD⟩ : ∃ V, V = W0.drew := ⟨_, rfl⟩
  rw [← hWD]
  rw [← hWD] at h0
  clear hWD
  refine wpAnyH_take (i := 0) (oi := { dst := some 4, op := Op.fieldAddr 29 (Operand.tmp 1) 0, type := _, pos := _, after := _, guard := _ }) (v := .pointer (some ⟨w.heap.size, 0, none⟩)) rfl (by kernel_rfl) (by kernel_rfl) (by kernel_rfl) (fun _ _ _ h => h) (Or.inl ⟨by rfl, fun V (hV : W0.grownBy V none) => by go_simp⟩) h0 ?_
  (try simp only [Act.put, List.setIfInBounds_toArray, List.set_cons_zero, List.set_cons_succ])
  refine wpAnyH_take (i := 5) (oi := { dst := some 9, op := Op.fieldAddr 29 (Operand.tmp 1) 1, type := _, pos := _, after := _, guard := _ }) (v := .pointer (some ⟨w.heap.size, 1, none⟩)) rfl (by kernel_rfl) (by kernel_rfl) (by kernel_rfl) (fun _ _ _ h => h) (Or.inl ⟨by rfl, fun V (hV : W0.grownBy V none) => by go_simp⟩) h0 ?_
  (try simp only [Act.put, List.setIfInBounds_toArray, List.set_cons_zero, List.set_cons_succ])
  refine wpAnyH_take (i := 11) (oi := { dst := some 15, op := Op.fieldAddr 29 (Operand.tmp 1) 1, type := _, pos := _, after := _, guard := _ }) (v := .pointer (some ⟨w.heap.size, 1, none⟩)) rfl (by kernel_rfl) (by kernel_rfl) (by kernel_rfl) (fun _ _ _ h => h) (Or.inl ⟨by rfl, fun V (hV : W0.grownBy V none) => by go_simp⟩) h0 ?_
  (try simp only [Act.put, List.setIfInBounds_toArray, List.set_cons_zero, List.set_cons_succ])
  refine wpAnyH_take (i := 1) (oi := { dst := some 5, op := Op.load 3 (Operand.tmp 4), type := _, pos := _, after := _, guard := _ }) (v := .int .i64 k) rfl (by kernel_rfl) (by kernel_rfl) (by kernel_rfl) (fun _ _ _ h => h) (Or.inl ⟨by rfl, fun V (hV : W0.grownBy V none) => by (have q9 := hV.cell c0 (by simp); go_simp)⟩) h0 ?_
  (try simp only [Act.put, List.setIfInBounds_toArray, List.set_cons_zero, List.set_cons_succ])
  refine wpAnyH_take (i := 6) (oi := { dst := some 10, op := Op.load 9 (Operand.tmp 9), type := _, pos := _, after := _, guard := _ }) (v := .string SD) rfl (by kernel_rfl) (by kernel_rfl) (by kernel_rfl) (fun _ _ _ h => h) (Or.inl ⟨by rfl, fun V (hV : W0.grownBy V none) => by (have q9 := hV.cell c1 (by simp); go_simp)⟩) h0 ?_
  (try simp only [Act.put, List.setIfInBounds_toArray, List.set_cons_zero, List.set_cons_succ])
  refine wpAnyH_take (i := 12) (oi := { dst := some 16, op := Op.load 9 (Operand.tmp 15), type := _, pos := _, after := _, guard := _ }) (v := .string SD) rfl (by kernel_rfl) (by kernel_rfl) (by kernel_rfl) (fun _ _ _ h => h) (Or.inl ⟨by rfl, fun V (hV : W0.grownBy V none) => by (have q9 := hV.cell c1 (by simp); go_simp)⟩) h0 ?_
  (try simp only [Act.put, List.setIfInBounds_toArray, List.set_cons_zero, List.set_cons_succ])
  refine wpAnyH_take (i := 2) (oi := { dst := some 6, op := Op.convert 3 5 (Operand.tmp 5), type := _, pos := _, after := _, guard := _ }) (v := .int .u8 z) rfl (by kernel_rfl) (by kernel_rfl) (by kernel_rfl) (fun _ _ _ h => h) (Or.inl ⟨by rfl, fun V (hV : W0.grownBy V none) => by go_simp⟩) h0 ?_
  (try simp only [Act.put, List.setIfInBounds_toArray, List.set_cons_zero, List.set_cons_succ])
  refine wpAnyH_take (i := 7) (oi := { dst := some 11, op := Op.call { callee := Callee.builtin Builtin.len, args := #[(Operand.tmp 10)], argTypes := #[9] }, type := _, pos := _, after := _, guard := _ }) (v := .int .i64 (n : Int)) rfl (by kernel_rfl) (by kernel_rfl) (by kernel_rfl) (fun _ _ _ h => h) (Or.inl ⟨by rfl, fun V (hV : W0.grownBy V none) => by go_simp⟩) h0 ?_
  (try simp only [Act.put, List.setIfInBounds_toArray, List.set_cons_zero, List.set_cons_succ])
  refine wpAnyH_take (i := 8) (oi := { dst := some 12, op := Op.convert 3 40 (Operand.tmp 11), type := _, pos := _, after := _, guard := _ }) (v := .int .u64 (n : Int)) rfl (by kernel_rfl) (by kernel_rfl) (by kernel_rfl) (fun _ _ _ h => h) (Or.inl ⟨by rfl, fun V (hV : W0.grownBy V none) => by go_simp⟩) h0 ?_
  (try simp only [Act.put, List.setIfInBounds_toArray, List.set_cons_zero, List.set_cons_succ])
  refine wpAnyH_ready (rs := [3, 9, 15]) (by kernel_rfl) (by simp) ?_
  refine AllReadyH.cons (o := { dst := some 7, op := Op.buildSlice 22 1 #[(0, (Operand.tmp 6))], type := _, pos := _, after := _, guard := _ }) rfl (fun K9 hK9 => ?_) (AllReadyH.cons (o := { dst := some 13, op := Op.call { callee := Callee.value (Operand.func 44), args := #[Operand.const (Value.string { data := #[] }), (Operand.tmp 12), Operand.const (Value.int IntKind.i64 4)], argTypes := #[9, 40, 3] }, type := _, pos := _, after := _, guard := _ }) rfl (fun K9 hK9 => ?_) (AllReadyH.cons (o := { dst := some 3, op := Op.alloc 37, type := _, pos := _, after := _, guard := _ }) rfl (fun K9 hK9 => ?_) AllReadyH.nil))
  · obtain ⟨wb1, hw1, hb1, gb1⟩ := bts_b WD (UInt8.ofInt k)
    rw [← unhide HZ] at hw1
    go_simp
    rw [← hw1]
    have hh2 := tn h0 gb1
    refine hK9.out _ _ hh2 (fun _ => ?_)
    clear hK9 K9 hw1
    (try simp only [Act.put, List.setIfInBounds_toArray, List.set_cons_zero, List.set_cons_succ])
    refine wpAnyH_ready (rs := [4, 9, 15]) (by kernel_rfl) (by simp) ?_
    refine AllReadyH.cons (o := { dst := some 8, op := Op.convert 22 9 (Operand.tmp 7), type := _, pos := _, after := _, guard := _ }) rfl (fun K9 hK9 => ?_) (AllReadyH.cons (o := { dst := some 13, op := Op.call { callee := Callee.value (Operand.func 44), args := #[Operand.const (Value.string { data := #[] }), (Operand.tmp 12), Operand.const (Value.int IntKind.i64 4)], argTypes := #[9, 40, 3] }, type := _, pos := _, after := _, guard := _ }) rfl (fun K9 hK9 => ?_) (AllReadyH.cons (o := { dst := some 3, op := Op.alloc 37, type := _, pos := _, after := _, guard := _ }) rfl (fun K9 hK9 => ?_) AllReadyH.nil))
    · have z9 := conv_str (hb1.kept (gb_refl wb1 none) (fun _ e => by cases e))
      rw [show ([UInt8.ofInt k] : List UInt8).length = 1 from rfl, ← unhide HTB] at z9
      go_simp
      clear z9
      refine hK9.out _ _ hh2 (fun _ => ?_)
      clear hK9 K9
      (try simp only [Act.put, List.setIfInBounds_toArray, List.set_cons_zero, List.set_cons_succ])
      refine wpAnyH_ready (rs := [9, 15]) (by kernel_rfl) (by simp) ?_
      refine AllReadyH.cons (o := { dst := some 13, op := Op.call { callee := Callee.value (Operand.func 44), args := #[Operand.const (Value.string { data := #[] }), (Operand.tmp 12), Operand.const (Value.int IntKind.i64 4)], argTypes := #[9, 40, 3] }, type := _, pos := _, after := _, guard := _ }) rfl (fun K9 hK9 => ?_) (AllReadyH.cons (o := { dst := some 3, op := Op.alloc 37, type := _, pos := _, after := _, guard := _ }) rfl (fun K9 hK9 => ?_) AllReadyH.nil)
      · go_simp
        go_at_call 44
        refine (cput wb1).mono ?_
        rintro e wc3 ⟨rfl, gc3⟩
        go_wp2_with fail
        have gg4wb1 := tn ((gb_refl wb1 none)) gc3
        have hh4 := tn hh2 gc3
        refine hK9.out _ _ hh4 (fun _ => ?_)
        clear hK9 K9
        (try simp only [Act.put, List.setIfInBounds_toArray, List.set_cons_zero, List.set_cons_succ])
        refine wpAnyH_take (i := 10) (oi := { dst := some 14, op := Op.binOp BinOp.add 9 (Operand.tmp 8) (Operand.tmp 13) 9, type := _, pos := _, after := _, guard := _ }) (v := .string T2) rfl (by kernel_rfl) (by kernel_rfl) (by kernel_rfl) (fun _ _ _ h => h) (Or.inl ⟨by rfl, fun V (hV : W0.grownBy V none) => by go_simp⟩) hh4 ?_
        (try simp only [Act.put, List.setIfInBounds_toArray, List.set_cons_zero, List.set_cons_succ])
        refine wpAnyH_take (i := 13) (oi := { dst := some 17, op := Op.binOp BinOp.add 9 (Operand.tmp 14) (Operand.tmp 16) 9, type := _, pos := _, after := _, guard := _ }) (v := .string TQ) rfl (by kernel_rfl) (by kernel_rfl) (by kernel_rfl) (fun _ _ _ h => h) (Or.inl ⟨by rfl, fun V (hV : W0.grownBy V none) => by go_simp⟩) hh4 ?_
        (try simp only [Act.put, List.setIfInBounds_toArray, List.set_cons_zero, List.set_cons_succ])
        refine wpAnyH_ready (rs := [14, 15]) (by kernel_rfl) (by simp) ?_
        refine AllReadyH.cons (o := { dst := some 18, op := Op.call { callee := Callee.value (Operand.func 43), args := #[(Operand.tmp 17)], argTypes := #[9] }, type := _, pos := _, after := _, guard := _ }) rfl (fun K9 hK9 => ?_) (AllReadyH.cons (o := { dst := some 3, op := Op.alloc 37, type := _, pos := _, after := _, guard := _ }) rfl (fun K9 hK9 => ?_) AllReadyH.nil)
        · go_simp
          go_at_call 43
          refine (csum wc3).mono ?_
          rintro e wc5 ⟨rfl, gc5⟩
          go_wp2_with fail
          have gg6wb1 := tn (gg4wb1) gc5
          have hh6 := tn hh4 gc5
          refine hK9.out _ _ hh6 (fun _ => ?_)
          clear hK9 K9
          (try simp only [Act.put, List.setIfInBounds_toArray, List.set_cons_zero, List.set_cons_succ])
          refine wpAnyH_ready (rs := [15]) (by kernel_rfl) (by simp) ?_
          refine AllReadyH.cons (o := { dst := some 3, op := Op.alloc 37, type := _, pos := _, after := _, guard := _ }) rfl (fun K9 hK9 => ?_) AllReadyH.nil
          obtain ⟨wa7, hw7, hB7, ga7⟩ := box_new wc5 37 ZL
          have z9 := hzv wc5
          go_simp
          rw [← hw7]
          clear z9
          have gg8wb1 := tn (gg6wb1) ga7
          have hh8 := tn hh6 ga7
          refine hK9.out _ _ hh8 (fun _ => ?_)
          clear hK9 K9 hw7
          (try simp only [Act.put, List.setIfInBounds_toArray, List.set_cons_zero, List.set_cons_succ])
          refine wpAnyH_ready (rs := [16]) (by kernel_rfl) (by simp) ?_
          refine AllReadyH.cons (o := { dst := none, op := Op.store 37 (Operand.tmp 3) (Operand.tmp 18), type := _, pos := _, after := _, guard := _ }) rfl (fun K9 hK9 => ?_) AllReadyH.nil
          have hX9 := hB7.kept (gb_refl wa7 none) (by simp)
          rw [if_pos (by rfl)]
          refine wp_store_row _ _ _ rfl wc5.heap.size S.toArray rfl rfl _ _ hX9 (unhide HI) (unhide HZS) (unhide HSO) ?_
          obtain ⟨wf, hwf⟩ : ∃ V, V = wa7.setRow wc5.heap.size S.toArray := ⟨_, rfl⟩
          have hf : W0.grownBy wf none := by rw [hwf]; exact gb_row hh8 _ (Or.inl hh6.size)
          have hBf : Blk wf wc5.heap.size 37 S := by rw [hwf]; exact hX9.row S
          rw [← hwf]
          refine hK9.out _ _ hf (fun _ => ?_)
          clear hK9 K9 hwf
          (try simp only [Act.put])
          refine wpAnyH_done (by kernel_rfl) ?_ _
          refine NoPanic.normal ?_
          have z9 := htail _ _ hBf
          have z8 := hsl wc5.heap.size
          clear hBf
          go_wp2
          go_ret
          exact ⟨rfl, tn g0 hf⟩
        · obtain ⟨wa5, hw5, hB5, ga5⟩ := box_new wc3 37 ZL
          have z9 := hzv wc3
          go_simp
          rw [← hw5]
          clear z9
          have gg6wb1 := tn (gg4wb1) ga5
          have hh6 := tn hh4 ga5
          refine hK9.out _ _ hh6 (fun _ => ?_)
          clear hK9 K9 hw5
          (try simp only [Act.put, List.setIfInBounds_toArray, List.set_cons_zero, List.set_cons_succ])
          refine wpAnyH_ready (rs := [14]) (by kernel_rfl) (by simp) ?_
          refine AllReadyH.cons (o := { dst := some 18, op := Op.call { callee := Callee.value (Operand.func 43), args := #[(Operand.tmp 17)], argTypes := #[9] }, type := _, pos := _, after := _, guard := _ }) rfl (fun K9 hK9 => ?_) AllReadyH.nil
          go_simp
          go_at_call 43
          refine (csum wa5).mono ?_
          rintro e wc7 ⟨rfl, gc7⟩
          go_wp2_with fail
          have gg8wb1 := tn (gg6wb1) gc7
          have gg8wa5 := tn ((gb_refl wa5 none)) gc7
          have hh8 := tn hh6 gc7
          refine hK9.out _ _ hh8 (fun _ => ?_)
          clear hK9 K9
          (try simp only [Act.put, List.setIfInBounds_toArray, List.set_cons_zero, List.set_cons_succ])
          refine wpAnyH_ready (rs := [16]) (by kernel_rfl) (by simp) ?_
          refine AllReadyH.cons (o := { dst := none, op := Op.store 37 (Operand.tmp 3) (Operand.tmp 18), type := _, pos := _, after := _, guard := _ }) rfl (fun K9 hK9 => ?_) AllReadyH.nil
          have hX9 := hB5.kept gg8wa5 (by simp)
          rw [if_pos (by rfl)]
          refine wp_store_row _ _ _ rfl wc3.heap.size S.toArray rfl rfl _ _ hX9 (unhide HI) (unhide HZS) (unhide HSO) ?_
          obtain ⟨wf, hwf⟩ : ∃ V, V = wc7.setRow wc3.heap.size S.toArray := ⟨_, rfl⟩
          have hf : W0.grownBy wf none := by rw [hwf]; exact gb_row hh8 _ (Or.inl hh4.size)
          have hBf : Blk wf wc3.heap.size 37 S := by rw [hwf]; exact hX9.row S
          rw [← hwf]
          refine hK9.out _ _ hf (fun _ => ?_)
          clear hK9 K9 hwf
          (try simp only [Act.put])
          refine wpAnyH_done (by kernel_rfl) ?_ _
          refine NoPanic.normal ?_
          have z9 := htail _ _ hBf
          have z8 := hsl wc3.heap.size
          clear hBf
          go_wp2
          go_ret
          exact ⟨rfl, tn g0 hf⟩
      · obtain ⟨wa3, hw3, hB3, ga3⟩ := box_new wb1 37 ZL
        have z9 := hzv wb1
        go_simp
        rw [← hw3]
        clear z9
        have gg4wb1 := tn ((gb_refl wb1 none)) ga3
        have hh4 := tn hh2 ga3
        refine hK9.out _ _ hh4 (fun _ => ?_)
        clear hK9 K9 hw3
        (try simp only [Act.put, List.setIfInBounds_toArray, List.set_cons_zero, List.set_cons_succ])
        refine wpAnyH_ready (rs := [9]) (by kernel_rfl) (by simp) ?_
        refine AllReadyH.cons (o := { dst := some 13, op := Op.call { callee := Callee.value (Operand.func 44), args := #[Operand.const (Value.string { data := #[] }), (Operand.tmp 12), Operand.const (Value.int IntKind.i64 4)], argTypes := #[9, 40, 3] }, type := _, pos := _, after := _, guard := _ }) rfl (fun K9 hK9 => ?_) AllReadyH.nil
        go_simp
        go_at_call 44
        refine (cput wa3).mono ?_
        rintro e wc5 ⟨rfl, gc5⟩
        go_wp2_with fail
        have gg6wb1 := tn (gg4wb1) gc5
        have gg6wa3 := tn ((gb_refl wa3 none)) gc5
        have hh6 := tn hh4 gc5
        refine hK9.out _ _ hh6 (fun _ => ?_)
        clear hK9 K9
        (try simp only [Act.put, List.setIfInBounds_toArray, List.set_cons_zero, List.set_cons_succ])
        refine wpAnyH_take (i := 10) (oi := { dst := some 14, op := Op.binOp BinOp.add 9 (Operand.tmp 8) (Operand.tmp 13) 9, type := _, pos := _, after := _, guard := _ }) (v := .string T2) rfl (by kernel_rfl) (by kernel_rfl) (by kernel_rfl) (fun _ _ _ h => h) (Or.inl ⟨by rfl, fun V (hV : W0.grownBy V none) => by go_simp⟩) hh6 ?_
        (try simp only [Act.put, List.setIfInBounds_toArray, List.set_cons_zero, List.set_cons_succ])
        refine wpAnyH_take (i := 13) (oi := { dst := some 17, op := Op.binOp BinOp.add 9 (Operand.tmp 14) (Operand.tmp 16) 9, type := _, pos := _, after := _, guard := _ }) (v := .string TQ) rfl (by kernel_rfl) (by kernel_rfl) (by kernel_rfl) (fun _ _ _ h => h) (Or.inl ⟨by rfl, fun V (hV : W0.grownBy V none) => by go_simp⟩) hh6 ?_
        (try simp only [Act.put, List.setIfInBounds_toArray, List.set_cons_zero, List.set_cons_succ])
        refine wpAnyH_ready (rs := [14]) (by kernel_rfl) (by simp) ?_
        refine AllReadyH.cons (o := { dst := some 18, op := Op.call { callee := Callee.value (Operand.func 43), args := #[(Operand.tmp 17)], argTypes := #[9] }, type := _, pos := _, after := _, guard := _ }) rfl (fun K9 hK9 => ?_) AllReadyH.nil
        go_simp
        go_at_call 43
        refine (csum wc5).mono ?_
        rintro e wc7 ⟨rfl, gc7⟩
        go_wp2_with fail
        have gg8wb1 := tn (gg6wb1) gc7
        have gg8wa3 := tn (gg6wa3) gc7
        have hh8 := tn hh6 gc7
        refine hK9.out _ _ hh8 (fun _ => ?_)
        clear hK9 K9
        (try simp only [Act.put, List.setIfInBounds_toArray, List.set_cons_zero, List.set_cons_succ])
        refine wpAnyH_ready (rs := [16]) (by kernel_rfl) (by simp) ?_
        refine AllReadyH.cons (o := { dst := none, op := Op.store 37 (Operand.tmp 3) (Operand.tmp 18), type := _, pos := _, after := _, guard := _ }) rfl (fun K9 hK9 => ?_) AllReadyH.nil
        have hX9 := hB3.kept gg8wa3 (by simp)
        rw [if_pos (by rfl)]
        refine wp_store_row _ _ _ rfl wb1.heap.size S.toArray rfl rfl _ _ hX9 (unhide HI) (unhide HZS) (unhide HSO) ?_
        obtain ⟨wf, hwf⟩ : ∃ V, V = wc7.setRow wb1.heap.size S.toArray := ⟨_, rfl⟩
        have hf : W0.grownBy wf none := by rw [hwf]; exact gb_row hh8 _ (Or.inl hh2.size)
        have hBf : Blk wf wb1.heap.size 37 S := by rw [hwf]; exact hX9.row S
        rw [← hwf]
        refine hK9.out _ _ hf (fun _ => ?_)
        clear hK9 K9 hwf
        (try simp only [Act.put])
        refine wpAnyH_done (by kernel_rfl) ?_ _
        refine NoPanic.normal ?_
        have z9 := htail _ _ hBf
        have z8 := hsl wb1.heap.size
        clear hBf
        go_wp2
        go_ret
        exact ⟨rfl, tn g0 hf⟩
    · go_simp
      go_at_call 44
      refine (cput wb1).mono ?_
      rintro e wc3 ⟨rfl, gc3⟩
      go_wp2_with fail
      have gg4wb1 := tn ((gb_refl wb1 none)) gc3
      have hh4 := tn hh2 gc3
      refine hK9.out _ _ hh4 (fun _ => ?_)
      clear hK9 K9
      (try simp only [Act.put, List.setIfInBounds_toArray, List.set_cons_zero, List.set_cons_succ])
      refine wpAnyH_ready (rs := [4, 15]) (by kernel_rfl) (by simp) ?_
      refine AllReadyH.cons (o := { dst := some 8, op := Op.convert 22 9 (Operand.tmp 7), type := _, pos := _, after := _, guard := _ }) rfl (fun K9 hK9 => ?_) (AllReadyH.cons (o := { dst := some 3, op := Op.alloc 37, type := _, pos := _, after := _, guard := _ }) rfl (fun K9 hK9 => ?_) AllReadyH.nil)
      · have z9 := conv_str (hb1.kept gg4wb1 (fun _ e => by cases e))
        rw [show ([UInt8.ofInt k] : List UInt8).length = 1 from rfl, ← unhide HTB] at z9
        go_simp
        clear z9
        refine hK9.out _ _ hh4 (fun _ => ?_)
        clear hK9 K9
        (try simp only [Act.put, List.setIfInBounds_toArray, List.set_cons_zero, List.set_cons_succ])
        refine wpAnyH_take (i := 10) (oi := { dst := some 14, op := Op.binOp BinOp.add 9 (Operand.tmp 8) (Operand.tmp 13) 9, type := _, pos := _, after := _, guard := _ }) (v := .string T2) rfl (by kernel_rfl) (by kernel_rfl) (by kernel_rfl) (fun _ _ _ h => h) (Or.inl ⟨by rfl, fun V (hV : W0.grownBy V none) => by go_simp⟩) hh4 ?_
        (try simp only [Act.put, List.setIfInBounds_toArray, List.set_cons_zero, List.set_cons_succ])
        refine wpAnyH_take (i := 13) (oi := { dst := some 17, op := Op.binOp BinOp.add 9 (Operand.tmp 14) (Operand.tmp 16) 9, type := _, pos := _, after := _, guard := _ }) (v := .string TQ) rfl (by kernel_rfl) (by kernel_rfl) (by kernel_rfl) (fun _ _ _ h => h) (Or.inl ⟨by rfl, fun V (hV : W0.grownBy V none) => by go_simp⟩) hh4 ?_
        (try simp only [Act.put, List.setIfInBounds_toArray, List.set_cons_zero, List.set_cons_succ])
        refine wpAnyH_ready (rs := [14, 15]) (by kernel_rfl) (by simp) ?_
        refine AllReadyH.cons (o := { dst := some 18, op := Op.call { callee := Callee.value (Operand.func 43), args := #[(Operand.tmp 17)], argTypes := #[9] }, type := _, pos := _, after := _, guard := _ }) rfl (fun K9 hK9 => ?_) (AllReadyH.cons (o := { dst := some 3, op := Op.alloc 37, type := _, pos := _, after := _, guard := _ }) rfl (fun K9 hK9 => ?_) AllReadyH.nil)
        · go_simp
          go_at_call 43
          refine (csum wc3).mono ?_
          rintro e wc5 ⟨rfl, gc5⟩
          go_wp2_with fail
          have gg6wb1 := tn (gg4wb1) gc5
          have hh6 := tn hh4 gc5
          refine hK9.out _ _ hh6 (fun _ => ?_)
          clear hK9 K9
          (try simp only [Act.put, List.setIfInBounds_toArray, List.set_cons_zero, List.set_cons_succ])
          refine wpAnyH_ready (rs := [15]) (by kernel_rfl) (by simp) ?_
          refine AllReadyH.cons (o := { dst := some 3, op := Op.alloc 37, type := _, pos := _, after := _, guard := _ }) rfl (fun K9 hK9 => ?_) AllReadyH.nil
          obtain ⟨wa7, hw7, hB7, ga7⟩ := box_new wc5 37 ZL
          have z9 := hzv wc5
          go_simp
          rw [← hw7]
          clear z9
          have gg8wb1 := tn (gg6wb1) ga7
          have hh8 := tn hh6 ga7
          refine hK9.out _ _ hh8 (fun _ => ?_)
          clear hK9 K9 hw7
          (try simp only [Act.put, List.setIfInBounds_toArray, List.set_cons_zero, List.set_cons_succ])
          refine wpAnyH_ready (rs := [16]) (by kernel_rfl) (by simp) ?_
          refine AllReadyH.cons (o := { dst := none, op := Op.store 37 (Operand.tmp 3) (Operand.tmp 18), type := _, pos := _, after := _, guard := _ }) rfl (fun K9 hK9 => ?_) AllReadyH.nil
          have hX9 := hB7.kept (gb_refl wa7 none) (by simp)
          rw [if_pos (by rfl)]
          refine wp_store_row _ _ _ rfl wc5.heap.size S.toArray rfl rfl _ _ hX9 (unhide HI) (unhide HZS) (unhide HSO) ?_
          obtain ⟨wf, hwf⟩ : ∃ V, V = wa7.setRow wc5.heap.size S.toArray := ⟨_, rfl⟩
          have hf : W0.grownBy wf none := by rw [hwf]; exact gb_row hh8 _ (Or.inl hh6.size)
          have hBf : Blk wf wc5.heap.size 37 S := by rw [hwf]; exact hX9.row S
          rw [← hwf]
          refine hK9.out _ _ hf (fun _ => ?_)
          clear hK9 K9 hwf
          (try simp only [Act.put])
          refine wpAnyH_done (by kernel_rfl) ?_ _
          refine NoPanic.normal ?_
          have z9 := htail _ _ hBf
          have z8 := hsl wc5.heap.size
          clear hBf
          go_wp2
          go_ret
          exact ⟨rfl, tn g0 hf⟩
        · obtain ⟨wa5, hw5, hB5, ga5⟩ := box_new wc3 37 ZL
          have z9 := hzv wc3
          go_simp
          rw [← hw5]
          clear z9
          have gg6wb1 := tn (gg4wb1) ga5
          have hh6 := tn hh4 ga5
          refine hK9.out _ _ hh6 (fun _ => ?_)
          clear hK9 K9 hw5
          (try simp only [Act.put, List.setIfInBounds_toArray, List.set_cons_zero, List.set_cons_succ])
          refine wpAnyH_ready (rs := [14]) (by kernel_rfl) (by simp) ?_
          refine AllReadyH.cons (o := { dst := some 18, op := Op.call { callee := Callee.value (Operand.func 43), args := #[(Operand.tmp 17)], argTypes := #[9] }, type := _, pos := _, after := _, guard := _ }) rfl (fun K9 hK9 => ?_) AllReadyH.nil
          go_simp
          go_at_call 43
          refine (csum wa5).mono ?_
          rintro e wc7 ⟨rfl, gc7⟩
          go_wp2_with fail
          have gg8wb1 := tn (gg6wb1) gc7
          have gg8wa5 := tn ((gb_refl wa5 none)) gc7
          have hh8 := tn hh6 gc7
          refine hK9.out _ _ hh8 (fun _ => ?_)
          clear hK9 K9
          (try simp only [Act.put, List.setIfInBounds_toArray, List.set_cons_zero, List.set_cons_succ])
          refine wpAnyH_ready (rs := [16]) (by kernel_rfl) (by simp) ?_
          refine AllReadyH.cons (o := { dst := none, op := Op.store 37 (Operand.tmp 3) (Operand.tmp 18), type := _, pos := _, after := _, guard := _ }) rfl (fun K9 hK9 => ?_) AllReadyH.nil
          have hX9 := hB5.kept gg8wa5 (by simp)
          rw [if_pos (by rfl)]
          refine wp_store_row _ _ _ rfl wc3.heap.size S.toArray rfl rfl _ _ hX9 (unhide HI) (unhide HZS) (unhide HSO) ?_
          obtain ⟨wf, hwf⟩ : ∃ V, V = wc7.setRow wc3.heap.size S.toArray := ⟨_, rfl⟩
          have hf : W0.grownBy wf none := by rw [hwf]; exact gb_row hh8 _ (Or.inl hh4.size)
          have hBf : Blk wf wc3.heap.size 37 S := by rw [hwf]; exact hX9.row S
          rw [← hwf]
          refine hK9.out _ _ hf (fun _ => ?_)
          clear hK9 K9 hwf
          (try simp only [Act.put])
          refine wpAnyH_done (by kernel_rfl) ?_ _
          refine NoPanic.normal ?_
          have z9 := htail _ _ hBf
          have z8 := hsl wc3.heap.size
          clear hBf
          go_wp2
          go_ret
          exact ⟨rfl, tn g0 hf⟩
      · obtain ⟨wa5, hw5, hB5, ga5⟩ := box_new wc3 37 ZL
        have z9 := hzv wc3
        go_simp
        rw [← hw5]
        clear z9
        have gg6wb1 := tn (gg4wb1) ga5
        have hh6 := tn hh4 ga5
        refine hK9.out _ _ hh6 (fun _ => ?_)
        clear hK9 K9 hw5
        (try simp only [Act.put, List.setIfInBounds_toArray, List.set_cons_zero, List.set_cons_succ])
        refine wpAnyH_ready (rs := [4]) (by kernel_rfl) (by simp) ?_
        refine AllReadyH.cons (o := { dst := some 8, op := Op.convert 22 9 (Operand.tmp 7), type := _, pos := _, after := _, guard := _ }) rfl (fun K9 hK9 => ?_) AllReadyH.nil
        have z9 := conv_str (hb1.kept gg6wb1 (fun _ e => by cases e))
        rw [show ([UInt8.ofInt k] : List UInt8).length = 1 from rfl, ← unhide HTB] at z9
        go_simp
        clear z9
        refine hK9.out _ _ hh6 (fun _ => ?_)
        clear hK9 K9
        (try simp only [Act.put, List.setIfInBounds_toArray, List.set_cons_zero, List.set_cons_succ])
        refine wpAnyH_take (i := 10) (oi := { dst := some 14, op := Op.binOp BinOp.add 9 (Operand.tmp 8) (Operand.tmp 13) 9, type := _, pos := _, after := _, guard := _ }) (v := .string T2) rfl (by kernel_rfl) (by kernel_rfl) (by kernel_rfl) (fun _ _ _ h => h) (Or.inl ⟨by rfl, fun V (hV : W0.grownBy V none) => by go_simp⟩) hh6 ?_
        (try simp only [Act.put, List.setIfInBounds_toArray, List.set_cons_zero, List.set_cons_succ])
        refine wpAnyH_take (i := 13) (oi := { dst := some 17, op := Op.binOp BinOp.add 9 (Operand.tmp 14) (Operand.tmp 16) 9, type := _, pos := _, after := _, guard := _ }) (v := .string TQ) rfl (by kernel_rfl) (by kernel_rfl) (by kernel_rfl) (fun _ _ _ h => h) (Or.inl ⟨by rfl, fun V (hV : W0.grownBy V none) => by go_simp⟩) hh6 ?_
        (try simp only [Act.put, List.setIfInBounds_toArray, List.set_cons_zero, List.set_cons_succ])
        refine wpAnyH_ready (rs := [14]) (by kernel_rfl) (by simp) ?_
        refine AllReadyH.cons (o := { dst := some 18, op := Op.call { callee := Callee.value (Operand.func 43), args := #[(Operand.tmp 17)], argTypes := #[9] }, type := _, pos := _, after := _, guard := _ }) rfl (fun K9 hK9 => ?_) AllReadyH.nil
        go_simp
        go_at_call 43
        refine (csum wa5).mono ?_
        rintro e wc7 ⟨rfl, gc7⟩
        go_wp2_with fail
        have gg8wb1 := tn (gg6wb1) gc7
        have gg8wa5 := tn ((gb_refl wa5 none)) gc7
        have hh8 := tn hh6 gc7
        refine hK9.out _ _ hh8 (fun _ => ?_)
        clear hK9 K9
        (try simp only [Act.put, List.setIfInBounds_toArray, List.set_cons_zero, List.set_cons_succ])
        refine wpAnyH_ready (rs := [16]) (by kernel_rfl) (by simp) ?_
        refine AllReadyH.cons (o := { dst := none, op := Op.store 37 (Operand.tmp 3) (Operand.tmp 18), type := _, pos := _, after := _, guard := _ }) rfl (fun K9 hK9 => ?_) AllReadyH.nil
        have hX9 := hB5.kept gg8wa5 (by simp)
        rw [if_pos (by rfl)]
        refine wp_store_row _ _ _ rfl wc3.heap.size S.toArray rfl rfl _ _ hX9 (unhide HI) (unhide HZS) (unhide HSO) ?_
        obtain ⟨wf, hwf⟩ : ∃ V, V = wc7.setRow wc3.heap.size S.toArray := ⟨_, rfl⟩
        have hf : W0.grownBy wf none := by rw [hwf]; exact gb_row hh8 _ (Or.inl hh4.size)
        have hBf : Blk wf wc3.heap.size 37 S := by rw [hwf]; exact hX9.row S
        rw [← hwf]
        refine hK9.out _ _ hf (fun _ => ?_)
        clear hK9 K9 hwf
        (try simp only [Act.put])
        refine wpAnyH_done (by kernel_rfl) ?_ _
        refine NoPanic.normal ?_
        have z9 := htail _ _ hBf
        have z8 := hsl wc3.heap.size
        clear hBf
        go_wp2
        go_ret
        exact ⟨rfl, tn g0 hf⟩
    · obtain ⟨wa3, hw3, hB3, ga3⟩ := box_new wb1 37 ZL
      have z9 := hzv wb1
      go_simp
      rw [← hw3]
      clear z9
      have gg4wb1 := tn ((gb_refl wb1 none)) ga3
      have hh4 := tn hh2 ga3
      refine hK9.out _ _ hh4 (fun _ => ?_)
      clear hK9 K9 hw3
      (try simp only [Act.put, List.setIfInBounds_toArray, List.set_cons_zero, List.set_cons_succ])
      refine wpAnyH_ready (rs := [4, 9]) (by kernel_rfl) (by simp) ?_
      refine AllReadyH.cons (o := { dst := some 8, op := Op.convert 22 9 (Operand.tmp 7), type := _, pos := _, after := _, guard := _ }) rfl (fun K9 hK9 => ?_) (AllReadyH.cons (o := { dst := some 13, op := Op.call { callee := Callee.value (Operand.func 44), args := #[Operand.const (Value.string { data := #[] }), (Operand.tmp 12), Operand.const (Value.int IntKind.i64 4)], argTypes := #[9, 40, 3] }, type := _, pos := _, after := _, guard := _ }) rfl (fun K9 hK9 => ?_) AllReadyH.nil)
      · have z9 := conv_str (hb1.kept gg4wb1 (fun _ e => by cases e))
        rw [show ([UInt8.ofInt k] : List UInt8).length = 1 from rfl, ← unhide HTB] at z9
        go_simp
        clear z9
        refine hK9.out _ _ hh4 (fun _ => ?_)
        clear hK9 K9
        (try simp only [Act.put, List.setIfInBounds_toArray, List.set_cons_zero, List.set_cons_succ])
        refine wpAnyH_ready (rs := [9]) (by kernel_rfl) (by simp) ?_
        refine AllReadyH.cons (o := { dst := some 13, op := Op.call { callee := Callee.value (Operand.func 44), args := #[Operand.const (Value.string { data := #[] }), (Operand.tmp 12), Operand.const (Value.int IntKind.i64 4)], argTypes := #[9, 40, 3] }, type := _, pos := _, after := _, guard := _ }) rfl (fun K9 hK9 => ?_) AllReadyH.nil
        go_simp
        go_at_call 44
        refine (cput wa3).mono ?_
        rintro e wc5 ⟨rfl, gc5⟩
        go_wp2_with fail
        have gg6wb1 := tn (gg4wb1) gc5
        have gg6wa3 := tn ((gb_refl wa3 none)) gc5
        have hh6 := tn hh4 gc5
        refine hK9.out _ _ hh6 (fun _ => ?_)
        clear hK9 K9
        (try simp only [Act.put, List.setIfInBounds_toArray, List.set_cons_zero, List.set_cons_succ])
        refine wpAnyH_take (i := 10) (oi := { dst := some 14, op := Op.binOp BinOp.add 9 (Operand.tmp 8) (Operand.tmp 13) 9, type := _, pos := _, after := _, guard := _ }) (v := .string T2) rfl (by kernel_rfl) (by kernel_rfl) (by kernel_rfl) (fun _ _ _ h => h) (Or.inl ⟨by rfl, fun V (hV : W0.grownBy V none) => by go_simp⟩) hh6 ?_
        (try simp only [Act.put, List.setIfInBounds_toArray, List.set_cons_zero, List.set_cons_succ])
        refine wpAnyH_take (i := 13) (oi := { dst := some 17, op := Op.binOp BinOp.add 9 (Operand.tmp 14) (Operand.tmp 16) 9, type := _, pos := _, after := _, guard := _ }) (v := .string TQ) rfl (by kernel_rfl) (by kernel_rfl) (by kernel_rfl) (fun _ _ _ h => h) (Or.inl ⟨by rfl, fun V (hV : W0.grownBy V none) => by go_simp⟩) hh6 ?_
        (try simp only [Act.put, List.setIfInBounds_toArray, List.set_cons_zero, List.set_cons_succ])
        refine wpAnyH_ready (rs := [14]) (by kernel_rfl) (by simp) ?_
        refine AllReadyH.cons (o := { dst := some 18, op := Op.call { callee := Callee.value (Operand.func 43), args := #[(Operand.tmp 17)], argTypes := #[9] }, type := _, pos := _, after := _, guard := _ }) rfl (fun K9 hK9 => ?_) AllReadyH.nil
        go_simp
        go_at_call 43
        refine (csum wc5).mono ?_
        rintro e wc7 ⟨rfl, gc7⟩
        go_wp2_with fail
        have gg8wb1 := tn (gg6wb1) gc7
        have gg8wa3 := tn (gg6wa3) gc7
        have hh8 := tn hh6 gc7
        refine hK9.out _ _ hh8 (fun _ => ?_)
        clear hK9 K9
        (try simp only [Act.put, List.setIfInBounds_toArray, List.set_cons_zero, List.set_cons_succ])
        refine wpAnyH_ready (rs := [16]) (by kernel_rfl) (by simp) ?_
        refine AllReadyH.cons (o := { dst := none, op := Op.store 37 (Operand.tmp 3) (Operand.tmp 18), type := _, pos := _, after := _, guard := _ }) rfl (fun K9 hK9 => ?_) AllReadyH.nil
        have hX9 := hB3.kept gg8wa3 (by simp)
        rw [if_pos (by rfl)]
        refine wp_store_row _ _ _ rfl wb1.heap.size S.toArray rfl rfl _ _ hX9 (unhide HI) (unhide HZS) (unhide HSO) ?_
        obtain ⟨wf, hwf⟩ : ∃ V, V = wc7.setRow wb1.heap.size S.toArray := ⟨_, rfl⟩
        have hf : W0.grownBy wf none := by rw [hwf]; exact gb_row hh8 _ (Or.inl hh2.size)
        have hBf : Blk wf wb1.heap.size 37 S := by rw [hwf]; exact hX9.row S
        rw [← hwf]
        refine hK9.out _ _ hf (fun _ => ?_)
        clear hK9 K9 hwf
        (try simp only [Act.put])
        refine wpAnyH_done (by kernel_rfl) ?_ _
        refine NoPanic.normal ?_
        have z9 := htail _ _ hBf
        have z8 := hsl wb1.heap.size
        clear hBf
        go_wp2
        go_ret
        exact ⟨rfl, tn g0 hf⟩
      · go_simp
        go_at_call 44
        refine (cput wa3).mono ?_
        rintro e wc5 ⟨rfl, gc5⟩
        go_wp2_with fail
        have gg6wb1 := tn (gg4wb1) gc5
        have gg6wa3 := tn ((gb_refl wa3 none)) gc5
        have hh6 := tn hh4 gc5
        refine hK9.out _ _ hh6 (fun _ => ?_)
        clear hK9 K9
        (try simp only [Act.put, List.setIfInBounds_toArray, List.set_cons_zero, List.set_cons_succ])
        refine wpAnyH_ready (rs := [4]) (by kernel_rfl) (by simp) ?_
        refine AllReadyH.cons (o := { dst := some 8, op := Op.convert 22 9 (Operand.tmp 7), type := _, pos := _, after := _, guard := _ }) rfl (fun K9 hK9 => ?_) AllReadyH.nil
        have z9 := conv_str (hb1.kept gg6wb1 (fun _ e => by cases e))
        rw [show ([UInt8.ofInt k] : List UInt8).length = 1 from rfl, ← unhide HTB] at z9
        go_simp
        clear z9
        refine hK9.out _ _ hh6 (fun _ => ?_)
        clear hK9 K9
        (try simp only [Act.put, List.setIfInBounds_toArray, List.set_cons_zero, List.set_cons_succ])
        refine wpAnyH_take (i := 10) (oi := { dst := some 14, op := Op.binOp BinOp.add 9 (Operand.tmp 8) (Operand.tmp 13) 9, type := _, pos := _, after := _, guard := _ }) (v := .string T2) rfl (by kernel_rfl) (by kernel_rfl) (by kernel_rfl) (fun _ _ _ h => h) (Or.inl ⟨by rfl, fun V (hV : W0.grownBy V none) => by go_simp⟩) hh6 ?_
        (try simp only [Act.put, List.setIfInBounds_toArray, List.set_cons_zero, List.set_cons_succ])
        refine wpAnyH_take (i := 13) (oi := { dst := some 17, op := Op.binOp BinOp.add 9 (Operand.tmp 14) (Operand.tmp 16) 9, type := _, pos := _, after := _, guard := _ }) (v := .string TQ) rfl (by kernel_rfl) (by kernel_rfl) (by kernel_rfl) (fun _ _ _ h => h) (Or.inl ⟨by rfl, fun V (hV : W0.grownBy V none) => by go_simp⟩) hh6 ?_
        (try simp only [Act.put, List.setIfInBounds_toArray, List.set_cons_zero, List.set_cons_succ])
        refine wpAnyH_ready (rs := [14]) (by kernel_rfl) (by simp) ?_
        refine AllReadyH.cons (o := { dst := some 18, op := Op.call { callee := Callee.value (Operand.func 43), args := #[(Operand.tmp 17)], argTypes := #[9] }, type := _, pos := _, after := _, guard := _ }) rfl (fun K9 hK9 => ?_) AllReadyH.nil
        go_simp
        go_at_call 43
        refine (csum wc5).mono ?_
        rintro e wc7 ⟨rfl, gc7⟩
        go_wp2_with fail
        have gg8wb1 := tn (gg6wb1) gc7
        have gg8wa3 := tn (gg6wa3) gc7
        have hh8 := tn hh6 gc7
        refine hK9.out _ _ hh8 (fun _ => ?_)
        clear hK9 K9
        (try simp only [Act.put, List.setIfInBounds_toArray, List.set_cons_zero, List.set_cons_succ])
        refine wpAnyH_ready (rs := [16]) (by kernel_rfl) (by simp) ?_
        refine AllReadyH.cons (o := { dst := none, op := Op.store 37 (Operand.tmp 3) (Operand.tmp 18), type := _, pos := _, after := _, guard := _ }) rfl (fun K9 hK9 => ?_) AllReadyH.nil
        have hX9 := hB3.kept gg8wa3 (by simp)
        rw [if_pos (by rfl)]
        refine wp_store_row _ _ _ rfl wb1.heap.size S.toArray rfl rfl _ _ hX9 (unhide HI) (unhide HZS) (unhide HSO) ?_
        obtain ⟨wf, hwf⟩ : ∃ V, V = wc7.setRow wb1.heap.size S.toArray := ⟨_, rfl⟩
        have hf : W0.grownBy wf none := by rw [hwf]; exact gb_row hh8 _ (Or.inl hh2.size)
        have hBf : Blk wf wb1.heap.size 37 S := by rw [hwf]; exact hX9.row S
        rw [← hwf]
        refine hK9.out _ _ hf (fun _ => ?_)
        clear hK9 K9 hwf
        (try simp only [Act.put])
        refine wpAnyH_done (by kernel_rfl) ?_ _
        refine NoPanic.normal ?_
        have z9 := htail _ _ hBf
        have z8 := hsl wb1.heap.size
        clear hBf
        go_wp2
        go_ret
        exact ⟨rfl, tn g0 hf⟩
  · go_simp
    go_at_call 44
    refine (cput WD).mono ?_
    rintro e wc1 ⟨rfl, gc1⟩
    go_wp2_with fail
    have hh2 := tn h0 gc1
    refine hK9.out _ _ hh2 (fun _ => ?_)
    clear hK9 K9
    (try simp only [Act.put, List.setIfInBounds_toArray, List.set_cons_zero, List.set_cons_succ])
    refine wpAnyH_ready (rs := [3, 15]) (by kernel_rfl) (by simp) ?_
    refine AllReadyH.cons (o := { dst := some 7, op := Op.buildSlice 22 1 #[(0, (Operand.tmp 6))], type := _, pos := _, after := _, guard := _ }) rfl (fun K9 hK9 => ?_) (AllReadyH.cons (o := { dst := some 3, op := Op.alloc 37, type := _, pos := _, after := _, guard := _ }) rfl (fun K9 hK9 => ?_) AllReadyH.nil)
    · obtain ⟨wb3, hw3, hb3, gb3⟩ := bts_b wc1 (UInt8.ofInt k)
      rw [← unhide HZ] at hw3
      go_simp
      rw [← hw3]
      have hh4 := tn hh2 gb3
      refine hK9.out _ _ hh4 (fun _ => ?_)
      clear hK9 K9 hw3
      (try simp only [Act.put, List.setIfInBounds_toArray, List.set_cons_zero, List.set_cons_succ])
      refine wpAnyH_ready (rs := [4, 15]) (by kernel_rfl) (by simp) ?_
      refine AllReadyH.cons (o := { dst := some 8, op := Op.convert 22 9 (Operand.tmp 7), type := _, pos := _, after := _, guard := _ }) rfl (fun K9 hK9 => ?_) (AllReadyH.cons (o := { dst := some 3, op := Op.alloc 37, type := _, pos := _, after := _, guard := _ }) rfl (fun K9 hK9 => ?_) AllReadyH.nil)
      · have z9 := conv_str (hb3.kept (gb_refl wb3 none) (fun _ e => by cases e))
        rw [show ([UInt8.ofInt k] : List UInt8).length = 1 from rfl, ← unhide HTB] at z9
        go_simp
        clear z9
        refine hK9.out _ _ hh4 (fun _ => ?_)
        clear hK9 K9
        (try simp only [Act.put, List.setIfInBounds_toArray, List.set_cons_zero, List.set_cons_succ])
        refine wpAnyH_take (i := 10) (oi := { dst := some 14, op := Op.binOp BinOp.add 9 (Operand.tmp 8) (Operand.tmp 13) 9, type := _, pos := _, after := _, guard := _ }) (v := .string T2) rfl (by kernel_rfl) (by kernel_rfl) (by kernel_rfl) (fun _ _ _ h => h) (Or.inl ⟨by rfl, fun V (hV : W0.grownBy V none) => by go_simp⟩) hh4 ?_
        (try simp only [Act.put, List.setIfInBounds_toArray, List.set_cons_zero, List.set_cons_succ])
        refine wpAnyH_take (i := 13) (oi := { dst := some 17, op := Op.binOp BinOp.add 9 (Operand.tmp 14) (Operand.tmp 16) 9, type := _, pos := _, after := _, guard := _ }) (v := .string TQ) rfl (by kernel_rfl) (by kernel_rfl) (by kernel_rfl) (fun _ _ _ h => h) (Or.inl ⟨by rfl, fun V (hV : W0.grownBy V none) => by go_simp⟩) hh4 ?_
        (try simp only [Act.put, List.setIfInBounds_toArray, List.set_cons_zero, List.set_cons_succ])
        refine wpAnyH_ready (rs := [14, 15]) (by kernel_rfl) (by simp) ?_
        refine AllReadyH.cons (o := { dst := some 18, op := Op.call { callee := Callee.value (Operand.func 43), args := #[(Operand.tmp 17)], argTypes := #[9] }, type := _, pos := _, after := _, guard := _ }) rfl (fun K9 hK9 => ?_) (AllReadyH.cons (o := { dst := some 3, op := Op.alloc 37, type := _, pos := _, after := _, guard := _ }) rfl (fun K9 hK9 => ?_) AllReadyH.nil)
        · go_simp
          go_at_call 43
          refine (csum wb3).mono ?_
          rintro e wc5 ⟨rfl, gc5⟩
          go_wp2_with fail
          have gg6wb3 := tn ((gb_refl wb3 none)) gc5
          have hh6 := tn hh4 gc5
          refine hK9.out _ _ hh6 (fun _ => ?_)
          clear hK9 K9
          (try simp only [Act.put, List.setIfInBounds_toArray, List.set_cons_zero, List.set_cons_succ])
          refine wpAnyH_ready (rs := [15]) (by kernel_rfl) (by simp) ?_
          refine AllReadyH.cons (o := { dst := some 3, op := Op.alloc 37, type := _, pos := _, after := _, guard := _ }) rfl (fun K9 hK9 => ?_) AllReadyH.nil
          obtain ⟨wa7, hw7, hB7, ga7⟩ := box_new wc5 37 ZL
          have z9 := hzv wc5
          go_simp
          rw [← hw7]
          clear z9
          have gg8wb3 := tn (gg6wb3) ga7
          have hh8 := tn hh6 ga7
          refine hK9.out _ _ hh8 (fun _ => ?_)
          clear hK9 K9 hw7
          (try simp only [Act.put, List.setIfInBounds_toArray, List.set_cons_zero, List.set_cons_succ])
          refine wpAnyH_ready (rs := [16]) (by kernel_rfl) (by simp) ?_
          refine AllReadyH.cons (o := { dst := none, op := Op.store 37 (Operand.tmp 3) (Operand.tmp 18), type := _, pos := _, after := _, guard := _ }) rfl (fun K9 hK9 => ?_) AllReadyH.nil
          have hX9 := hB7.kept (gb_refl wa7 none) (by simp)
          rw [if_pos (by rfl)]
          refine wp_store_row _ _ _ rfl wc5.heap.size S.toArray rfl rfl _ _ hX9 (unhide HI) (unhide HZS) (unhide HSO) ?_
          obtain ⟨wf, hwf⟩ : ∃ V, V = wa7.setRow wc5.heap.size S.toArray := ⟨_, rfl⟩
          have hf : W0.grownBy wf none := by rw [hwf]; exact gb_row hh8 _ (Or.inl hh6.size)
          have hBf : Blk wf wc5.heap.size 37 S := by rw [hwf]; exact hX9.row S
          rw [← hwf]
          refine hK9.out _ _ hf (fun _ => ?_)
          clear hK9 K9 hwf
          (try simp only [Act.put])
          refine wpAnyH_done (by kernel_rfl) ?_ _
          refine NoPanic.normal ?_
          have z9 := htail _ _ hBf
          have z8 := hsl wc5.heap.size
          clear hBf
          go_wp2
          go_ret
          exact ⟨rfl, tn g0 hf⟩
        · obtain ⟨wa5, hw5, hB5, ga5⟩ := box_new wb3 37 ZL
          have z9 := hzv wb3
          go_simp
          rw [← hw5]
          clear z9
          have gg6wb3 := tn ((gb_refl wb3 none)) ga5
          have hh6 := tn hh4 ga5
          refine hK9.out _ _ hh6 (fun _ => ?_)
          clear hK9 K9 hw5
          (try simp only [Act.put, List.setIfInBounds_toArray, List.set_cons_zero, List.set_cons_succ])
          refine wpAnyH_ready (rs := [14]) (by kernel_rfl) (by simp) ?_
          refine AllReadyH.cons (o := { dst := some 18, op := Op.call { callee := Callee.value (Operand.func 43), args := #[(Operand.tmp 17)], argTypes := #[9] }, type := _, pos := _, after := _, guard := _ }) rfl (fun K9 hK9 => ?_) AllReadyH.nil
          go_simp
          go_at_call 43
          refine (csum wa5).mono ?_
          rintro e wc7 ⟨rfl, gc7⟩
          go_wp2_with fail
          have gg8wb3 := tn (gg6wb3) gc7
          have gg8wa5 := tn ((gb_refl wa5 none)) gc7
          have hh8 := tn hh6 gc7
          refine hK9.out _ _ hh8 (fun _ => ?_)
          clear hK9 K9
          (try simp only [Act.put, List.setIfInBounds_toArray, List.set_cons_zero, List.set_cons_succ])
          refine wpAnyH_ready (rs := [16]) (by kernel_rfl) (by simp) ?_
          refine AllReadyH.cons (o := { dst := none, op := Op.store 37 (Operand.tmp 3) (Operand.tmp 18), type := _, pos := _, after := _, guard := _ }) rfl (fun K9 hK9 => ?_) AllReadyH.nil
          have hX9 := hB5.kept gg8wa5 (by simp)
          rw [if_pos (by rfl)]
          refine wp_store_row _ _ _ rfl wb3.heap.size S.toArray rfl rfl _ _ hX9 (unhide HI) (unhide HZS) (unhide HSO) ?_
          obtain ⟨wf, hwf⟩ : ∃ V, V = wc7.setRow wb3.heap.size S.toArray := ⟨_, rfl⟩
          have hf : W0.grownBy wf none := by rw [hwf]; exact gb_row hh8 _ (Or.inl hh4.size)
          have hBf : Blk wf wb3.heap.size 37 S := by rw [hwf]; exact hX9.row S
          rw [← hwf]
          refine hK9.out _ _ hf (fun _ => ?_)
          clear hK9 K9 hwf
          (try simp only [Act.put])
          refine wpAnyH_done (by kernel_rfl) ?_ _
          refine NoPanic.normal ?_
          have z9 := htail _ _ hBf
          have z8 := hsl wb3.heap.size
          clear hBf
          go_wp2
          go_ret
          exact ⟨rfl, tn g0 hf⟩
      · obtain ⟨wa5, hw5, hB5, ga5⟩ := box_new wb3 37 ZL
        have z9 := hzv wb3
        go_simp
        rw [← hw5]
        clear z9
        have gg6wb3 := tn ((gb_refl wb3 none)) ga5
        have hh6 := tn hh4 ga5
        refine hK9.out _ _ hh6 (fun _ => ?_)
        clear hK9 K9 hw5
        (try simp only [Act.put, List.setIfInBounds_toArray, List.set_cons_zero, List.set_cons_succ])
        refine wpAnyH_ready (rs := [4]) (by kernel_rfl) (by simp) ?_
        refine AllReadyH.cons (o := { dst := some 8, op := Op.convert 22 9 (Operand.tmp 7), type := _, pos := _, after := _, guard := _ }) rfl (fun K9 hK9 => ?_) AllReadyH.nil
        have z9 := conv_str (hb3.kept gg6wb3 (fun _ e => by cases e))
        rw [show ([UInt8.ofInt k] : List UInt8).length = 1 from rfl, ← unhide HTB] at z9
        go_simp
        clear z9
        refine hK9.out _ _ hh6 (fun _ => ?_)
        clear hK9 K9
        (try simp only [Act.put, List.setIfInBounds_toArray, List.set_cons_zero, List.set_cons_succ])
        refine wpAnyH_take (i := 10) (oi := { dst := some 14, op := Op.binOp BinOp.add 9 (Operand.tmp 8) (Operand.tmp 13) 9, type := _, pos := _, after := _, guard := _ }) (v := .string T2) rfl (by kernel_rfl) (by kernel_rfl) (by kernel_rfl) (fun _ _ _ h => h) (Or.inl ⟨by rfl, fun V (hV : W0.grownBy V none) => by go_simp⟩) hh6 ?_
        (try simp only [Act.put, List.setIfInBounds_toArray, List.set_cons_zero, List.set_cons_succ])
        refine wpAnyH_take (i := 13) (oi := { dst := some 17, op := Op.binOp BinOp.add 9 (Operand.tmp 14) (Operand.tmp 16) 9, type := _, pos := _, after := _, guard := _ }) (v := .string TQ) rfl (by kernel_rfl) (by kernel_rfl) (by kernel_rfl) (fun _ _ _ h => h) (Or.inl ⟨by rfl, fun V (hV : W0.grownBy V none) => by go_simp⟩) hh6 ?_
        (try simp only [Act.put, List.setIfInBounds_toArray, List.set_cons_zero, List.set_cons_succ])
        refine wpAnyH_ready (rs := [14]) (by kernel_rfl) (by simp) ?_
        refine AllReadyH.cons (o := { dst := some 18, op := Op.call { callee := Callee.value (Operand.func 43), args := #[(Operand.tmp 17)], argTypes := #[9] }, type := _, pos := _, after := _, guard := _ }) rfl (fun K9 hK9 => ?_) AllReadyH.nil
        go_simp
        go_at_call 43
        refine (csum wa5).mono ?_
        rintro e wc7 ⟨rfl, gc7⟩
        go_wp2_with fail
        have gg8wb3 := tn (gg6wb3) gc7
        have gg8wa5 := tn ((gb_refl wa5 none)) gc7
        have hh8 := tn hh6 gc7
        refine hK9.out _ _ hh8 (fun _ => ?_)
        clear hK9 K9
        (try simp only [Act.put, List.setIfInBounds_toArray, List.set_cons_zero, List.set_cons_succ])
        refine wpAnyH_ready (rs := [16]) (by kernel_rfl) (by simp) ?_
        refine AllReadyH.cons (o := { dst := none, op := Op.store 37 (Operand.tmp 3) (Operand.tmp 18), type := _, pos := _, after := _, guard := _ }) rfl (fun K9 hK9 => ?_) AllReadyH.nil
        have hX9 := hB5.kept gg8wa5 (by simp)
        rw [if_pos (by rfl)]
        refine wp_store_row _ _ _ rfl wb3.heap.size S.toArray rfl rfl _ _ hX9 (unhide HI) (unhide HZS) (unhide HSO) ?_
        obtain ⟨wf, hwf⟩ : ∃ V, V = wc7.setRow wb3.heap.size S.toArray := ⟨_, rfl⟩
        have hf : W0.grownBy wf none := by rw [hwf]; exact gb_row hh8 _ (Or.inl hh4.size)
        have hBf : Blk wf wb3.heap.size 37 S := by rw [hwf]; exact hX9.row S
        rw [← hwf]
        refine hK9.out _ _ hf (fun _ => ?_)
        clear hK9 K9 hwf
        (try simp only [Act.put])
        refine wpAnyH_done (by kernel_rfl) ?_ _
        refine NoPanic.normal ?_
        have z9 := htail _ _ hBf
        have z8 := hsl wb3.heap.size
        clear hBf
        go_wp2
        go_ret
        exact ⟨rfl, tn g0 hf⟩
    · obtain ⟨wa3, hw3, hB3, ga3⟩ := box_new wc1 37 ZL
      have z9 := hzv wc1
      go_simp
      rw [← hw3]
      clear z9
      have hh4 := tn hh2 ga3
      refine hK9.out _ _ hh4 (fun _ => ?_)
      clear hK9 K9 hw3
      (try simp only [Act.put, List.setIfInBounds_toArray, List.set_cons_zero, List.set_cons_succ])
      refine wpAnyH_ready (rs := [3]) (by kernel_rfl) (by simp) ?_
      refine AllReadyH.cons (o := { dst := some 7, op := Op.buildSlice 22 1 #[(0, (Operand.tmp 6))], type := _, pos := _, after := _, guard := _ }) rfl (fun K9 hK9 => ?_) AllReadyH.nil
      obtain ⟨wb5, hw5, hb5, gb5⟩ := bts_b wa3 (UInt8.ofInt k)
      rw [← unhide HZ] at hw5
      go_simp
      rw [← hw5]
      have gg6wa3 := tn ((gb_refl wa3 none)) gb5
      have hh6 := tn hh4 gb5
      refine hK9.out _ _ hh6 (fun _ => ?_)
      clear hK9 K9 hw5
      (try simp only [Act.put, List.setIfInBounds_toArray, List.set_cons_zero, List.set_cons_succ])
      refine wpAnyH_ready (rs := [4]) (by kernel_rfl) (by simp) ?_
      refine AllReadyH.cons (o := { dst := some 8, op := Op.convert 22 9 (Operand.tmp 7), type := _, pos := _, after := _, guard := _ }) rfl (fun K9 hK9 => ?_) AllReadyH.nil
      have z9 := conv_str (hb5.kept (gb_refl wb5 none) (fun _ e => by cases e))
      rw [show ([UInt8.ofInt k] : List UInt8).length = 1 from rfl, ← unhide HTB] at z9
      go_simp
      clear z9
      refine hK9.out _ _ hh6 (fun _ => ?_)
      clear hK9 K9
      (try simp only [Act.put, List.setIfInBounds_toArray, List.set_cons_zero, List.set_cons_succ])
      refine wpAnyH_take (i := 10) (oi := { dst := some 14, op := Op.binOp BinOp.add 9 (Operand.tmp 8) (Operand.tmp 13) 9, type := _, pos := _, after := _, guard := _ }) (v := .string T2) rfl (by kernel_rfl) (by kernel_rfl) (by kernel_rfl) (fun _ _ _ h => h) (Or.inl ⟨by rfl, fun V (hV : W0.grownBy V none) => by go_simp⟩) hh6 ?_
      (try simp only [Act.put, List.setIfInBounds_toArray, List.set_cons_zero, List.set_cons_succ])
      refine wpAnyH_take (i := 13) (oi := { dst := some 17, op := Op.binOp BinOp.add 9 (Operand.tmp 14) (Operand.tmp 16) 9, type := _, pos := _, after := _, guard := _ }) (v := .string TQ) rfl (by kernel_rfl) (by kernel_rfl) (by kernel_rfl) (fun _ _ _ h => h) (Or.inl ⟨by rfl, fun V (hV : W0.grownBy V none) => by go_simp⟩) hh6 ?_
      (try simp only [Act.put, List.setIfInBounds_toArray, List.set_cons_zero, List.set_cons_succ])
      refine wpAnyH_ready (rs := [14]) (by kernel_rfl) (by simp) ?_
      refine AllReadyH.cons (o := { dst := some 18, op := Op.call { callee := Callee.value (Operand.func 43), args := #[(Operand.tmp 17)], argTypes := #[9] }, type := _, pos := _, after := _, guard := _ }) rfl (fun K9 hK9 => ?_) AllReadyH.nil
      go_simp
      go_at_call 43
      refine (csum wb5).mono ?_
      rintro e wc7 ⟨rfl, gc7⟩
      go_wp2_with fail
      have gg8wa3 := tn (gg6wa3) gc7
      have gg8wb5 := tn ((gb_refl wb5 none)) gc7
      have hh8 := tn hh6 gc7
      refine hK9.out _ _ hh8 (fun _ => ?_)
      clear hK9 K9
      (try simp only [Act.put, List.setIfInBounds_toArray, List.set_cons_zero, List.set_cons_succ])
      refine wpAnyH_ready (rs := [16]) (by kernel_rfl) (by simp) ?_
      refine AllReadyH.cons (o := { dst := none, op := Op.store 37 (Operand.tmp 3) (Operand.tmp 18), type := _, pos := _, after := _, guard := _ }) rfl (fun K9 hK9 => ?_) AllReadyH.nil
      have hX9 := hB3.kept gg8wa3 (by simp)
      rw [if_pos (by rfl)]
      refine wp_store_row _ _ _ rfl wc1.heap.size S.toArray rfl rfl _ _ hX9 (unhide HI) (unhide HZS) (unhide HSO) ?_
      obtain ⟨wf, hwf⟩ : ∃ V, V = wc7.setRow wc1.heap.size S.toArray := ⟨_, rfl⟩
      have hf : W0.grownBy wf none := by rw [hwf]; exact gb_row hh8 _ (Or.inl hh2.size)
      have hBf : Blk wf wc1.heap.size 37 S := by rw [hwf]; exact hX9.row S
      rw [← hwf]
      refine hK9.out _ _ hf (fun _ => ?_)
      clear hK9 K9 hwf
      (try simp only [Act.put])
      refine wpAnyH_done (by kernel_rfl) ?_ _
      refine NoPanic.normal ?_
      have z9 := htail _ _ hBf
      have z8 := hsl wc1.heap.size
      clear hBf
      go_wp2
      go_ret
      exact ⟨rfl, tn g0 hf⟩
  · obtain ⟨wa1, hw1, hB1, ga1⟩ := box_new WD 37 ZL
    have z9 := hzv WD
    go_simp
    rw [← hw1]
    clear z9
    have hh2 := tn h0 ga1
    refine hK9.out _ _ hh2 (fun _ => ?_)
    clear hK9 K9 hw1
    (try simp only [Act.put, List.setIfInBounds_toArray, List.set_cons_zero, List.set_cons_succ])
    refine wpAnyH_ready (rs := [3, 9]) (by kernel_rfl) (by simp) ?_
    refine AllReadyH.cons (o := { dst := some 7, op := Op.buildSlice 22 1 #[(0, (Operand.tmp 6))], type := _, pos := _, after := _, guard := _ }) rfl (fun K9 hK9 => ?_) (AllReadyH.cons (o := { dst := some 13, op := Op.call { callee := Callee.value (Operand.func 44), args := #[Operand.const (Value.string { data := #[] }), (Operand.tmp 12), Operand.const (Value.int IntKind.i64 4)], argTypes := #[9, 40, 3] }, type := _, pos := _, after := _, guard := _ }) rfl (fun K9 hK9 => ?_) AllReadyH.nil)
    · obtain ⟨wb3, hw3, hb3, gb3⟩ := bts_b wa1 (UInt8.ofInt k)
      rw [← unhide HZ] at hw3
      go_simp
      rw [← hw3]
      have gg4wa1 := tn ((gb_refl wa1 none)) gb3
      have hh4 := tn hh2 gb3
      refine hK9.out _ _ hh4 (fun _ => ?_)
      clear hK9 K9 hw3
      (try simp only [Act.put, List.setIfInBounds_toArray, List.set_cons_zero, List.set_cons_succ])
      refine wpAnyH_ready (rs := [4, 9]) (by kernel_rfl) (by simp) ?_
      refine AllReadyH.cons (o := { dst := some 8, op := Op.convert 22 9 (Operand.tmp 7), type := _, pos := _, after := _, guard := _ }) rfl (fun K9 hK9 => ?_) (AllReadyH.cons (o := { dst := some 13, op := Op.call { callee := Callee.value (Operand.func 44), args := #[Operand.const (Value.string { data := #[] }), (Operand.tmp 12), Operand.const (Value.int IntKind.i64 4)], argTypes := #[9, 40, 3] }, type := _, pos := _, after := _, guard := _ }) rfl (fun K9 hK9 => ?_) AllReadyH.nil)
      · have z9 := conv_str (hb3.kept (gb_refl wb3 none) (fun _ e => by cases e))
        rw [show ([UInt8.ofInt k] : List UInt8).length = 1 from rfl, ← unhide HTB] at z9
        go_simp
        clear z9
        refine hK9.out _ _ hh4 (fun _ => ?_)
        clear hK9 K9
        (try simp only [Act.put, List.setIfInBounds_toArray, List.set_cons_zero, List.set_cons_succ])
        refine wpAnyH_ready (rs := [9]) (by kernel_rfl) (by simp) ?_
        refine AllReadyH.cons (o := { dst := some 13, op := Op.call { callee := Callee.value (Operand.func 44), args := #[Operand.const (Value.string { data := #[] }), (Operand.tmp 12), Operand.const (Value.int IntKind.i64 4)], argTypes := #[9, 40, 3] }, type := _, pos := _, after := _, guard := _ }) rfl (fun K9 hK9 => ?_) AllReadyH.nil
        go_simp
        go_at_call 44
        refine (cput wb3).mono ?_
        rintro e wc5 ⟨rfl, gc5⟩
        go_wp2_with fail
        have gg6wa1 := tn (gg4wa1) gc5
        have gg6wb3 := tn ((gb_refl wb3 none)) gc5
        have hh6 := tn hh4 gc5
        refine hK9.out _ _ hh6 (fun _ => ?_)
        clear hK9 K9
        (try simp only [Act.put, List.setIfInBounds_toArray, List.set_cons_zero, List.set_cons_succ])
        refine wpAnyH_take (i := 10) (oi := { dst := some 14, op := Op.binOp BinOp.add 9 (Operand.tmp 8) (Operand.tmp 13) 9, type := _, pos := _, after := _, guard := _ }) (v := .string T2) rfl (by kernel_rfl) (by kernel_rfl) (by kernel_rfl) (fun _ _ _ h => h) (Or.inl ⟨by rfl, fun V (hV : W0.grownBy V none) => by go_simp⟩) hh6 ?_
        (try simp only [Act.put, List.setIfInBounds_toArray, List.set_cons_zero, List.set_cons_succ])
        refine wpAnyH_take (i := 13) (oi := { dst := some 17, op := Op.binOp BinOp.add 9 (Operand.tmp 14) (Operand.tmp 16) 9, type := _, pos := _, after := _, guard := _ }) (v := .string TQ) rfl (by kernel_rfl) (by kernel_rfl) (by kernel_rfl) (fun _ _ _ h => h) (Or.inl ⟨by rfl, fun V (hV : W0.grownBy V none) => by go_simp⟩) hh6 ?_
        (try simp only [Act.put, List.setIfInBounds_toArray, List.set_cons_zero, List.set_cons_succ])
        refine wpAnyH_ready (rs := [14]) (by kernel_rfl) (by simp) ?_
        refine AllReadyH.cons (o := { dst := some 18, op := Op.call { callee := Callee.value (Operand.func 43), args := #[(Operand.tmp 17)], argTypes := #[9] }, type := _, pos := _, after := _, guard := _ }) rfl (fun K9 hK9 => ?_) AllReadyH.nil
        go_simp
        go_at_call 43
        refine (csum wc5).mono ?_
        rintro e wc7 ⟨rfl, gc7⟩
        go_wp2_with fail
        have gg8wa1 := tn (gg6wa1) gc7
        have gg8wb3 := tn (gg6wb3) gc7
        have hh8 := tn hh6 gc7
        refine hK9.out _ _ hh8 (fun _ => ?_)
        clear hK9 K9
        (try simp only [Act.put, List.setIfInBounds_toArray, List.set_cons_zero, List.set_cons_succ])
        refine wpAnyH_ready (rs := [16]) (by kernel_rfl) (by simp) ?_
        refine AllReadyH.cons (o := { dst := none, op := Op.store 37 (Operand.tmp 3) (Operand.tmp 18), type := _, pos := _, after := _, guard := _ }) rfl (fun K9 hK9 => ?_) AllReadyH.nil
        have hX9 := hB1.kept gg8wa1 (by simp)
        rw [if_pos (by rfl)]
        refine wp_store_row _ _ _ rfl WD.heap.size S.toArray rfl rfl _ _ hX9 (unhide HI) (unhide HZS) (unhide HSO) ?_
        obtain ⟨wf, hwf⟩ : ∃ V, V = wc7.setRow WD.heap.size S.toArray := ⟨_, rfl⟩
        have hf : W0.grownBy wf none := by rw [hwf]; exact gb_row hh8 _ (Or.inl h0.size)
        have hBf : Blk wf WD.heap.size 37 S := by rw [hwf]; exact hX9.row S
        rw [← hwf]
        refine hK9.out _ _ hf (fun _ => ?_)
        clear hK9 K9 hwf
        (try simp only [Act.put])
        refine wpAnyH_done (by kernel_rfl) ?_ _
        refine NoPanic.normal ?_
        have z9 := htail _ _ hBf
        have z8 := hsl WD.heap.size
        clear hBf
        go_wp2
        go_ret
        exact ⟨rfl, tn g0 hf⟩
      · go_simp
        go_at_call 44
        refine (cput wb3).mono ?_
        rintro e wc5 ⟨rfl, gc5⟩
        go_wp2_with fail
        have gg6wa1 := tn (gg4wa1) gc5
        have gg6wb3 := tn ((gb_refl wb3 none)) gc5
        have hh6 := tn hh4 gc5
        refine hK9.out _ _ hh6 (fun _ => ?_)
        clear hK9 K9
        (try simp only [Act.put, List.setIfInBounds_toArray, List.set_cons_zero, List.set_cons_succ])
        refine wpAnyH_ready (rs := [4]) (by kernel_rfl) (by simp) ?_
        refine AllReadyH.cons (o := { dst := some 8, op := Op.convert 22 9 (Operand.tmp 7), type := _, pos := _, after := _, guard := _ }) rfl (fun K9 hK9 => ?_) AllReadyH.nil
        have z9 := conv_str (hb3.kept gg6wb3 (fun _ e => by cases e))
        rw [show ([UInt8.ofInt k] : List UInt8).length = 1 from rfl, ← unhide HTB] at z9
        go_simp
        clear z9
        refine hK9.out _ _ hh6 (fun _ => ?_)
        clear hK9 K9
        (try simp only [Act.put, List.setIfInBounds_toArray, List.set_cons_zero, List.set_cons_succ])
        refine wpAnyH_take (i := 10) (oi := { dst := some 14, op := Op.binOp BinOp.add 9 (Operand.tmp 8) (Operand.tmp 13) 9, type := _, pos := _, after := _, guard := _ }) (v := .string T2) rfl (by kernel_rfl) (by kernel_rfl) (by kernel_rfl) (fun _ _ _ h => h) (Or.inl ⟨by rfl, fun V (hV : W0.grownBy V none) => by go_simp⟩) hh6 ?_
        (try simp only [Act.put, List.setIfInBounds_toArray, List.set_cons_zero, List.set_cons_succ])
        refine wpAnyH_take (i := 13) (oi := { dst := some 17, op := Op.binOp BinOp.add 9 (Operand.tmp 14) (Operand.tmp 16) 9, type := _, pos := _, after := _, guard := _ }) (v := .string TQ) rfl (by kernel_rfl) (by kernel_rfl) (by kernel_rfl) (fun _ _ _ h => h) (Or.inl ⟨by rfl, fun V (hV : W0.grownBy V none) => by go_simp⟩) hh6 ?_
        (try simp only [Act.put, List.setIfInBounds_toArray, List.set_cons_zero, List.set_cons_succ])
        refine wpAnyH_ready (rs := [14]) (by kernel_rfl) (by simp) ?_
        refine AllReadyH.cons (o := { dst := some 18, op := Op.call { callee := Callee.value (Operand.func 43), args := #[(Operand.tmp 17)], argTypes := #[9] }, type := _, pos := _, after := _, guard := _ }) rfl (fun K9 hK9 => ?_) AllReadyH.nil
        go_simp
        go_at_call 43
        refine (csum wc5).mono ?_
        rintro e wc7 ⟨rfl, gc7⟩
        go_wp2_with fail
        have gg8wa1 := tn (gg6wa1) gc7
        have gg8wb3 := tn (gg6wb3) gc7
        have hh8 := tn hh6 gc7
        refine hK9.out _ _ hh8 (fun _ => ?_)
        clear hK9 K9
        (try simp only [Act.put, List.setIfInBounds_toArray, List.set_cons_zero, List.set_cons_succ])
        refine wpAnyH_ready (rs := [16]) (by kernel_rfl) (by simp) ?_
        refine AllReadyH.cons (o := { dst := none, op := Op.store 37 (Operand.tmp 3) (Operand.tmp 18), type := _, pos := _, after := _, guard := _ }) rfl (fun K9 hK9 => ?_) AllReadyH.nil
        have hX9 := hB1.kept gg8wa1 (by simp)
        rw [if_pos (by rfl)]
        refine wp_store_row _ _ _ rfl WD.heap.size S.toArray rfl rfl _ _ hX9 (unhide HI) (unhide HZS) (unhide HSO) ?_
        obtain ⟨wf, hwf⟩ : ∃ V, V = wc7.setRow WD.heap.size S.toArray := ⟨_, rfl⟩
        have hf : W0.grownBy wf none := by rw [hwf]; exact gb_row hh8 _ (Or.inl h0.size)
        have hBf : Blk wf WD.heap.size 37 S := by rw [hwf]; exact hX9.row S
        rw [← hwf]
        refine hK9.out _ _ hf (fun _ => ?_)
        clear hK9 K9 hwf
        (try simp only [Act.put])
        refine wpAnyH_done (by kernel_rfl) ?_ _
        refine NoPanic.normal ?_
        have z9 := htail _ _ hBf
        have z8 := hsl WD.heap.size
        clear hBf
        go_wp2
        go_ret
        exact ⟨rfl, tn g0 hf⟩
    · go_simp
      go_at_call 44
      refine (cput wa1).mono ?_
      rintro e wc3 ⟨rfl, gc3⟩
      go_wp2_with fail
      have gg4wa1 := tn ((gb_refl wa1 none)) gc3
      have hh4 := tn hh2 gc3
      refine hK9.out _ _ hh4 (fun _ => ?_)
      clear hK9 K9
      (try simp only [Act.put, List.setIfInBounds_toArray, List.set_cons_zero, List.set_cons_succ])
      refine wpAnyH_ready (rs := [3]) (by kernel_rfl) (by simp) ?_
      refine AllReadyH.cons (o := { dst := some 7, op := Op.buildSlice 22 1 #[(0, (Operand.tmp 6))], type := _, pos := _, after := _, guard := _ }) rfl (fun K9 hK9 => ?_) AllReadyH.nil
      obtain ⟨wb5, hw5, hb5, gb5⟩ := bts_b wc3 (UInt8.ofInt k)
      rw [← unhide HZ] at hw5
      go_simp
      rw [← hw5]
      have gg6wa1 := tn (gg4wa1) gb5
      have hh6 := tn hh4 gb5
      refine hK9.out _ _ hh6 (fun _ => ?_)
      clear hK9 K9 hw5
      (try simp only [Act.put, List.setIfInBounds_toArray, List.set_cons_zero, List.set_cons_succ])
      refine wpAnyH_ready (rs := [4]) (by kernel_rfl) (by simp) ?_
      refine AllReadyH.cons (o := { dst := some 8, op := Op.convert 22 9 (Operand.tmp 7), type := _, pos := _, after := _, guard := _ }) rfl (fun K9 hK9 => ?_) AllReadyH.nil
      have z9 := conv_str (hb5.kept (gb_refl wb5 none) (fun _ e => by cases e))
      rw [show ([UInt8.ofInt k] : List UInt8).length = 1 from rfl, ← unhide HTB] at z9
      go_simp
      clear z9
      refine hK9.out _ _ hh6 (fun _ => ?_)
      clear hK9 K9
      (try simp only [Act.put, List.setIfInBounds_toArray, List.set_cons_zero, List.set_cons_succ])
      refine wpAnyH_take (i := 10) (oi := { dst := some 14, op := Op.binOp BinOp.add 9 (Operand.tmp 8) (Operand.tmp 13) 9, type := _, pos := _, after := _, guard := _ }) (v := .string T2) rfl (by kernel_rfl) (by kernel_rfl) (by kernel_rfl) (fun _ _ _ h => h) (Or.inl ⟨by rfl, fun V (hV : W0.grownBy V none) => by go_simp⟩) hh6 ?_
      (try simp only [Act.put, List.setIfInBounds_toArray, List.set_cons_zero, List.set_cons_succ])
      refine wpAnyH_take (i := 13) (oi := { dst := some 17, op := Op.binOp BinOp.add 9 (Operand.tmp 14) (Operand.tmp 16) 9, type := _, pos := _, after := _, guard := _ }) (v := .string TQ) rfl (by kernel_rfl) (by kernel_rfl) (by kernel_rfl) (fun _ _ _ h => h) (Or.inl ⟨by rfl, fun V (hV : W0.grownBy V none) => by go_simp⟩) hh6 ?_
      (try simp only [Act.put, List.setIfInBounds_toArray, List.set_cons_zero, List.set_cons_succ])
      refine wpAnyH_ready (rs := [14]) (by kernel_rfl) (by simp) ?_
      refine AllReadyH.cons (o := { dst := some 18, op := Op.call { callee := Callee.value (Operand.func 43), args := #[(Operand.tmp 17)], argTypes := #[9] }, type := _, pos := _, after := _, guard := _ }) rfl (fun K9 hK9 => ?_) AllReadyH.nil
      go_simp
      go_at_call 43
      refine (csum wb5).mono ?_
      rintro e wc7 ⟨rfl, gc7⟩
      go_wp2_with fail
      have gg8wa1 := tn (gg6wa1) gc7
      have gg8wb5 := tn ((gb_refl wb5 none)) gc7
      have hh8 := tn hh6 gc7
      refine hK9.out _ _ hh8 (fun _ => ?_)
      clear hK9 K9
      (try simp only [Act.put, List.setIfInBounds_toArray, List.set_cons_zero, List.set_cons_succ])
      refine wpAnyH_ready (rs := [16]) (by kernel_rfl) (by simp) ?_
      refine AllReadyH.cons (o := { dst := none, op := Op.store 37 (Operand.tmp 3) (Operand.tmp 18), type := _, pos := _, after := _, guard := _ }) rfl (fun K9 hK9 => ?_) AllReadyH.nil
      have hX9 := hB1.kept gg8wa1 (by simp)
      rw [if_pos (by rfl)]
      refine wp_store_row _ _ _ rfl WD.heap.size S.toArray rfl rfl _ _ hX9 (unhide HI) (unhide HZS) (unhide HSO) ?_
      obtain ⟨wf, hwf⟩ : ∃ V, V = wc7.setRow WD.heap.size S.toArray := ⟨_, rfl⟩
      have hf : W0.grownBy wf none := by rw [hwf]; exact gb_row hh8 _ (Or.inl h0.size)
      have hBf : Blk wf WD.heap.size 37 S := by rw [hwf]; exact hX9.row S
      rw [← hwf]
      refine hK9.out _ _ hf (fun _ => ?_)
      clear hK9 K9 hwf
      (try simp only [Act.put])
      refine wpAnyH_done (by kernel_rfl) ?_ _
      refine NoPanic.normal ?_
      have z9 := htail _ _ hBf
      have z8 := hsl WD.heap.size
      clear hBf
      go_wp2
      go_ret
      exact ⟨rfl, tn g0 hf⟩

end Go.Proofs.YtcemdlcimhoeeaaGreatDoor
