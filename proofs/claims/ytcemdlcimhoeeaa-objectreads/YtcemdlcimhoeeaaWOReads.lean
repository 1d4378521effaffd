/- ObjectReads answers true of any bytes and any object, and nothing that was in memory has changed. No condition. -/
import Derived.Test.YtcemdlcimhoeeaaRRead
import Derived.Test.YtcemdlcimhoeeaaOOne
import Derived.Test.YtcemdlcimhoeeaaOLaw
namespace Go.Proofs.Ytcemdlcimhoeeaa
open Go.RowKit

set_option maxRecDepth 100000 in
set_option maxHeartbeats 8000000 in
theorem reads_law (w : World) (bo : Option Addr) (bc : Nat) (b : List UInt8) (hb : Bts w bo bc b) (k : Int) (ao : Option Addr) (c : Nat) (d : List UInt8) (hd : Bts w ao c d) : Calls Try.prog 4 #[.slice bo b.length bc, .agg #[.int .i64 k, .slice ao d.length c]] w fun e w' => e = .returned (.bool true) ∧ w.grownBy w' none := by
  obtain ⟨n, hn⟩ : ∃ n, n = b.length := ⟨_, rfl⟩
  obtain ⟨nd, hnd⟩ : ∃ n, n = d.length := ⟨_, rfl⟩
  obtain ⟨W0, hW0, hB0, g0⟩ : ∃ W1, W1 = w.alloc (.cells #[.int .i64 k, .slice ao nd c] 35) ∧ Blk W1 w.heap.size 35 [.int .i64 k, .slice ao nd c] ∧ w.grownBy W1 none := box_new w _ _
  have c0 := hB0.cell 0
  have c1 := hB0.cell 1
  simp only [List.getElem?_cons_zero, List.getElem?_cons_succ] at c0 c1
  have HW := hide hW0
  rw [← hn, ← hnd]
  by_cases hbig : 20000 < b.length
  · have h1 : (20000 : Int) < (n : Int) := by omega
    clear hbig hn hnd hb hd hW0 hB0
    go_enter Try.func4, Try.ntmps4
    go_wp2_with (rw [← unhide HW])
    go_ret
    exact ⟨rfl, g0⟩
  · have h1 : ¬ (20000 : Int) < (n : Int) := by omega
    by_cases hbig2 : 20000 < d.length
    · have h2 : (20000 : Int) < (nd : Int) := by omega
      clear hbig hbig2 hn hnd hb hd hW0 hB0
      go_enter Try.func4, Try.ntmps4
      go_wp2_with (rw [← unhide HW])
      go_ret
      exact ⟨rfl, g0⟩
    · have h2 : ¬ (20000 : Int) < (nd : Int) := by omega
      have cr := oread_any W0 bo bc b (hb.kept g0 (fun _ e => by cases e)) (by omega)
      have crr : ∀ V, Calls Try.prog 18 #[.string (str b)] V fun e w' => e = .returned (.tuple #[.agg #[.int .i64 (rdL b).2.1, .string (str (rdL b).2.2)], .int .i64 (rdL b).1]) ∧ V.grownBy w' none := fun V => rread_any V b (by omega)
      have hcb : ∀ V, w.grownBy V none → (convert 33 9 (.slice bo n bc)).run Try.prog V = .ok (.string (str b)) V := fun V gV => by
        have := conv_str (hb.kept gV (fun _ e => by cases e))
        rwa [← hn] at this
      have cput : ∀ V, w.grownBy V none → Calls Try.prog 19 #[.agg #[.int .i64 k, .slice ao nd c]] V fun e w' => ∃ v, e = .returned v ∧ NewB V w' v (putL k d) ∧ V.grownBy w' none := fun V gV => by
        have := oput_any V k ao c d (hd.kept gV (fun _ e => by cases e)) (by omega)
        rwa [← hnd] at this
      have cown : ∀ V, w.grownBy V none → Calls Try.prog 15 #[.agg #[.int .i64 k, .slice ao nd c]] V fun e w' => e = .returned (.agg #[.int .i64 k, .string (str d)]) ∧ V.grownBy w' none := fun V gV => by
        have := lown_any V k ao c d (hd.kept gV (fun _ e => by cases e))
        rwa [← hnd] at this
      have crp : ∀ V, Calls Try.prog 20 #[.agg #[.int .i64 k, .string (str d)]] V fun e w' => e = .returned (.string (str (putL k d))) ∧ V.grownBy w' none := fun V => roput_any V k d (by omega)
      have cone := oone_any
      obtain ⟨r, hr⟩ : ∃ r, r = rdL b := ⟨_, rfl⟩
      rw [← hr] at cr crr
      obtain ⟨SB, hSB⟩ : ∃ S, S = str b := ⟨_, rfl⟩
      obtain ⟨SD, hSD⟩ : ∃ S, S = str d := ⟨_, rfl⟩
      obtain ⟨P, hP⟩ : ∃ P, P = putL k d := ⟨_, rfl⟩
      obtain ⟨TP, hTP⟩ : ∃ S, S = str P := ⟨_, rfl⟩
      rw [← hSB] at crr hcb
      rw [← hSD] at cown crp
      rw [← hP] at cput crp
      rw [← hTP] at crp
      rw [← hn] at cr
      have HTP := hide hTP
      have HG0 := hide g0
      have HCRR := hide crr
      have HCB := hide hcb
      have HPUT := hide cput
      have HOWN := hide cown
      have HRP := hide crp
      have HONE := hide cone
      clear hbig hbig2 hn hnd hb hd hW0 hB0 hr hSB hSD hP hTP crr hcb cput cown crp cone g0
      go_enter Try.func4, Try.ntmps4
      go_wp2_with (rw [← unhide HW])
      refine cr.mono ?_
      rintro e w2 ⟨v2, y, kk, rfl, hy, hkk, ⟨a2, cc2, rfl, hb2, _⟩, g2⟩
      obtain ⟨n2, hn2⟩ : ∃ n, n = r.2.2.length := ⟨_, rfl⟩
      rw [← hn2]
      obtain ⟨W3, hW3, j3, g3⟩ : ∃ W, W = w2.alloc (.cells #[.int .i64 kk, .slice a2 n2 cc2] 35) ∧ Blk W w2.heap.size 35 [.int .i64 kk, .slice a2 n2 cc2] ∧ w2.grownBy W none := box_new w2 _ _
      have G3 := tn (tn (unhide HG0) g2) g3
      have hcv := unhide HCB W3 G3
      have crr := unhide HCRR W3
      rw [← hy, ← hkk] at crr
      have d0 := (g2.cell c0 (by simp))
      have d1 := (g2.cell c1 (by simp))
      have e0 := g3.cell d0 (by simp)
      have e1 := g3.cell d1 (by simp)
      have hb3 := hb2.kept g3 (fun _ e => by cases e)
      have HW3 := hide hW3
      have HY := hide hy
      have HKK := hide hkk
      have HN2 := hide hn2
      have HB3 := hide hb3
      have HJ3 := hide j3
      have HG3 := hide G3
      obtain ⟨SR, hSR⟩ : ∃ S, S = str r.2.2 := ⟨_, rfl⟩
      rw [← hSR] at crr
      have HSR := hide hSR
      clear cr c0 c1 d0 d1 hW3 hy hkk hn2 hb2 hb3 j3 g2 g3 G3 hSR
      go_wp2_with (rw [← unhide HW3])
      refine crr.mono ?_
      rintro e w4 ⟨rfl, g4⟩
      obtain ⟨W5, hW5, j5, g5⟩ : ∃ W, W = w4.alloc (.cells #[.int .i64 kk, .string SR] 40) ∧ Blk W w4.heap.size 40 [.int .i64 kk, .string SR] ∧ w4.grownBy W none := box_new w4 _ _
      have gg := tn g4 g5
      have f0 := gg.cell e0 (by simp)
      have f1 := gg.cell e1 (by simp)
      have i3 := (unhide HJ3).kept gg (by simp)
      have i0 := i3.cell 0
      have i1 := i3.cell 1
      have q0 := j5.cell 0
      have q1 := j5.cell 1
      simp only [List.getElem?_cons_zero, List.getElem?_cons_succ] at i0 i1 q0 q1
      have G5 := tn (unhide HG3) gg
      have hb5 := (unhide HB3).kept gg (fun _ e => by cases e)
      have co1 : ∀ V, W5.grownBy V none → Calls Try.prog 15 #[.agg #[.int .i64 kk, .slice a2 n2 cc2]] V fun e w' => e = .returned (.agg #[.int .i64 kk, .string SR]) ∧ V.grownBy w' none := fun V gV => by
        have := lown_any V kk a2 cc2 r.2.2 (hb5.kept gV (fun _ e => by cases e))
        rwa [← unhide HN2, ← unhide HSR] at this
      have hq := fun V => eql_robj V kk SR
      have HW5 := hide hW5
      have h0 : W5.grownBy W5.drew none := gb_drew (gb_refl _ _)
      clear crr e0 e1 hcv hW5 j5 g4 g5 gg i3 hb5
      go_upto_region 5 with (rw [← unhide HW5])
      refine wp_region_noPanic ?_
      refine wp_region_held_drew (S := fun V => W5.grownBy V none) (by kernel_rfl) h0 (fun _ => ?_)
      refine wpAnyH_take (i := 0) (oi := { dst := some 29, op := Op.load 35 (Operand.tmp 5), type := _, pos := _, after := _, guard := _ }) (v := .agg #[.int .i64 kk, .slice a2 n2 cc2]) rfl (by kernel_rfl) (by kernel_rfl) (by kernel_rfl) (fun _ _ _ h => h) (Or.inl ⟨by rfl, fun V (hV : W5.grownBy V none) => by (have z8 := hV.cell i0 (by simp); have z9 := hV.cell i1 (by simp); go_simp)⟩) h0 ?_
      (try simp only [Act.put, List.setIfInBounds_toArray, List.set_cons_zero, List.set_cons_succ])
      refine wpAnyH_take (i := 2) (oi := { dst := some 31, op := Op.load 40 (Operand.tmp 7), type := _, pos := _, after := _, guard := _ }) (v := .agg #[.int .i64 kk, .string SR]) rfl (by kernel_rfl) (by kernel_rfl) (by kernel_rfl) (fun _ _ _ h => h) (Or.inl ⟨by rfl, fun V (hV : W5.grownBy V none) => by (have z8 := hV.cell q0 (by simp); have z9 := hV.cell q1 (by simp); go_simp)⟩) h0 ?_
      (try simp only [Act.put, List.setIfInBounds_toArray, List.set_cons_zero, List.set_cons_succ])
      refine wpAnyH_ready (rs := [1]) (by kernel_rfl) (by simp) ?_
      refine AllReadyH.cons (o := { dst := some 30, op := Op.call { callee := Callee.value (Operand.func 15), args := #[(Operand.tmp 29)], argTypes := #[35] }, type := _, pos := _, after := _, guard := _ }) rfl (fun K9 hK9 => ?_) AllReadyH.nil
      go_simp
      go_at_call 15
      refine (co1 _ h0).mono ?_
      rintro e w6 ⟨rfl, g6a⟩
      have h6 := tn h0 g6a
      go_wp2_with fail
      refine hK9.out _ _ h6 (fun _ => ?_)
      clear hK9 K9
      (try simp only [Act.put, List.setIfInBounds_toArray, List.set_cons_zero, List.set_cons_succ])
      refine wpAnyH_take (i := 3) (oi := { dst := some 32, op := Op.binOp BinOp.eql 40 (Operand.tmp 30) (Operand.tmp 31) 40, type := _, pos := _, after := _, guard := _ }) (v := .bool true) rfl (by kernel_rfl) (by kernel_rfl) (by kernel_rfl) (fun _ _ _ h => h) (yieldsIf_same (by rfl) _ _ _ _ rfl _ _ _ rfl rfl guard_robj hq) h6 ?_
      (try simp only [Act.put, List.setIfInBounds_toArray, List.set_cons_zero, List.set_cons_succ])
      refine wpAnyH_take (i := 4) (oi := { dst := some 33, op := Op.move (Operand.tmp 32), type := _, pos := _, after := _, guard := _ }) (v := .bool true) rfl (by kernel_rfl) (by kernel_rfl) (by kernel_rfl) (fun _ _ _ h => h) (Or.inl ⟨by rfl, fun V (hV : W5.grownBy V none) => by go_simp⟩) h6 ?_
      (try simp only [Act.put, List.setIfInBounds_toArray, List.set_cons_zero, List.set_cons_succ])
      refine wpAnyH_take (i := 5) (oi := { dst := some 34, op := Op.move (Operand.tmp 6), type := _, pos := _, after := _, guard := _ }) (v := .int .i64 y) rfl (by kernel_rfl) (by kernel_rfl) (by kernel_rfl) (fun _ _ _ h => h) (Or.inl ⟨by rfl, fun V (hV : W5.grownBy V none) => by go_simp⟩) h6 ?_
      (try simp only [Act.put, List.setIfInBounds_toArray, List.set_cons_zero, List.set_cons_succ])
      refine wpAnyH_take (i := 6) (oi := { dst := some 35, op := Op.move (Operand.tmp 8), type := _, pos := _, after := _, guard := _ }) (v := .int .i64 y) rfl (by kernel_rfl) (by kernel_rfl) (by kernel_rfl) (fun _ _ _ h => h) (Or.inl ⟨by rfl, fun V (hV : W5.grownBy V none) => by go_simp⟩) h6 ?_
      (try simp only [Act.put, List.setIfInBounds_toArray, List.set_cons_zero, List.set_cons_succ])
      refine wpAnyH_take (i := 7) (oi := { dst := some 36, op := Op.binOp BinOp.eql 3 (Operand.tmp 34) (Operand.tmp 35) 3, type := _, pos := _, after := _, guard := _ }) (v := .bool true) rfl (by kernel_rfl) (by kernel_rfl) (by kernel_rfl) (fun _ _ _ h => h) (Or.inl ⟨by rfl, fun V (hV : W5.grownBy V none) => by go_simp⟩) h6 ?_
      (try simp only [Act.put, List.setIfInBounds_toArray, List.set_cons_zero, List.set_cons_succ])
      refine wpAnyH_take (i := 8) (oi := { dst := some 37, op := Op.pick (Operand.tmp 33) (Operand.tmp 36) (Operand.const (Value.bool false)), type := _, pos := _, after := _, guard := _ }) (v := .bool true) rfl (by kernel_rfl) (by kernel_rfl) (by kernel_rfl) (fun _ _ _ h => h) (Or.inl ⟨by rfl, fun V (hV : W5.grownBy V none) => by go_simp⟩) h6 ?_
      (try simp only [Act.put, List.setIfInBounds_toArray, List.set_cons_zero, List.set_cons_succ])
      refine wpAnyH_take (i := 9) (oi := { dst := some 38, op := Op.move (Operand.tmp 37), type := _, pos := _, after := _, guard := _ }) (v := .bool true) rfl (by kernel_rfl) (by kernel_rfl) (by kernel_rfl) (fun _ _ _ h => h) (Or.inl ⟨by rfl, fun V (hV : W5.grownBy V none) => by go_simp⟩) h6 ?_
      (try simp only [Act.put, List.setIfInBounds_toArray, List.set_cons_zero, List.set_cons_succ])
      refine wpAnyH_take (i := 10) (oi := { dst := some 39, op := Op.load 35 (Operand.tmp 3), type := _, pos := _, after := _, guard := _ }) (v := .agg #[.int .i64 k, .slice ao nd c]) rfl (by kernel_rfl) (by kernel_rfl) (by kernel_rfl) (fun _ _ _ h => h) (Or.inl ⟨by rfl, fun V (hV : W5.grownBy V none) => by (have z8 := hV.cell f0 (by simp); have z9 := hV.cell f1 (by simp); go_simp)⟩) h6 ?_
      (try simp only [Act.put, List.setIfInBounds_toArray, List.set_cons_zero, List.set_cons_succ])
      refine wpAnyH_take (i := 13) (oi := { dst := some 42, op := Op.load 35 (Operand.tmp 3), type := _, pos := _, after := _, guard := _ }) (v := .agg #[.int .i64 k, .slice ao nd c]) rfl (by kernel_rfl) (by kernel_rfl) (by kernel_rfl) (fun _ _ _ h => h) (Or.inl ⟨by rfl, fun V (hV : W5.grownBy V none) => by (have z8 := hV.cell f0 (by simp); have z9 := hV.cell f1 (by simp); go_simp)⟩) h6 ?_
      (try simp only [Act.put, List.setIfInBounds_toArray, List.set_cons_zero, List.set_cons_succ])
      refine wpAnyH_ready (rs := [11]) (by kernel_rfl) (by simp) ?_
      refine AllReadyH.cons (o := { dst := some 40, op := Op.call { callee := Callee.value (Operand.func 19), args := #[(Operand.tmp 39)], argTypes := #[35] }, type := _, pos := _, after := _, guard := _ }) rfl (fun K9 hK9 => ?_) AllReadyH.nil
      go_simp
      go_at_call 19
      refine (unhide HPUT _ (tn G5 h6)).mono ?_
      rintro e w7 ⟨v7, rfl, ⟨a7, c7, rfl, hb7, _⟩, g7a⟩
      have h7 := tn h6 g7a
      go_wp2_with fail
      refine hK9.out _ _ h7 (fun _ => ?_)
      clear hK9 K9
      (try simp only [Act.put, List.setIfInBounds_toArray, List.set_cons_zero, List.set_cons_succ])
      obtain ⟨np, hnp⟩ : ∃ n, n = P.length := ⟨_, rfl⟩
      rw [← hnp]
      have hcP : ∀ V, w7.grownBy V none → (convert 33 9 (.slice a7 np c7)).run Try.prog V = .ok (.string TP) V := fun V gV => by
        have h1 := conv_str (hb7.kept gV (fun _ e => by cases e))
        rwa [← hnp, ← unhide HTP] at h1
      clear hnp hb7
      refine wpAnyH_ready (rs := [12, 14]) (by kernel_rfl) (by simp) ?_
      refine AllReadyH.cons (o := { dst := some 41, op := Op.convert 33 9 (Operand.tmp 40), type := _, pos := _, after := _, guard := _ }) rfl (fun K9 hK9 => ?_) (AllReadyH.cons (o := { dst := some 43, op := Op.call { callee := Callee.value (Operand.func 15), args := #[(Operand.tmp 42)], argTypes := #[35] }, type := _, pos := _, after := _, guard := _ }) rfl (fun K9 hK9 => ?_) AllReadyH.nil)
      · have z9 := hcP _ (gb_refl _ _)
        go_simp
        clear z9
        refine hK9.out _ _ h7 (fun _ => ?_)
        clear hK9 K9
        (try simp only [Act.put, List.setIfInBounds_toArray, List.set_cons_zero, List.set_cons_succ])
        refine wpAnyH_ready (rs := [14]) (by kernel_rfl) (by simp) ?_
        refine AllReadyH.cons (o := { dst := some 43, op := Op.call { callee := Callee.value (Operand.func 15), args := #[(Operand.tmp 42)], argTypes := #[35] }, type := _, pos := _, after := _, guard := _ }) rfl (fun K9 hK9 => ?_) AllReadyH.nil
        go_simp
        go_at_call 15
        refine (unhide HOWN _ (tn G5 h7)).mono ?_
        rintro e w8 ⟨rfl, g8a⟩
        have h8 := tn h7 g8a
        go_wp2_with fail
        refine hK9.out _ _ h8 (fun _ => ?_)
        clear hK9 K9
        (try simp only [Act.put, List.setIfInBounds_toArray, List.set_cons_zero, List.set_cons_succ])
        refine wpAnyH_ready (rs := [15]) (by kernel_rfl) (by simp) ?_
        refine AllReadyH.cons (o := { dst := some 44, op := Op.call { callee := Callee.value (Operand.func 20), args := #[(Operand.tmp 43)], argTypes := #[40] }, type := _, pos := _, after := _, guard := _ }) rfl (fun K9 hK9 => ?_) AllReadyH.nil
        go_simp
        go_at_call 20
        refine (unhide HRP _).mono ?_
        rintro e w9 ⟨rfl, g9a⟩
        have h9 := tn h8 g9a
        go_wp2_with fail
        refine hK9.out _ _ h9 (fun _ => ?_)
        clear hK9 K9
        (try simp only [Act.put, List.setIfInBounds_toArray, List.set_cons_zero, List.set_cons_succ])
        refine wpAnyH_take (i := 16) (oi := { dst := some 45, op := Op.binOp BinOp.eql 9 (Operand.tmp 41) (Operand.tmp 44) 9, type := _, pos := _, after := _, guard := _ }) (v := .bool true) rfl (by kernel_rfl) (by kernel_rfl) (by kernel_rfl) (fun _ _ _ h => h) (Or.inl ⟨by rfl, fun V (hV : W5.grownBy V none) => by go_simp⟩) h9 ?_
        (try simp only [Act.put, List.setIfInBounds_toArray, List.set_cons_zero, List.set_cons_succ])
        refine wpAnyH_take (i := 17) (oi := { dst := some 46, op := Op.pick (Operand.tmp 38) (Operand.tmp 45) (Operand.const (Value.bool false)), type := _, pos := _, after := _, guard := _ }) (v := .bool true) rfl (by kernel_rfl) (by kernel_rfl) (by kernel_rfl) (fun _ _ _ h => h) (Or.inl ⟨by rfl, fun V (hV : W5.grownBy V none) => by go_simp⟩) h9 ?_
        (try simp only [Act.put, List.setIfInBounds_toArray, List.set_cons_zero, List.set_cons_succ])
        refine wpAnyH_take (i := 18) (oi := { dst := some 47, op := Op.move (Operand.tmp 46), type := _, pos := _, after := _, guard := _ }) (v := .bool true) rfl (by kernel_rfl) (by kernel_rfl) (by kernel_rfl) (fun _ _ _ h => h) (Or.inl ⟨by rfl, fun V (hV : W5.grownBy V none) => by go_simp⟩) h9 ?_
        (try simp only [Act.put, List.setIfInBounds_toArray, List.set_cons_zero, List.set_cons_succ])
        refine wpAnyH_ready (rs := [19]) (by kernel_rfl) (by simp) ?_
        refine AllReadyH.cons (o := { dst := some 48, op := Op.call { callee := Callee.value (Operand.func 16), args := #[], argTypes := #[] }, type := _, pos := _, after := _, guard := _ }) rfl (fun K9 hK9 => ?_) AllReadyH.nil
        go_simp
        go_at_call 16
        refine (unhide HONE _).mono ?_
        rintro e w10 ⟨rfl, g10a⟩
        have h10 := tn h9 g10a
        go_wp2_with fail
        refine hK9.out _ _ h10 (fun _ => ?_)
        clear hK9 K9
        (try simp only [Act.put, List.setIfInBounds_toArray, List.set_cons_zero, List.set_cons_succ])
        refine wpAnyH_take (i := 20) (oi := { dst := some 49, op := Op.pick (Operand.tmp 47) (Operand.tmp 48) (Operand.const (Value.bool false)), type := _, pos := _, after := _, guard := _ }) (v := .bool true) rfl (by kernel_rfl) (by kernel_rfl) (by kernel_rfl) (fun _ _ _ h => h) (Or.inl ⟨by rfl, fun V (hV : W5.grownBy V none) => by go_simp⟩) h10 ?_
        (try simp only [Act.put, List.setIfInBounds_toArray, List.set_cons_zero, List.set_cons_succ])
        refine wpAnyH_take (i := 21) (oi := { dst := some 4, op := Op.assign (Operand.tmp 49), type := _, pos := _, after := _, guard := _ }) (v := .bool true) rfl (by kernel_rfl) (by kernel_rfl) (by kernel_rfl) (fun _ _ _ h => h) (Or.inl ⟨by rfl, fun V (hV : W5.grownBy V none) => by go_simp⟩) h10 ?_
        (try simp only [Act.put, List.setIfInBounds_toArray, List.set_cons_zero, List.set_cons_succ])
        refine wpAnyH_done (by kernel_rfl) ?_ _
        refine NoPanic.normal ?_
        go_wp2
        go_ret
        exact ⟨rfl, tn G5 h10⟩
      · go_simp
        go_at_call 15
        refine (unhide HOWN _ (tn G5 h7)).mono ?_
        rintro e w8 ⟨rfl, g8a⟩
        have h8 := tn h7 g8a
        go_wp2_with fail
        refine hK9.out _ _ h8 (fun _ => ?_)
        clear hK9 K9
        (try simp only [Act.put, List.setIfInBounds_toArray, List.set_cons_zero, List.set_cons_succ])
        refine wpAnyH_ready (rs := [12, 15]) (by kernel_rfl) (by simp) ?_
        refine AllReadyH.cons (o := { dst := some 41, op := Op.convert 33 9 (Operand.tmp 40), type := _, pos := _, after := _, guard := _ }) rfl (fun K9 hK9 => ?_) (AllReadyH.cons (o := { dst := some 44, op := Op.call { callee := Callee.value (Operand.func 20), args := #[(Operand.tmp 43)], argTypes := #[40] }, type := _, pos := _, after := _, guard := _ }) rfl (fun K9 hK9 => ?_) AllReadyH.nil)
        · have z9 := hcP _ g8a
          go_simp
          clear z9
          refine hK9.out _ _ h8 (fun _ => ?_)
          clear hK9 K9
          (try simp only [Act.put, List.setIfInBounds_toArray, List.set_cons_zero, List.set_cons_succ])
          refine wpAnyH_ready (rs := [15]) (by kernel_rfl) (by simp) ?_
          refine AllReadyH.cons (o := { dst := some 44, op := Op.call { callee := Callee.value (Operand.func 20), args := #[(Operand.tmp 43)], argTypes := #[40] }, type := _, pos := _, after := _, guard := _ }) rfl (fun K9 hK9 => ?_) AllReadyH.nil
          go_simp
          go_at_call 20
          refine (unhide HRP _).mono ?_
          rintro e w9 ⟨rfl, g9a⟩
          have h9 := tn h8 g9a
          go_wp2_with fail
          refine hK9.out _ _ h9 (fun _ => ?_)
          clear hK9 K9
          (try simp only [Act.put, List.setIfInBounds_toArray, List.set_cons_zero, List.set_cons_succ])
          refine wpAnyH_take (i := 16) (oi := { dst := some 45, op := Op.binOp BinOp.eql 9 (Operand.tmp 41) (Operand.tmp 44) 9, type := _, pos := _, after := _, guard := _ }) (v := .bool true) rfl (by kernel_rfl) (by kernel_rfl) (by kernel_rfl) (fun _ _ _ h => h) (Or.inl ⟨by rfl, fun V (hV : W5.grownBy V none) => by go_simp⟩) h9 ?_
          (try simp only [Act.put, List.setIfInBounds_toArray, List.set_cons_zero, List.set_cons_succ])
          refine wpAnyH_take (i := 17) (oi := { dst := some 46, op := Op.pick (Operand.tmp 38) (Operand.tmp 45) (Operand.const (Value.bool false)), type := _, pos := _, after := _, guard := _ }) (v := .bool true) rfl (by kernel_rfl) (by kernel_rfl) (by kernel_rfl) (fun _ _ _ h => h) (Or.inl ⟨by rfl, fun V (hV : W5.grownBy V none) => by go_simp⟩) h9 ?_
          (try simp only [Act.put, List.setIfInBounds_toArray, List.set_cons_zero, List.set_cons_succ])
          refine wpAnyH_take (i := 18) (oi := { dst := some 47, op := Op.move (Operand.tmp 46), type := _, pos := _, after := _, guard := _ }) (v := .bool true) rfl (by kernel_rfl) (by kernel_rfl) (by kernel_rfl) (fun _ _ _ h => h) (Or.inl ⟨by rfl, fun V (hV : W5.grownBy V none) => by go_simp⟩) h9 ?_
          (try simp only [Act.put, List.setIfInBounds_toArray, List.set_cons_zero, List.set_cons_succ])
          refine wpAnyH_ready (rs := [19]) (by kernel_rfl) (by simp) ?_
          refine AllReadyH.cons (o := { dst := some 48, op := Op.call { callee := Callee.value (Operand.func 16), args := #[], argTypes := #[] }, type := _, pos := _, after := _, guard := _ }) rfl (fun K9 hK9 => ?_) AllReadyH.nil
          go_simp
          go_at_call 16
          refine (unhide HONE _).mono ?_
          rintro e w10 ⟨rfl, g10a⟩
          have h10 := tn h9 g10a
          go_wp2_with fail
          refine hK9.out _ _ h10 (fun _ => ?_)
          clear hK9 K9
          (try simp only [Act.put, List.setIfInBounds_toArray, List.set_cons_zero, List.set_cons_succ])
          refine wpAnyH_take (i := 20) (oi := { dst := some 49, op := Op.pick (Operand.tmp 47) (Operand.tmp 48) (Operand.const (Value.bool false)), type := _, pos := _, after := _, guard := _ }) (v := .bool true) rfl (by kernel_rfl) (by kernel_rfl) (by kernel_rfl) (fun _ _ _ h => h) (Or.inl ⟨by rfl, fun V (hV : W5.grownBy V none) => by go_simp⟩) h10 ?_
          (try simp only [Act.put, List.setIfInBounds_toArray, List.set_cons_zero, List.set_cons_succ])
          refine wpAnyH_take (i := 21) (oi := { dst := some 4, op := Op.assign (Operand.tmp 49), type := _, pos := _, after := _, guard := _ }) (v := .bool true) rfl (by kernel_rfl) (by kernel_rfl) (by kernel_rfl) (fun _ _ _ h => h) (Or.inl ⟨by rfl, fun V (hV : W5.grownBy V none) => by go_simp⟩) h10 ?_
          (try simp only [Act.put, List.setIfInBounds_toArray, List.set_cons_zero, List.set_cons_succ])
          refine wpAnyH_done (by kernel_rfl) ?_ _
          refine NoPanic.normal ?_
          go_wp2
          go_ret
          exact ⟨rfl, tn G5 h10⟩
        · go_simp
          go_at_call 20
          refine (unhide HRP _).mono ?_
          rintro e w9 ⟨rfl, g9a⟩
          have h9 := tn h8 g9a
          go_wp2_with fail
          refine hK9.out _ _ h9 (fun _ => ?_)
          clear hK9 K9
          (try simp only [Act.put, List.setIfInBounds_toArray, List.set_cons_zero, List.set_cons_succ])
          refine wpAnyH_ready (rs := [12]) (by kernel_rfl) (by simp) ?_
          refine AllReadyH.cons (o := { dst := some 41, op := Op.convert 33 9 (Operand.tmp 40), type := _, pos := _, after := _, guard := _ }) rfl (fun K9 hK9 => ?_) AllReadyH.nil
          have z9 := hcP _ (tn g8a g9a)
          go_simp
          clear z9
          refine hK9.out _ _ h9 (fun _ => ?_)
          clear hK9 K9
          (try simp only [Act.put, List.setIfInBounds_toArray, List.set_cons_zero, List.set_cons_succ])
          refine wpAnyH_take (i := 16) (oi := { dst := some 45, op := Op.binOp BinOp.eql 9 (Operand.tmp 41) (Operand.tmp 44) 9, type := _, pos := _, after := _, guard := _ }) (v := .bool true) rfl (by kernel_rfl) (by kernel_rfl) (by kernel_rfl) (fun _ _ _ h => h) (Or.inl ⟨by rfl, fun V (hV : W5.grownBy V none) => by go_simp⟩) h9 ?_
          (try simp only [Act.put, List.setIfInBounds_toArray, List.set_cons_zero, List.set_cons_succ])
          refine wpAnyH_take (i := 17) (oi := { dst := some 46, op := Op.pick (Operand.tmp 38) (Operand.tmp 45) (Operand.const (Value.bool false)), type := _, pos := _, after := _, guard := _ }) (v := .bool true) rfl (by kernel_rfl) (by kernel_rfl) (by kernel_rfl) (fun _ _ _ h => h) (Or.inl ⟨by rfl, fun V (hV : W5.grownBy V none) => by go_simp⟩) h9 ?_
          (try simp only [Act.put, List.setIfInBounds_toArray, List.set_cons_zero, List.set_cons_succ])
          refine wpAnyH_take (i := 18) (oi := { dst := some 47, op := Op.move (Operand.tmp 46), type := _, pos := _, after := _, guard := _ }) (v := .bool true) rfl (by kernel_rfl) (by kernel_rfl) (by kernel_rfl) (fun _ _ _ h => h) (Or.inl ⟨by rfl, fun V (hV : W5.grownBy V none) => by go_simp⟩) h9 ?_
          (try simp only [Act.put, List.setIfInBounds_toArray, List.set_cons_zero, List.set_cons_succ])
          refine wpAnyH_ready (rs := [19]) (by kernel_rfl) (by simp) ?_
          refine AllReadyH.cons (o := { dst := some 48, op := Op.call { callee := Callee.value (Operand.func 16), args := #[], argTypes := #[] }, type := _, pos := _, after := _, guard := _ }) rfl (fun K9 hK9 => ?_) AllReadyH.nil
          go_simp
          go_at_call 16
          refine (unhide HONE _).mono ?_
          rintro e w10 ⟨rfl, g10a⟩
          have h10 := tn h9 g10a
          go_wp2_with fail
          refine hK9.out _ _ h10 (fun _ => ?_)
          clear hK9 K9
          (try simp only [Act.put, List.setIfInBounds_toArray, List.set_cons_zero, List.set_cons_succ])
          refine wpAnyH_take (i := 20) (oi := { dst := some 49, op := Op.pick (Operand.tmp 47) (Operand.tmp 48) (Operand.const (Value.bool false)), type := _, pos := _, after := _, guard := _ }) (v := .bool true) rfl (by kernel_rfl) (by kernel_rfl) (by kernel_rfl) (fun _ _ _ h => h) (Or.inl ⟨by rfl, fun V (hV : W5.grownBy V none) => by go_simp⟩) h10 ?_
          (try simp only [Act.put, List.setIfInBounds_toArray, List.set_cons_zero, List.set_cons_succ])
          refine wpAnyH_take (i := 21) (oi := { dst := some 4, op := Op.assign (Operand.tmp 49), type := _, pos := _, after := _, guard := _ }) (v := .bool true) rfl (by kernel_rfl) (by kernel_rfl) (by kernel_rfl) (fun _ _ _ h => h) (Or.inl ⟨by rfl, fun V (hV : W5.grownBy V none) => by go_simp⟩) h10 ?_
          (try simp only [Act.put, List.setIfInBounds_toArray, List.set_cons_zero, List.set_cons_succ])
          refine wpAnyH_done (by kernel_rfl) ?_ _
          refine NoPanic.normal ?_
          go_wp2
          go_ret
          exact ⟨rfl, tn G5 h10⟩

end Go.Proofs.Ytcemdlcimhoeeaa
