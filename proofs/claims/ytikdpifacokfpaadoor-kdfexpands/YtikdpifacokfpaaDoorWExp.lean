/- KdfExpands' walk: whatever the salt, the secret and the number, the call returns true and nothing that was in memory has changed; where the tables hold what they are laid with. -/
import Derived.Test.YtikdpifacokfpaaDoorKExp
import Derived.Test.YtikdpifacokfpaaDoorRExp
import Derived.Test.YtikdpifacokfpaaDoorKLoop
import Derived.Deep.DrawnRows
import Derived.Deep.MidRow
namespace Go.Proofs.YtikdpifacokfpaaDoor
open Go.RowKit
attribute [local go_sem ↓] Go.wp_at_zero Go.wp_at_succ

set_option maxRecDepth 100000 in
set_option maxHeartbeats 8000000 in
theorem kdfExpands_any (w : World) (ao : Option Addr) (ca : Nat) (a : List UInt8) (ha : Bts w ao ca a) (bo : Option Addr) (cb : Nat) (b : List UInt8) (hb : Bts w bo cb b) (n : Int) (hT : Tabs w) :
    Calls Tryd.prog 7 #[.slice ao a.length ca, .slice bo b.length cb, .int .i64 n] w fun e w' => e = .returned (.bool true) ∧ w.grownBy w' none := by
  have hi32 : (Tryd.prog.info? 23).map (·.size) = some 32 := by kernel_rfl
  have tr : ∀ {x y z : World}, x.grownBy y none → y.grownBy z none → x.grownBy z none := fun h k => gb_trans h k (fun _ e => by cases e)
  obtain ⟨Y, hY⟩ : ∃ Y : Array Value, Y = ((List.replicate 32 (0 : UInt8)).map bv).toArray := ⟨_, rfl⟩
  have hyv := zero32x
  rw [← hY] at hyv
  have t1 := text_any w ao ca a ha 300
  have t2 := text_any w bo cb b hb 300
  obtain ⟨A, hA⟩ : ∃ A, A = a.take 300 := ⟨_, rfl⟩
  obtain ⟨B, hB⟩ : ∃ B, B = b.take 300 := ⟨_, rfl⟩
  have hAb : Bts w ao ca A := by rw [hA]; exact ha.cut 300
  have hBb : Bts w bo cb B := by rw [hB]; exact hb.cut 300
  have hAl : A.length ≤ 300 := by rw [hA]; simp; omega
  have hBl : B.length ≤ 300 := by rw [hB]; simp; omega
  rw [← hA] at t1
  rw [← hB] at t2
  obtain ⟨x, hx⟩ : ∃ x, x = macL A B := ⟨_, rfl⟩
  have hx32 : x.length = 32 := by rw [hx]; exact macL_length _ _
  have hm := extract_any w ao ca A hAb bo cb B hBb hT (by omega) (by omega)
  rw [← hx] at hm
  have HY := hide hY
  have HAB := hide hAb
  have HBB := hide hBb
  have HT := hide hT
  have HX := hide hx
  have HX32 := hide hx32
  have HAL := hide hAl
  have HBL := hide hBl
  clear hY hA hB ha hb hAb hBb hT hx hx32 hAl hBl
  go_enter Tryd.func7, Tryd.ntmps7
  go_wp2_with fail
  refine t1.mono ?_
  rintro e w1 ⟨rfl, rfl⟩
  go_wp2_with fail
  refine t2.mono ?_
  rintro e w ⟨rfl, rfl⟩
  clear t1 t2
  go_wp2_with fail
  refine hm.mono ?_
  rintro e w2 ⟨rfl, g2⟩
  have hN2 : Blk (w2.alloc (.cells Y 23)) w2.heap.size 23 ((List.replicate 32 (0 : UInt8)).map bv) := by
    rw [unhide HY]; exact Blk.new w2 23 _
  obtain ⟨W3, hW3⟩ : ∃ W3, W3 = (w2.alloc (.cells Y 23)).setRow w2.heap.size (x.map bv).toArray := ⟨_, rfl⟩
  have hX3 : Blk W3 w2.heap.size 23 (x.map bv) := by rw [hW3]; exact hN2.row _
  have g3 : w2.grownBy W3 none := by rw [hW3]; exact gb_row (gb_alloc (gb_refl _ _) _) _ (Or.inl (Nat.le_refl _))
  have G3 : w.grownBy W3 none := tr g2 g3
  have hT3 := (unhide HT).kept0 G3
  have hA3 := (unhide HAB).kept G3 (fun _ e => by cases e)
  have hB3 := (unhide HBB).kept G3 (fun _ e => by cases e)
  have hx3 : Bts W3 (some ⟨w2.heap.size, 0, none⟩) 32 x := bts_row hX3 32 (by rw [unhide HX32]; exact Nat.le_refl _) (by unfold maxLen; omega)
  have cK : ∀ V, W3.grownBy V none → (convert 30 9 (.slice (some ⟨w2.heap.size, 0, none⟩) 32 32)).run Tryd.prog V = .ok (.string (str x)) V := fun V gV => by
    have := conv_str (hx3.kept gV (fun _ e => by cases e))
    rw [unhide HX32] at this
    exact this
  have cA : ∀ V, W3.grownBy V none → (convert 30 9 (.slice ao A.length ca)).run Tryd.prog V = .ok (.string (str A)) V := fun V gV => conv_str (hA3.kept gV (fun _ e => by cases e))
  have cB : ∀ V, W3.grownBy V none → (convert 30 9 (.slice bo B.length cb)).run Tryd.prog V = .ok (.string (str B)) V := fun V gV => conv_str (hB3.kept gV (fun _ e => by cases e))
  have cr : ∀ V, W3.grownBy V none → Calls Tryd.prog 16 #[.string (str A), .string (str B)] V fun e w' => e = .returned (.string (str x)) ∧ W3.grownBy w' none := by
    intro V gV
    rw [unhide HX]
    exact (rmac_any V A B (by have := unhide HAL; omega) (by have := unhide HBL; omega)).mono fun e w' ⟨he, hgw⟩ => ⟨he, tr gV hgw⟩
  have hse : ((str x).toList == (str x).toList) = true := by simp
  have hsls := slice_arr_all 23 5 32 Tryd.underlying23 size_byte w2.heap.size 0 (by omega)
  have hsz : ((x.map bv).toArray).size = 32 := by simp [unhide HX32]
  have HSZ := hide hsz
  have HN2 := hide hN2
  have HW3 := hide hW3
  have HG3 := hide G3
  have HCK := hide cK
  have HA3 := hide hA3
  have HT3 := hide hT3
  have h0 : W3.grownBy W3.drew none := gb_drew (gb_refl _ _)
  clear hm hsz hN2 hW3 hT3 hA3 hB3 hx3 g2 g3 G3
  go_wp2_with (refine wpList_store_row rfl 23 _ _ rfl w2.heap.size _ rfl rfl _ _ (unhide HN2) ?_ ?_ ?_ ?_; (rw [unhide HSZ]; exact hi32); (rw [unhide HSZ]; rfl); (exact all_oneCell_toArray (bv_one _)); refine (show wpList _ _ _ _ _ W3 → _ from fun q => unhide HW3 ▸ q) ?_)
  refine wp_region_noPanic ?_
  refine wp_region_held_drew (S := fun V => W3.grownBy V none) (by kernel_rfl) h0 (fun _ => ?_)
  refine wpAnyH_take (i := 0) (oi := { dst := some 22, op := Op.slice 23 (Operand.tmp 7) none none none, type := _, pos := _, after := _, guard := _ }) (v := .slice (some ⟨w2.heap.size, 0, none⟩) 32 32) rfl (by kernel_rfl) (by kernel_rfl) (by kernel_rfl) (fun _ _ _ h => h) (Or.inl ⟨by rfl, fun V (hV : W3.grownBy V none) => by go_simp⟩) h0 ?_
  (try simp only [Act.put, List.setIfInBounds_toArray, List.set_cons_zero, List.set_cons_succ])
  refine wpAnyH_take (i := 1) (oi := { dst := some 23, op := Op.convert 30 9 (Operand.tmp 22), type := _, pos := _, after := _, guard := _ }) (v := .string (str x)) rfl (by kernel_rfl) (by kernel_rfl) (by kernel_rfl) (fun _ _ _ h => h) (Or.inl ⟨by rfl, fun V (hV : W3.grownBy V none) => by go_simp⟩) h0 ?_
  (try simp only [Act.put, List.setIfInBounds_toArray, List.set_cons_zero, List.set_cons_succ])
  refine wpAnyH_take (i := 2) (oi := { dst := some 24, op := Op.move (Operand.tmp 0), type := _, pos := _, after := _, guard := _ }) (v := .slice ao A.length ca) rfl (by kernel_rfl) (by kernel_rfl) (by kernel_rfl) (fun _ _ _ h => h) (Or.inl ⟨by rfl, fun V (hV : W3.grownBy V none) => by go_simp⟩) h0 ?_
  (try simp only [Act.put, List.setIfInBounds_toArray, List.set_cons_zero, List.set_cons_succ])
  refine wpAnyH_take (i := 3) (oi := { dst := some 25, op := Op.convert 30 9 (Operand.tmp 24), type := _, pos := _, after := _, guard := _ }) (v := .string (str A)) rfl (by kernel_rfl) (by kernel_rfl) (by kernel_rfl) (fun _ _ _ h => h) (Or.inl ⟨by rfl, fun V (hV : W3.grownBy V none) => by go_simp⟩) h0 ?_
  (try simp only [Act.put, List.setIfInBounds_toArray, List.set_cons_zero, List.set_cons_succ])
  refine wpAnyH_take (i := 4) (oi := { dst := some 26, op := Op.move (Operand.tmp 1), type := _, pos := _, after := _, guard := _ }) (v := .slice bo B.length cb) rfl (by kernel_rfl) (by kernel_rfl) (by kernel_rfl) (fun _ _ _ h => h) (Or.inl ⟨by rfl, fun V (hV : W3.grownBy V none) => by go_simp⟩) h0 ?_
  (try simp only [Act.put, List.setIfInBounds_toArray, List.set_cons_zero, List.set_cons_succ])
  refine wpAnyH_take (i := 5) (oi := { dst := some 27, op := Op.convert 30 9 (Operand.tmp 26), type := _, pos := _, after := _, guard := _ }) (v := .string (str B)) rfl (by kernel_rfl) (by kernel_rfl) (by kernel_rfl) (fun _ _ _ h => h) (Or.inl ⟨by rfl, fun V (hV : W3.grownBy V none) => by go_simp⟩) h0 ?_
  (try simp only [Act.put, List.setIfInBounds_toArray, List.set_cons_zero, List.set_cons_succ])
  refine wpAnyH_ready (rs := [6]) (by kernel_rfl) (by simp) ?_
  refine AllReadyH.cons (o := { dst := some 28, op := Op.call { callee := Callee.value (Operand.func 16), args := #[(Operand.tmp 25), (Operand.tmp 27)], argTypes := #[9, 9] }, type := _, pos := _, after := _, guard := _ }) rfl (fun K9 hK9 => ?_) AllReadyH.nil
  go_simp
  go_at_call 16
  refine (cr _ h0).mono ?_
  rintro e w4 ⟨rfl, g4⟩
  go_wp2_with fail
  refine hK9.out _ _ g4 (fun _ => ?_)
  clear hK9 K9
  (try simp only [Act.put, List.setIfInBounds_toArray, List.set_cons_zero, List.set_cons_succ])
  refine wpAnyH_take (i := 7) (oi := { dst := some 29, op := Op.binOp BinOp.neq 9 (Operand.tmp 23) (Operand.tmp 28) 9, type := _, pos := _, after := _, guard := _ }) (v := .bool false) rfl (by kernel_rfl) (by kernel_rfl) (by kernel_rfl) (fun _ _ _ h => h) (Or.inl ⟨by rfl, fun V (hV : W3.grownBy V none) => by go_simp⟩) g4 ?_
  (try simp only [Act.put, List.setIfInBounds_toArray, List.set_cons_zero, List.set_cons_succ])
  refine wpAnyH_done (by kernel_rfl) ?_ _
  refine NoPanic.normal ?_
  clear cK cA cB cr h0
  by_cases h300 : 300 < n
  · obtain ⟨N, hN⟩ : ∃ N : Nat, (N : Int) = 8000 + Int.tmod n 300 := ⟨(8000 + Int.tmod n 300).toNat, by have := Int.tmod_nonneg 300 (show 0 ≤ n by omega); omega⟩
    have hNb : N < 8300 := by
      have := Int.tmod_lt_of_pos n (show (0 : Int) < 300 by omega)
      omega
    have hN8 : 8000 ≤ N := by
      have := Int.tmod_nonneg 300 (show 0 ≤ n by omega)
      omega
    have n1 : 8000 + Int.tmod n 300 = (N : Int) := hN.symm
    have n2 : IntKind.i64.wrap (N : Int) = (N : Int) := by rw [IntKind.wrap_i64]; omega
    have n3 : IntKind.i64.wrap (8000 + Int.tmod n 300) = (N : Int) := by rw [n1]; exact n2
    have n4 : Int.tmod n 300 = n % 300 := Int.tmod_eq_emod_of_nonneg (by omega)
    have n5 : 8000 + n % 300 = (N : Int) := by rw [← n4]; exact n1
    have n6 : IntKind.i64.wrap (8000 + n % 300) = (N : Int) := by rw [n5]; exact n2
    have n7 : (0 : Int) ≤ n := by omega
    clear n1 n3 n4 hN
    by_cases hbig : N ≤ 8160
    · obtain ⟨E, hE⟩ : ∃ E, E = expL x A N := ⟨_, rfl⟩
      obtain ⟨M, hM⟩ : ∃ M : Nat, M = N / 2 := ⟨_, rfl⟩
      obtain ⟨D, hD⟩ : ∃ D, D = expL x A M := ⟨_, rfl⟩
      have hEl : E.length = N := by rw [hE]; exact expL_length _ _ _ (by omega)
      have hDl : D.length = M := by rw [hD]; exact expL_length _ _ _ (by omega)
      have hED : E.take M = D := by rw [hE, hD]; exact expL_less _ _ _ _ (by omega)
      have cp : ∀ (V : World) (j : Nat), j ≤ 8160 → W3.grownBy V none → Calls Tryd.prog 17 #[.agg (x.map bv).toArray, .slice ao A.length ca, .int .i64 (j : Int)] V fun e w' => ∃ N9, e = .returned (.tuple #[.slice (some ⟨N9, 0, none⟩) j j, .bool true]) ∧ Bts w' (some ⟨N9, 0, none⟩) j (expL x A j) ∧ V.grownBy w' none := by
        intro V j hj gV
        exact (expand_any V x (unhide HX32) ao ca A ((unhide HA3).kept gV (fun _ e => by cases e)) (by have := unhide HAL; omega) j hj ((unhide HT3).kept0 gV)).mono fun e w' ⟨he, hb, hg⟩ => ⟨_, he, hb, hg⟩
      have cp1 := fun V => cp V N (by omega)
      have cp2 := fun V => cp V M (by omega)
      rw [← hE] at cp1
      rw [← hD] at cp2
      have m1 : (N : Int) / 2 = (M : Int) := by omega
      have m2 : Int.tdiv (N : Int) 2 = (M : Int) := by rw [Int.tdiv_eq_ediv_of_nonneg (by omega)]; omega
      have m3 : IntKind.i64.wrap (M : Int) = (M : Int) := by rw [IntKind.wrap_i64]; omega
      have hn0 : ¬ (N : Int) < 0 := by omega
      have hMN : M ≤ N := by omega
      have HE := hide hE
      have HD := hide hD
      have HM := hide hM
      have HEL := hide hEl
      have HDL := hide hDl
      have HED := hide hED
      clear cp hE hD hM hEl hDl hED
      have hK4 := hX3.kept g4 (by simp)
      have HK4 := hide hK4
      clear hK4
      have cp1a := cp1 w4 g4
      go_wp2_with (refine wpList_load_row rfl 23 _ rfl w2.heap.size rfl _ _ _ _ (unhide HK4) Tryd.underlying23 rfl ?_ ?_; (rw [unhide HSZ]; exact hi32))
      refine cp1a.mono ?_
      rintro e w5 ⟨NB, rfl, hBE, g5⟩
      have G5 := tr g4 g5
      clear cp1a cp1
      have cK : ∀ V, w5.grownBy V none → (convert 30 9 (.slice (some ⟨w2.heap.size, 0, none⟩) 32 32)).run Tryd.prog V = .ok (.string (str x)) V := fun V gV => unhide HCK V (tr G5 gV)
      have cA : ∀ V, w5.grownBy V none → (convert 30 9 (.slice ao A.length ca)).run Tryd.prog V = .ok (.string (str A)) V := fun V gV => conv_str ((unhide HA3).kept (tr G5 gV) (fun _ e => by cases e))
      have cx : ∀ V, w5.grownBy V none → Calls Tryd.prog 18 #[.string (str x), .string (str A), .int .i64 (N : Int)] V fun e w' => e = .returned (.tuple #[.string (str E), .bool true]) ∧ w5.grownBy w' none := by
        intro V gV
        rw [unhide HE]
        exact (rexp_any V x A N (by omega) (by rw [unhide HX32]; omega) (by have := unhide HAL; omega)).mono fun e w' ⟨he, hg⟩ => ⟨he, tr gV hg⟩
      have h1 : w5.grownBy w5.drew none := gb_drew (gb_refl _ _)
      go_wp2_with fail
      refine wp_region_noPanic ?_
      refine wp_region_held_drew (S := fun V => w5.grownBy V none) (by kernel_rfl) h1 (fun _ => ?_)
      refine wpAnyH_take (i := 0) (oi := { dst := some 43, op := Op.slice 23 (Operand.tmp 7) none none none, type := _, pos := _, after := _, guard := _ }) (v := .slice (some ⟨w2.heap.size, 0, none⟩) 32 32) rfl (by kernel_rfl) (by kernel_rfl) (by kernel_rfl) (fun _ _ _ h => h) (Or.inl ⟨by rfl, fun V (hV : w5.grownBy V none) => by go_simp⟩) h1 ?_
      (try simp only [Act.put, List.setIfInBounds_toArray, List.set_cons_zero, List.set_cons_succ])
      refine wpAnyH_take (i := 1) (oi := { dst := some 44, op := Op.convert 30 9 (Operand.tmp 43), type := _, pos := _, after := _, guard := _ }) (v := .string (str x)) rfl (by kernel_rfl) (by kernel_rfl) (by kernel_rfl) (fun _ _ _ h => h) (Or.inl ⟨by rfl, fun V (hV : w5.grownBy V none) => by go_simp⟩) h1 ?_
      (try simp only [Act.put, List.setIfInBounds_toArray, List.set_cons_zero, List.set_cons_succ])
      refine wpAnyH_take (i := 2) (oi := { dst := some 45, op := Op.move (Operand.tmp 0), type := _, pos := _, after := _, guard := _ }) (v := .slice ao A.length ca) rfl (by kernel_rfl) (by kernel_rfl) (by kernel_rfl) (fun _ _ _ h => h) (Or.inl ⟨by rfl, fun V (hV : w5.grownBy V none) => by go_simp⟩) h1 ?_
      (try simp only [Act.put, List.setIfInBounds_toArray, List.set_cons_zero, List.set_cons_succ])
      refine wpAnyH_take (i := 3) (oi := { dst := some 46, op := Op.convert 30 9 (Operand.tmp 45), type := _, pos := _, after := _, guard := _ }) (v := .string (str A)) rfl (by kernel_rfl) (by kernel_rfl) (by kernel_rfl) (fun _ _ _ h => h) (Or.inl ⟨by rfl, fun V (hV : w5.grownBy V none) => by go_simp⟩) h1 ?_
      (try simp only [Act.put, List.setIfInBounds_toArray, List.set_cons_zero, List.set_cons_succ])
      refine wpAnyH_take (i := 4) (oi := { dst := some 47, op := Op.move (Operand.tmp 2), type := _, pos := _, after := _, guard := _ }) (v := .int .i64 (N : Int)) rfl (by kernel_rfl) (by kernel_rfl) (by kernel_rfl) (fun _ _ _ h => h) (Or.inl ⟨by rfl, fun V (hV : w5.grownBy V none) => by go_simp⟩) h1 ?_
      (try simp only [Act.put, List.setIfInBounds_toArray, List.set_cons_zero, List.set_cons_succ])
      refine wpAnyH_ready (rs := [5]) (by kernel_rfl) (by simp) ?_
      refine AllReadyH.cons (o := { dst := some 48, op := Op.call { callee := Callee.value (Operand.func 18), args := #[(Operand.tmp 44), (Operand.tmp 46), (Operand.tmp 47)], argTypes := #[9, 9, 3] }, type := _, pos := _, after := _, guard := _ }) rfl (fun K9 hK9 => ?_) AllReadyH.nil
      go_simp
      go_at_call 18
      refine (cx _ h1).mono ?_
      rintro e w6 ⟨rfl, g6⟩
      go_wp2_with fail
      refine hK9.out _ _ g6 (fun _ => ?_)
      clear hK9 K9
      (try simp only [Act.put, List.setIfInBounds_toArray, List.set_cons_zero, List.set_cons_succ])
      refine wpAnyH_take (i := 6) (oi := { dst := some 42, op := Op.move (Operand.tmp 48), type := _, pos := _, after := _, guard := _ }) (v := .tuple #[.string (str E), .bool true]) rfl (by kernel_rfl) (by kernel_rfl) (by kernel_rfl) (fun _ _ _ h => h) (Or.inl ⟨by rfl, fun V (hV : w5.grownBy V none) => by go_simp⟩) g6 ?_
      (try simp only [Act.put, List.setIfInBounds_toArray, List.set_cons_zero, List.set_cons_succ])
      refine wpAnyH_take (i := 7) (oi := { dst := some 49, op := Op.extract (Operand.tmp 42) 0, type := _, pos := _, after := _, guard := _ }) (v := .string (str E)) rfl (by kernel_rfl) (by kernel_rfl) (by kernel_rfl) (fun _ _ _ h => h) (Or.inl ⟨by rfl, fun V (hV : w5.grownBy V none) => by go_simp⟩) g6 ?_
      (try simp only [Act.put, List.setIfInBounds_toArray, List.set_cons_zero, List.set_cons_succ])
      refine wpAnyH_take (i := 8) (oi := { dst := some 50, op := Op.extract (Operand.tmp 42) 1, type := _, pos := _, after := _, guard := _ }) (v := .bool true) rfl (by kernel_rfl) (by kernel_rfl) (by kernel_rfl) (fun _ _ _ h => h) (Or.inl ⟨by rfl, fun V (hV : w5.grownBy V none) => by go_simp⟩) g6 ?_
      (try simp only [Act.put, List.setIfInBounds_toArray, List.set_cons_zero, List.set_cons_succ])
      refine wpAnyH_take (i := 9) (oi := { dst := some 10, op := Op.assign (Operand.tmp 49), type := _, pos := _, after := _, guard := _ }) (v := .string (str E)) rfl (by kernel_rfl) (by kernel_rfl) (by kernel_rfl) (fun _ _ _ h => h) (Or.inl ⟨by rfl, fun V (hV : w5.grownBy V none) => by go_simp⟩) g6 ?_
      (try simp only [Act.put, List.setIfInBounds_toArray, List.set_cons_zero, List.set_cons_succ])
      refine wpAnyH_take (i := 10) (oi := { dst := some 11, op := Op.assign (Operand.tmp 50), type := _, pos := _, after := _, guard := _ }) (v := .bool true) rfl (by kernel_rfl) (by kernel_rfl) (by kernel_rfl) (fun _ _ _ h => h) (Or.inl ⟨by rfl, fun V (hV : w5.grownBy V none) => by go_simp⟩) g6 ?_
      (try simp only [Act.put, List.setIfInBounds_toArray, List.set_cons_zero, List.set_cons_succ])
      refine wpAnyH_done (by kernel_rfl) ?_ _
      refine NoPanic.normal ?_
      clear cK cA cx h1
      have G6 := tr G5 g6
      have hK6 := hX3.kept G6 (by simp)
      have HK6 := hide hK6
      clear hK6
      have cp2a := cp2 w6 G6
      go_wp2_with (refine wpList_load_row rfl 23 _ rfl w2.heap.size rfl _ _ _ _ (unhide HK6) Tryd.underlying23 rfl ?_ ?_; (rw [unhide HSZ]; exact hi32))
      refine cp2a.mono ?_
      rintro e w7 ⟨ND, rfl, hBD, g7⟩
      clear cp2a
      clear cp2
      have G7 := tr G6 g7
      have c1 : ∀ V, w7.grownBy V none → Calls Tryd.prog 19 #[] V fun e w9 => e = .returned (.bool true) ∧ w7.grownBy w9 none := fun V gV => (kone_any V ((unhide HT3).kept0 (tr G7 gV))).mono fun e w9 ⟨he, hgw⟩ => ⟨he, tr gV hgw⟩
      have hBE7 := (hBE.kept g6 (fun _ e => by cases e)).kept g7 (fun _ e => by cases e)
      have cE : ∀ V, w7.grownBy V none → (convert 30 9 (.slice (some ⟨NB, 0, none⟩) N N)).run Tryd.prog V = .ok (.string (str E)) V := fun V gV => by
        have := conv_str (hBE7.kept gV (fun _ e => by cases e))
        rw [unhide HEL] at this
        exact this
      have cD : ∀ V, w7.grownBy V none → (convert 30 9 (.slice (some ⟨ND, 0, none⟩) M M)).run Tryd.prog V = .ok (.string (str D)) V := fun V gV => by
        have := conv_str (hBD.kept gV (fun _ e => by cases e))
        rw [unhide HDL] at this
        exact this
      have cM : ∀ V, w7.grownBy V none → (convert 30 9 (.slice (some ⟨NB, 0, none⟩) M N)).run Tryd.prog V = .ok (.string (str D)) V := fun V gV => by
        have := conv_str ((hBE7.kept gV (fun _ e => by cases e)).take M (by rw [unhide HEL]; exact hMN))
        rw [unhide HED, unhide HDL] at this
        exact this
      have sM : ∀ W, (Instr.slice 30 (.slice (some ⟨NB, 0, none⟩) N N) none (some (.int .i64 (M : Int))) none).run Tryd.prog W = .ok (.slice (some ⟨NB, 0, none⟩) M N) W := fun W => slice_to W _ _ Tryd.underlying30 size_byte _ N N M hMN
      have eE : ((str E).toList == (str E).toList) = true := by simp
      have eD : ((str D).toList == (str D).toList) = true := by simp
      clear hBE hBE7 hBD
      have h2 : w7.grownBy w7.drew none := gb_drew (gb_refl _ _)
      go_wp2_with fail
      refine wp_region_noPanic ?_
      refine wp_region_held_drew (S := fun V => w7.grownBy V none) (by kernel_rfl) h2 (fun _ => ?_)
      refine wpAnyH_take (i := 0) (oi := { dst := some 60, op := Op.move (Operand.tmp 8), type := _, pos := _, after := _, guard := _ }) (v := .slice (some ⟨NB, 0, none⟩) N N) rfl (by kernel_rfl) (by kernel_rfl) (by kernel_rfl) (fun _ _ _ h => h) (Or.inl ⟨by rfl, fun V (hV : w7.grownBy V none) => by go_simp⟩) h2 ?_
      (try simp only [Act.put, List.setIfInBounds_toArray, List.set_cons_zero, List.set_cons_succ])
      refine wpAnyH_take (i := 1) (oi := { dst := some 61, op := Op.convert 30 9 (Operand.tmp 60), type := _, pos := _, after := _, guard := _ }) (v := .string (str E)) rfl (by kernel_rfl) (by kernel_rfl) (by kernel_rfl) (fun _ _ _ h => h) (Or.inl ⟨by rfl, fun V (hV : w7.grownBy V none) => by go_simp⟩) h2 ?_
      (try simp only [Act.put, List.setIfInBounds_toArray, List.set_cons_zero, List.set_cons_succ])
      refine wpAnyH_take (i := 2) (oi := { dst := some 62, op := Op.move (Operand.tmp 10), type := _, pos := _, after := _, guard := _ }) (v := .string (str E)) rfl (by kernel_rfl) (by kernel_rfl) (by kernel_rfl) (fun _ _ _ h => h) (Or.inl ⟨by rfl, fun V (hV : w7.grownBy V none) => by go_simp⟩) h2 ?_
      (try simp only [Act.put, List.setIfInBounds_toArray, List.set_cons_zero, List.set_cons_succ])
      refine wpAnyH_take (i := 3) (oi := { dst := some 63, op := Op.binOp BinOp.eql 9 (Operand.tmp 61) (Operand.tmp 62) 9, type := _, pos := _, after := _, guard := _ }) (v := .bool true) rfl (by kernel_rfl) (by kernel_rfl) (by kernel_rfl) (fun _ _ _ h => h) (Or.inl ⟨by rfl, fun V (hV : w7.grownBy V none) => by go_simp⟩) h2 ?_
      (try simp only [Act.put, List.setIfInBounds_toArray, List.set_cons_zero, List.set_cons_succ])
      refine wpAnyH_take (i := 4) (oi := { dst := some 64, op := Op.move (Operand.tmp 63), type := _, pos := _, after := _, guard := _ }) (v := .bool true) rfl (by kernel_rfl) (by kernel_rfl) (by kernel_rfl) (fun _ _ _ h => h) (Or.inl ⟨by rfl, fun V (hV : w7.grownBy V none) => by go_simp⟩) h2 ?_
      (try simp only [Act.put, List.setIfInBounds_toArray, List.set_cons_zero, List.set_cons_succ])
      refine wpAnyH_take (i := 5) (oi := { dst := some 65, op := Op.move (Operand.tmp 9), type := _, pos := _, after := _, guard := _ }) (v := .bool true) rfl (by kernel_rfl) (by kernel_rfl) (by kernel_rfl) (fun _ _ _ h => h) (Or.inl ⟨by rfl, fun V (hV : w7.grownBy V none) => by go_simp⟩) h2 ?_
      (try simp only [Act.put, List.setIfInBounds_toArray, List.set_cons_zero, List.set_cons_succ])
      refine wpAnyH_take (i := 6) (oi := { dst := some 66, op := Op.move (Operand.tmp 11), type := _, pos := _, after := _, guard := _ }) (v := .bool true) rfl (by kernel_rfl) (by kernel_rfl) (by kernel_rfl) (fun _ _ _ h => h) (Or.inl ⟨by rfl, fun V (hV : w7.grownBy V none) => by go_simp⟩) h2 ?_
      (try simp only [Act.put, List.setIfInBounds_toArray, List.set_cons_zero, List.set_cons_succ])
      refine wpAnyH_take (i := 7) (oi := { dst := some 67, op := Op.binOp BinOp.eql 4 (Operand.tmp 65) (Operand.tmp 66) 4, type := _, pos := _, after := _, guard := _ }) (v := .bool true) rfl (by kernel_rfl) (by kernel_rfl) (by kernel_rfl) (fun _ _ _ h => h) (Or.inl ⟨by rfl, fun V (hV : w7.grownBy V none) => by go_simp⟩) h2 ?_
      (try simp only [Act.put, List.setIfInBounds_toArray, List.set_cons_zero, List.set_cons_succ])
      refine wpAnyH_take (i := 8) (oi := { dst := some 68, op := Op.pick (Operand.tmp 64) (Operand.tmp 67) (Operand.const (Value.bool false)), type := _, pos := _, after := _, guard := _ }) (v := .bool true) rfl (by kernel_rfl) (by kernel_rfl) (by kernel_rfl) (fun _ _ _ h => h) (Or.inl ⟨by rfl, fun V (hV : w7.grownBy V none) => by go_simp⟩) h2 ?_
      (try simp only [Act.put, List.setIfInBounds_toArray, List.set_cons_zero, List.set_cons_succ])
      refine wpAnyH_take (i := 9) (oi := { dst := some 69, op := Op.move (Operand.tmp 68), type := _, pos := _, after := _, guard := _ }) (v := .bool true) rfl (by kernel_rfl) (by kernel_rfl) (by kernel_rfl) (fun _ _ _ h => h) (Or.inl ⟨by rfl, fun V (hV : w7.grownBy V none) => by go_simp⟩) h2 ?_
      (try simp only [Act.put, List.setIfInBounds_toArray, List.set_cons_zero, List.set_cons_succ])
      refine wpAnyH_take (i := 10) (oi := { dst := some 70, op := Op.move (Operand.tmp 2), type := _, pos := _, after := _, guard := _ }) (v := .int .i64 (N : Int)) rfl (by kernel_rfl) (by kernel_rfl) (by kernel_rfl) (fun _ _ _ h => h) (Or.inl ⟨by rfl, fun V (hV : w7.grownBy V none) => by go_simp⟩) h2 ?_
      (try simp only [Act.put, List.setIfInBounds_toArray, List.set_cons_zero, List.set_cons_succ])
      refine wpAnyH_take (i := 11) (oi := { dst := some 71, op := Op.binOp BinOp.lss 3 (Operand.tmp 70) (Operand.const (Value.int IntKind.i64 0)) 3, type := _, pos := _, after := _, guard := _ }) (v := .bool false) rfl (by kernel_rfl) (by kernel_rfl) (by kernel_rfl) (fun _ _ _ h => h) (Or.inl ⟨by rfl, fun V (hV : w7.grownBy V none) => by go_simp⟩) h2 ?_
      (try simp only [Act.put, List.setIfInBounds_toArray, List.set_cons_zero, List.set_cons_succ])
      refine wpAnyH_take (i := 12) (oi := { dst := some 72, op := Op.move (Operand.tmp 71), type := _, pos := _, after := _, guard := _ }) (v := .bool false) rfl (by kernel_rfl) (by kernel_rfl) (by kernel_rfl) (fun _ _ _ h => h) (Or.inl ⟨by rfl, fun V (hV : w7.grownBy V none) => by go_simp⟩) h2 ?_
      (try simp only [Act.put, List.setIfInBounds_toArray, List.set_cons_zero, List.set_cons_succ])
      refine wpAnyH_take (i := 13) (oi := { dst := some 73, op := Op.move (Operand.tmp 9), type := _, pos := _, after := _, guard := _ }) (v := .bool true) rfl (by kernel_rfl) (by kernel_rfl) (by kernel_rfl) (fun _ _ _ h => h) (Or.inl ⟨by rfl, fun V (hV : w7.grownBy V none) => by go_simp⟩) h2 ?_
      (try simp only [Act.put, List.setIfInBounds_toArray, List.set_cons_zero, List.set_cons_succ])
      refine wpAnyH_take (i := 14) (oi := { dst := some 74, op := Op.unOp UnOp.not 4 (Operand.tmp 73), type := _, pos := _, after := _, guard := _ }) (v := .bool false) rfl (by kernel_rfl) (by kernel_rfl) (by kernel_rfl) (fun _ _ _ h => h) (Or.inl ⟨by rfl, fun V (hV : w7.grownBy V none) => by go_simp⟩) h2 ?_
      (try simp only [Act.put, List.setIfInBounds_toArray, List.set_cons_zero, List.set_cons_succ])
      refine wpAnyH_take (i := 15) (oi := { dst := some 75, op := Op.pick (Operand.tmp 72) (Operand.const (Value.bool true)) (Operand.tmp 74), type := _, pos := _, after := _, guard := _ }) (v := .bool false) rfl (by kernel_rfl) (by kernel_rfl) (by kernel_rfl) (fun _ _ _ h => h) (Or.inl ⟨by rfl, fun V (hV : w7.grownBy V none) => by go_simp⟩) h2 ?_
      (try simp only [Act.put, List.setIfInBounds_toArray, List.set_cons_zero, List.set_cons_succ])
      refine wpAnyH_take (i := 16) (oi := { dst := some 76, op := Op.move (Operand.tmp 75), type := _, pos := _, after := _, guard := _ }) (v := .bool false) rfl (by kernel_rfl) (by kernel_rfl) (by kernel_rfl) (fun _ _ _ h => h) (Or.inl ⟨by rfl, fun V (hV : w7.grownBy V none) => by go_simp⟩) h2 ?_
      (try simp only [Act.put, List.setIfInBounds_toArray, List.set_cons_zero, List.set_cons_succ])
      refine wpAnyH_take (i := 17) (oi := { dst := some 77, op := Op.move (Operand.tmp 14), type := _, pos := _, after := _, guard := _ }) (v := .bool true) rfl (by kernel_rfl) (by kernel_rfl) (by kernel_rfl) (fun _ _ _ h => h) (Or.inl ⟨by rfl, fun V (hV : w7.grownBy V none) => by go_simp⟩) h2 ?_
      (try simp only [Act.put, List.setIfInBounds_toArray, List.set_cons_zero, List.set_cons_succ])
      refine wpAnyH_take (i := 18) (oi := { dst := some 78, op := Op.move (Operand.tmp 77), type := _, pos := _, after := _, guard := _ }) (v := .bool true) rfl (by kernel_rfl) (by kernel_rfl) (by kernel_rfl) (fun _ _ _ h => h) (Or.inl ⟨by rfl, fun V (hV : w7.grownBy V none) => by go_simp⟩) h2 ?_
      (try simp only [Act.put, List.setIfInBounds_toArray, List.set_cons_zero, List.set_cons_succ])
      refine wpAnyH_take (i := 19) (oi := { dst := some 79, op := Op.move (Operand.tmp 13), type := _, pos := _, after := _, guard := _ }) (v := .slice (some ⟨ND, 0, none⟩) M M) rfl (by kernel_rfl) (by kernel_rfl) (by kernel_rfl) (fun _ _ _ h => h) (Or.inl ⟨by rfl, fun V (hV : w7.grownBy V none) => by go_simp⟩) h2 ?_
      (try simp only [Act.put, List.setIfInBounds_toArray, List.set_cons_zero, List.set_cons_succ])
      refine wpAnyH_take (i := 20) (oi := { dst := some 80, op := Op.convert 30 9 (Operand.tmp 79), type := _, pos := _, after := _, guard := _ }) (v := .string (str D)) rfl (by kernel_rfl) (by kernel_rfl) (by kernel_rfl) (fun _ _ _ h => h) (Or.inl ⟨by rfl, fun V (hV : w7.grownBy V none) => by go_simp⟩) h2 ?_
      (try simp only [Act.put, List.setIfInBounds_toArray, List.set_cons_zero, List.set_cons_succ])
      refine wpAnyH_take (i := 21) (oi := { dst := some 81, op := Op.move (Operand.tmp 8), type := _, pos := _, after := _, guard := _ }) (v := .slice (some ⟨NB, 0, none⟩) N N) rfl (by kernel_rfl) (by kernel_rfl) (by kernel_rfl) (fun _ _ _ h => h) (Or.inl ⟨by rfl, fun V (hV : w7.grownBy V none) => by go_simp⟩) h2 ?_
      (try simp only [Act.put, List.setIfInBounds_toArray, List.set_cons_zero, List.set_cons_succ])
      refine wpAnyH_take (i := 22) (oi := { dst := some 82, op := Op.move (Operand.tmp 12), type := _, pos := _, after := _, guard := _ }) (v := .int .i64 (M : Int)) rfl (by kernel_rfl) (by kernel_rfl) (by kernel_rfl) (fun _ _ _ h => h) (Or.inl ⟨by rfl, fun V (hV : w7.grownBy V none) => by go_simp⟩) h2 ?_
      (try simp only [Act.put, List.setIfInBounds_toArray, List.set_cons_zero, List.set_cons_succ])
      refine wpAnyH_take (i := 23) (oi := { dst := some 83, op := Op.slice 30 (Operand.tmp 81) none (some (Operand.tmp 82)) none, type := _, pos := _, after := _, guard := _ }) (v := .slice (some ⟨NB, 0, none⟩) M N) rfl (by kernel_rfl) (by kernel_rfl) (by kernel_rfl) (fun _ _ _ h => h) (Or.inl ⟨by rfl, fun V (hV : w7.grownBy V none) => by go_simp⟩) h2 ?_
      (try simp only [Act.put, List.setIfInBounds_toArray, List.set_cons_zero, List.set_cons_succ])
      refine wpAnyH_take (i := 24) (oi := { dst := some 84, op := Op.convert 30 9 (Operand.tmp 83), type := _, pos := _, after := _, guard := _ }) (v := .string (str D)) rfl (by kernel_rfl) (by kernel_rfl) (by kernel_rfl) (fun _ _ _ h => h) (Or.inl ⟨by rfl, fun V (hV : w7.grownBy V none) => by go_simp⟩) h2 ?_
      (try simp only [Act.put, List.setIfInBounds_toArray, List.set_cons_zero, List.set_cons_succ])
      refine wpAnyH_take (i := 25) (oi := { dst := some 85, op := Op.binOp BinOp.eql 9 (Operand.tmp 80) (Operand.tmp 84) 9, type := _, pos := _, after := _, guard := _ }) (v := .bool true) rfl (by kernel_rfl) (by kernel_rfl) (by kernel_rfl) (fun _ _ _ h => h) (Or.inl ⟨by rfl, fun V (hV : w7.grownBy V none) => by go_simp⟩) h2 ?_
      (try simp only [Act.put, List.setIfInBounds_toArray, List.set_cons_zero, List.set_cons_succ])
      refine wpAnyH_take (i := 26) (oi := { dst := some 86, op := Op.pick (Operand.tmp 78) (Operand.tmp 85) (Operand.const (Value.bool false)), type := _, pos := _, after := _, guard := _ }) (v := .bool true) rfl (by kernel_rfl) (by kernel_rfl) (by kernel_rfl) (fun _ _ _ h => h) (Or.inl ⟨by rfl, fun V (hV : w7.grownBy V none) => by go_simp⟩) h2 ?_
      (try simp only [Act.put, List.setIfInBounds_toArray, List.set_cons_zero, List.set_cons_succ])
      refine wpAnyH_take (i := 27) (oi := { dst := some 87, op := Op.pick (Operand.tmp 76) (Operand.const (Value.bool true)) (Operand.tmp 86), type := _, pos := _, after := _, guard := _ }) (v := .bool true) rfl (by kernel_rfl) (by kernel_rfl) (by kernel_rfl) (fun _ _ _ h => h) (Or.inl ⟨by rfl, fun V (hV : w7.grownBy V none) => by go_simp⟩) h2 ?_
      (try simp only [Act.put, List.setIfInBounds_toArray, List.set_cons_zero, List.set_cons_succ])
      refine wpAnyH_take (i := 28) (oi := { dst := some 88, op := Op.pick (Operand.tmp 69) (Operand.tmp 87) (Operand.const (Value.bool false)), type := _, pos := _, after := _, guard := _ }) (v := .bool true) rfl (by kernel_rfl) (by kernel_rfl) (by kernel_rfl) (fun _ _ _ h => h) (Or.inl ⟨by rfl, fun V (hV : w7.grownBy V none) => by go_simp⟩) h2 ?_
      (try simp only [Act.put, List.setIfInBounds_toArray, List.set_cons_zero, List.set_cons_succ])
      refine wpAnyH_take (i := 29) (oi := { dst := some 89, op := Op.move (Operand.tmp 88), type := _, pos := _, after := _, guard := _ }) (v := .bool true) rfl (by kernel_rfl) (by kernel_rfl) (by kernel_rfl) (fun _ _ _ h => h) (Or.inl ⟨by rfl, fun V (hV : w7.grownBy V none) => by go_simp⟩) h2 ?_
      (try simp only [Act.put, List.setIfInBounds_toArray, List.set_cons_zero, List.set_cons_succ])
      refine wpAnyH_ready (rs := [30]) (by kernel_rfl) (by simp) ?_
      refine AllReadyH.cons (o := { dst := some 90, op := Op.call { callee := Callee.value (Operand.func 19), args := #[], argTypes := #[] }, type := _, pos := _, after := _, guard := _ }) rfl (fun K9 hK9 => ?_) AllReadyH.nil
      go_simp
      go_at_call 19
      refine (c1 _ h2).mono ?_
      rintro e w8 ⟨rfl, g8⟩
      go_wp2_with fail
      refine hK9.out _ _ g8 (fun _ => ?_)
      clear hK9 K9
      (try simp only [Act.put, List.setIfInBounds_toArray, List.set_cons_zero, List.set_cons_succ])
      refine wpAnyH_take (i := 31) (oi := { dst := some 91, op := Op.pick (Operand.tmp 89) (Operand.tmp 90) (Operand.const (Value.bool false)), type := _, pos := _, after := _, guard := _ }) (v := .bool true) rfl (by kernel_rfl) (by kernel_rfl) (by kernel_rfl) (fun _ _ _ h => h) (Or.inl ⟨by rfl, fun V (hV : w7.grownBy V none) => by go_simp⟩) g8 ?_
      (try simp only [Act.put, List.setIfInBounds_toArray, List.set_cons_zero, List.set_cons_succ])
      refine wpAnyH_take (i := 32) (oi := { dst := some 6, op := Op.assign (Operand.tmp 91), type := _, pos := _, after := _, guard := _ }) (v := .bool true) rfl (by kernel_rfl) (by kernel_rfl) (by kernel_rfl) (fun _ _ _ h => h) (Or.inl ⟨by rfl, fun V (hV : w7.grownBy V none) => by go_simp⟩) g8 ?_
      (try simp only [Act.put, List.setIfInBounds_toArray, List.set_cons_zero, List.set_cons_succ])
      refine wpAnyH_done (by kernel_rfl) ?_ _
      refine NoPanic.normal ?_
      go_wp2
      go_ret
      exact ⟨rfl, tr (unhide HG3) (tr G7 g8)⟩
    · have cp1 : ∀ (V : World), Calls Tryd.prog 17 #[.agg (x.map bv).toArray, .slice ao A.length ca, .int .i64 (N : Int)] V fun e w' => e = .returned (.tuple #[.slice none 0 0, .bool false]) ∧ V.grownBy w' none := fun V => expand_no V x _ (N : Int) (by omega)
      have cp2 : ∀ (V : World) (j : Int), W3.grownBy V none → Calls Tryd.prog 17 #[.agg (x.map bv).toArray, .slice ao A.length ca, .int .i64 j] V fun e w' => ∃ dv db, e = .returned (.tuple #[dv, .bool db]) ∧ V.grownBy w' none := by
        intro V j gV
        by_cases hj : j < 0 ∨ 8160 < j
        · exact (expand_no V x _ j hj).mono fun e w' ⟨he, hg⟩ => ⟨_, _, he, hg⟩
        · have h := expand_any V x (unhide HX32) ao ca A ((unhide HA3).kept gV (fun _ e => by cases e)) (by have := unhide HAL; omega) j.toNat (by omega) ((unhide HT3).kept0 gV)
          rw [Int.toNat_of_nonneg (by omega)] at h
          exact h.mono fun e w' ⟨he, _, hg⟩ => ⟨_, _, he, hg⟩
      obtain ⟨M, hM⟩ : ∃ M : Nat, M = N / 2 := ⟨_, rfl⟩
      have m1 : (N : Int) / 2 = (M : Int) := by omega
      have m2 : Int.tdiv (N : Int) 2 = (M : Int) := by rw [Int.tdiv_eq_ediv_of_nonneg (by omega)]; omega
      have m3 : IntKind.i64.wrap (M : Int) = (M : Int) := by rw [IntKind.wrap_i64]; omega
      have hn0 : ¬ (N : Int) < 0 := by omega
      clear hM
      have hK4 := hX3.kept g4 (by simp)
      have HK4 := hide hK4
      clear hK4
      have cp1a := cp1 w4
      go_wp2_with (refine wpList_load_row rfl 23 _ rfl w2.heap.size rfl _ _ _ _ (unhide HK4) Tryd.underlying23 rfl ?_ ?_; (rw [unhide HSZ]; exact hi32))
      refine cp1a.mono ?_
      rintro e w5 ⟨rfl, g5⟩
      have G5 := tr g4 g5
      clear cp1a cp1
      have cK : ∀ V, w5.grownBy V none → (convert 30 9 (.slice (some ⟨w2.heap.size, 0, none⟩) 32 32)).run Tryd.prog V = .ok (.string (str x)) V := fun V gV => unhide HCK V (tr G5 gV)
      have cA : ∀ V, w5.grownBy V none → (convert 30 9 (.slice ao A.length ca)).run Tryd.prog V = .ok (.string (str A)) V := fun V gV => conv_str ((unhide HA3).kept (tr G5 gV) (fun _ e => by cases e))
      have cx : ∀ V, w5.grownBy V none → Calls Tryd.prog 18 #[.string (str x), .string (str A), .int .i64 (N : Int)] V fun e w' => e = .returned (.tuple #[.string (str []), .bool false]) ∧ w5.grownBy w' none := by
        intro V gV
        exact (rexp_no V x A (N : Int) (by omega)).mono fun e w' ⟨he, hw⟩ => ⟨he, by rw [hw]; exact gV⟩
      have h1 : w5.grownBy w5.drew none := gb_drew (gb_refl _ _)
      go_wp2_with fail
      refine wp_region_noPanic ?_
      refine wp_region_held_drew (S := fun V => w5.grownBy V none) (by kernel_rfl) h1 (fun _ => ?_)
      refine wpAnyH_take (i := 0) (oi := { dst := some 43, op := Op.slice 23 (Operand.tmp 7) none none none, type := _, pos := _, after := _, guard := _ }) (v := .slice (some ⟨w2.heap.size, 0, none⟩) 32 32) rfl (by kernel_rfl) (by kernel_rfl) (by kernel_rfl) (fun _ _ _ h => h) (Or.inl ⟨by rfl, fun V (hV : w5.grownBy V none) => by go_simp⟩) h1 ?_
      (try simp only [Act.put, List.setIfInBounds_toArray, List.set_cons_zero, List.set_cons_succ])
      refine wpAnyH_take (i := 1) (oi := { dst := some 44, op := Op.convert 30 9 (Operand.tmp 43), type := _, pos := _, after := _, guard := _ }) (v := .string (str x)) rfl (by kernel_rfl) (by kernel_rfl) (by kernel_rfl) (fun _ _ _ h => h) (Or.inl ⟨by rfl, fun V (hV : w5.grownBy V none) => by go_simp⟩) h1 ?_
      (try simp only [Act.put, List.setIfInBounds_toArray, List.set_cons_zero, List.set_cons_succ])
      refine wpAnyH_take (i := 2) (oi := { dst := some 45, op := Op.move (Operand.tmp 0), type := _, pos := _, after := _, guard := _ }) (v := .slice ao A.length ca) rfl (by kernel_rfl) (by kernel_rfl) (by kernel_rfl) (fun _ _ _ h => h) (Or.inl ⟨by rfl, fun V (hV : w5.grownBy V none) => by go_simp⟩) h1 ?_
      (try simp only [Act.put, List.setIfInBounds_toArray, List.set_cons_zero, List.set_cons_succ])
      refine wpAnyH_take (i := 3) (oi := { dst := some 46, op := Op.convert 30 9 (Operand.tmp 45), type := _, pos := _, after := _, guard := _ }) (v := .string (str A)) rfl (by kernel_rfl) (by kernel_rfl) (by kernel_rfl) (fun _ _ _ h => h) (Or.inl ⟨by rfl, fun V (hV : w5.grownBy V none) => by go_simp⟩) h1 ?_
      (try simp only [Act.put, List.setIfInBounds_toArray, List.set_cons_zero, List.set_cons_succ])
      refine wpAnyH_take (i := 4) (oi := { dst := some 47, op := Op.move (Operand.tmp 2), type := _, pos := _, after := _, guard := _ }) (v := .int .i64 (N : Int)) rfl (by kernel_rfl) (by kernel_rfl) (by kernel_rfl) (fun _ _ _ h => h) (Or.inl ⟨by rfl, fun V (hV : w5.grownBy V none) => by go_simp⟩) h1 ?_
      (try simp only [Act.put, List.setIfInBounds_toArray, List.set_cons_zero, List.set_cons_succ])
      refine wpAnyH_ready (rs := [5]) (by kernel_rfl) (by simp) ?_
      refine AllReadyH.cons (o := { dst := some 48, op := Op.call { callee := Callee.value (Operand.func 18), args := #[(Operand.tmp 44), (Operand.tmp 46), (Operand.tmp 47)], argTypes := #[9, 9, 3] }, type := _, pos := _, after := _, guard := _ }) rfl (fun K9 hK9 => ?_) AllReadyH.nil
      go_simp
      go_at_call 18
      refine (cx _ h1).mono ?_
      rintro e w6 ⟨rfl, g6⟩
      go_wp2_with fail
      refine hK9.out _ _ g6 (fun _ => ?_)
      clear hK9 K9
      (try simp only [Act.put, List.setIfInBounds_toArray, List.set_cons_zero, List.set_cons_succ])
      refine wpAnyH_take (i := 6) (oi := { dst := some 42, op := Op.move (Operand.tmp 48), type := _, pos := _, after := _, guard := _ }) (v := .tuple #[.string (str []), .bool false]) rfl (by kernel_rfl) (by kernel_rfl) (by kernel_rfl) (fun _ _ _ h => h) (Or.inl ⟨by rfl, fun V (hV : w5.grownBy V none) => by go_simp⟩) g6 ?_
      (try simp only [Act.put, List.setIfInBounds_toArray, List.set_cons_zero, List.set_cons_succ])
      refine wpAnyH_take (i := 7) (oi := { dst := some 49, op := Op.extract (Operand.tmp 42) 0, type := _, pos := _, after := _, guard := _ }) (v := .string (str [])) rfl (by kernel_rfl) (by kernel_rfl) (by kernel_rfl) (fun _ _ _ h => h) (Or.inl ⟨by rfl, fun V (hV : w5.grownBy V none) => by go_simp⟩) g6 ?_
      (try simp only [Act.put, List.setIfInBounds_toArray, List.set_cons_zero, List.set_cons_succ])
      refine wpAnyH_take (i := 8) (oi := { dst := some 50, op := Op.extract (Operand.tmp 42) 1, type := _, pos := _, after := _, guard := _ }) (v := .bool false) rfl (by kernel_rfl) (by kernel_rfl) (by kernel_rfl) (fun _ _ _ h => h) (Or.inl ⟨by rfl, fun V (hV : w5.grownBy V none) => by go_simp⟩) g6 ?_
      (try simp only [Act.put, List.setIfInBounds_toArray, List.set_cons_zero, List.set_cons_succ])
      refine wpAnyH_take (i := 9) (oi := { dst := some 10, op := Op.assign (Operand.tmp 49), type := _, pos := _, after := _, guard := _ }) (v := .string (str [])) rfl (by kernel_rfl) (by kernel_rfl) (by kernel_rfl) (fun _ _ _ h => h) (Or.inl ⟨by rfl, fun V (hV : w5.grownBy V none) => by go_simp⟩) g6 ?_
      (try simp only [Act.put, List.setIfInBounds_toArray, List.set_cons_zero, List.set_cons_succ])
      refine wpAnyH_take (i := 10) (oi := { dst := some 11, op := Op.assign (Operand.tmp 50), type := _, pos := _, after := _, guard := _ }) (v := .bool false) rfl (by kernel_rfl) (by kernel_rfl) (by kernel_rfl) (fun _ _ _ h => h) (Or.inl ⟨by rfl, fun V (hV : w5.grownBy V none) => by go_simp⟩) g6 ?_
      (try simp only [Act.put, List.setIfInBounds_toArray, List.set_cons_zero, List.set_cons_succ])
      refine wpAnyH_done (by kernel_rfl) ?_ _
      refine NoPanic.normal ?_
      clear cK cA cx h1
      have G6 := tr G5 g6
      have hK6 := hX3.kept G6 (by simp)
      have HK6 := hide hK6
      clear hK6
      have cp2a := cp2 w6 (M : Int) G6
      go_wp2_with (refine wpList_load_row rfl 23 _ rfl w2.heap.size rfl _ _ _ _ (unhide HK6) Tryd.underlying23 rfl ?_ ?_; (rw [unhide HSZ]; exact hi32))
      refine cp2a.mono ?_
      rintro e w7 ⟨dv, db, rfl, g7⟩
      clear cp2a
      clear cp2
      have G7 := tr G6 g7
      have c1 : ∀ V, w7.grownBy V none → Calls Tryd.prog 19 #[] V fun e w9 => e = .returned (.bool true) ∧ w7.grownBy w9 none := fun V gV => (kone_any V ((unhide HT3).kept0 (tr G7 gV))).mono fun e w9 ⟨he, hgw⟩ => ⟨he, tr gV hgw⟩
      have cn : ∀ V, (convert 30 9 (.slice none 0 0)).run Tryd.prog V = .ok (.string (str [])) V := fun V => conv_str (Bts.nil V)
      have eN : ((str []).toList == (str []).toList) = true := by simp
      have h2 : w7.grownBy w7.drew none := gb_drew (gb_refl _ _)
      go_wp2_with fail
      refine wp_region_noPanic ?_
      refine wp_region_held_drew (S := fun V => w7.grownBy V none) (by kernel_rfl) h2 (fun _ => ?_)
      refine wpAnyH_take (i := 0) (oi := { dst := some 60, op := Op.move (Operand.tmp 8), type := _, pos := _, after := _, guard := _ }) (v := .slice none 0 0) rfl (by kernel_rfl) (by kernel_rfl) (by kernel_rfl) (fun _ _ _ h => h) (Or.inl ⟨by rfl, fun V (hV : w7.grownBy V none) => by go_simp⟩) h2 ?_
      (try simp only [Act.put, List.setIfInBounds_toArray, List.set_cons_zero, List.set_cons_succ])
      refine wpAnyH_take (i := 1) (oi := { dst := some 61, op := Op.convert 30 9 (Operand.tmp 60), type := _, pos := _, after := _, guard := _ }) (v := .string (str [])) rfl (by kernel_rfl) (by kernel_rfl) (by kernel_rfl) (fun _ _ _ h => h) (Or.inl ⟨by rfl, fun V (hV : w7.grownBy V none) => by go_simp⟩) h2 ?_
      (try simp only [Act.put, List.setIfInBounds_toArray, List.set_cons_zero, List.set_cons_succ])
      refine wpAnyH_take (i := 2) (oi := { dst := some 62, op := Op.move (Operand.tmp 10), type := _, pos := _, after := _, guard := _ }) (v := .string (str [])) rfl (by kernel_rfl) (by kernel_rfl) (by kernel_rfl) (fun _ _ _ h => h) (Or.inl ⟨by rfl, fun V (hV : w7.grownBy V none) => by go_simp⟩) h2 ?_
      (try simp only [Act.put, List.setIfInBounds_toArray, List.set_cons_zero, List.set_cons_succ])
      refine wpAnyH_take (i := 3) (oi := { dst := some 63, op := Op.binOp BinOp.eql 9 (Operand.tmp 61) (Operand.tmp 62) 9, type := _, pos := _, after := _, guard := _ }) (v := .bool true) rfl (by kernel_rfl) (by kernel_rfl) (by kernel_rfl) (fun _ _ _ h => h) (Or.inl ⟨by rfl, fun V (hV : w7.grownBy V none) => by go_simp⟩) h2 ?_
      (try simp only [Act.put, List.setIfInBounds_toArray, List.set_cons_zero, List.set_cons_succ])
      refine wpAnyH_take (i := 4) (oi := { dst := some 64, op := Op.move (Operand.tmp 63), type := _, pos := _, after := _, guard := _ }) (v := .bool true) rfl (by kernel_rfl) (by kernel_rfl) (by kernel_rfl) (fun _ _ _ h => h) (Or.inl ⟨by rfl, fun V (hV : w7.grownBy V none) => by go_simp⟩) h2 ?_
      (try simp only [Act.put, List.setIfInBounds_toArray, List.set_cons_zero, List.set_cons_succ])
      refine wpAnyH_take (i := 5) (oi := { dst := some 65, op := Op.move (Operand.tmp 9), type := _, pos := _, after := _, guard := _ }) (v := .bool false) rfl (by kernel_rfl) (by kernel_rfl) (by kernel_rfl) (fun _ _ _ h => h) (Or.inl ⟨by rfl, fun V (hV : w7.grownBy V none) => by go_simp⟩) h2 ?_
      (try simp only [Act.put, List.setIfInBounds_toArray, List.set_cons_zero, List.set_cons_succ])
      refine wpAnyH_take (i := 6) (oi := { dst := some 66, op := Op.move (Operand.tmp 11), type := _, pos := _, after := _, guard := _ }) (v := .bool false) rfl (by kernel_rfl) (by kernel_rfl) (by kernel_rfl) (fun _ _ _ h => h) (Or.inl ⟨by rfl, fun V (hV : w7.grownBy V none) => by go_simp⟩) h2 ?_
      (try simp only [Act.put, List.setIfInBounds_toArray, List.set_cons_zero, List.set_cons_succ])
      refine wpAnyH_take (i := 7) (oi := { dst := some 67, op := Op.binOp BinOp.eql 4 (Operand.tmp 65) (Operand.tmp 66) 4, type := _, pos := _, after := _, guard := _ }) (v := .bool true) rfl (by kernel_rfl) (by kernel_rfl) (by kernel_rfl) (fun _ _ _ h => h) (Or.inl ⟨by rfl, fun V (hV : w7.grownBy V none) => by go_simp⟩) h2 ?_
      (try simp only [Act.put, List.setIfInBounds_toArray, List.set_cons_zero, List.set_cons_succ])
      refine wpAnyH_take (i := 8) (oi := { dst := some 68, op := Op.pick (Operand.tmp 64) (Operand.tmp 67) (Operand.const (Value.bool false)), type := _, pos := _, after := _, guard := _ }) (v := .bool true) rfl (by kernel_rfl) (by kernel_rfl) (by kernel_rfl) (fun _ _ _ h => h) (Or.inl ⟨by rfl, fun V (hV : w7.grownBy V none) => by go_simp⟩) h2 ?_
      (try simp only [Act.put, List.setIfInBounds_toArray, List.set_cons_zero, List.set_cons_succ])
      refine wpAnyH_take (i := 9) (oi := { dst := some 69, op := Op.move (Operand.tmp 68), type := _, pos := _, after := _, guard := _ }) (v := .bool true) rfl (by kernel_rfl) (by kernel_rfl) (by kernel_rfl) (fun _ _ _ h => h) (Or.inl ⟨by rfl, fun V (hV : w7.grownBy V none) => by go_simp⟩) h2 ?_
      (try simp only [Act.put, List.setIfInBounds_toArray, List.set_cons_zero, List.set_cons_succ])
      refine wpAnyH_take (i := 10) (oi := { dst := some 70, op := Op.move (Operand.tmp 2), type := _, pos := _, after := _, guard := _ }) (v := .int .i64 (N : Int)) rfl (by kernel_rfl) (by kernel_rfl) (by kernel_rfl) (fun _ _ _ h => h) (Or.inl ⟨by rfl, fun V (hV : w7.grownBy V none) => by go_simp⟩) h2 ?_
      (try simp only [Act.put, List.setIfInBounds_toArray, List.set_cons_zero, List.set_cons_succ])
      refine wpAnyH_take (i := 11) (oi := { dst := some 71, op := Op.binOp BinOp.lss 3 (Operand.tmp 70) (Operand.const (Value.int IntKind.i64 0)) 3, type := _, pos := _, after := _, guard := _ }) (v := .bool false) rfl (by kernel_rfl) (by kernel_rfl) (by kernel_rfl) (fun _ _ _ h => h) (Or.inl ⟨by rfl, fun V (hV : w7.grownBy V none) => by go_simp⟩) h2 ?_
      (try simp only [Act.put, List.setIfInBounds_toArray, List.set_cons_zero, List.set_cons_succ])
      refine wpAnyH_take (i := 12) (oi := { dst := some 72, op := Op.move (Operand.tmp 71), type := _, pos := _, after := _, guard := _ }) (v := .bool false) rfl (by kernel_rfl) (by kernel_rfl) (by kernel_rfl) (fun _ _ _ h => h) (Or.inl ⟨by rfl, fun V (hV : w7.grownBy V none) => by go_simp⟩) h2 ?_
      (try simp only [Act.put, List.setIfInBounds_toArray, List.set_cons_zero, List.set_cons_succ])
      refine wpAnyH_take (i := 13) (oi := { dst := some 73, op := Op.move (Operand.tmp 9), type := _, pos := _, after := _, guard := _ }) (v := .bool false) rfl (by kernel_rfl) (by kernel_rfl) (by kernel_rfl) (fun _ _ _ h => h) (Or.inl ⟨by rfl, fun V (hV : w7.grownBy V none) => by go_simp⟩) h2 ?_
      (try simp only [Act.put, List.setIfInBounds_toArray, List.set_cons_zero, List.set_cons_succ])
      refine wpAnyH_take (i := 14) (oi := { dst := some 74, op := Op.unOp UnOp.not 4 (Operand.tmp 73), type := _, pos := _, after := _, guard := _ }) (v := .bool true) rfl (by kernel_rfl) (by kernel_rfl) (by kernel_rfl) (fun _ _ _ h => h) (Or.inl ⟨by rfl, fun V (hV : w7.grownBy V none) => by go_simp⟩) h2 ?_
      (try simp only [Act.put, List.setIfInBounds_toArray, List.set_cons_zero, List.set_cons_succ])
      refine wpAnyH_take (i := 15) (oi := { dst := some 75, op := Op.pick (Operand.tmp 72) (Operand.const (Value.bool true)) (Operand.tmp 74), type := _, pos := _, after := _, guard := _ }) (v := .bool true) rfl (by kernel_rfl) (by kernel_rfl) (by kernel_rfl) (fun _ _ _ h => h) (Or.inl ⟨by rfl, fun V (hV : w7.grownBy V none) => by go_simp⟩) h2 ?_
      (try simp only [Act.put, List.setIfInBounds_toArray, List.set_cons_zero, List.set_cons_succ])
      refine wpAnyH_take (i := 16) (oi := { dst := some 76, op := Op.move (Operand.tmp 75), type := _, pos := _, after := _, guard := _ }) (v := .bool true) rfl (by kernel_rfl) (by kernel_rfl) (by kernel_rfl) (fun _ _ _ h => h) (Or.inl ⟨by rfl, fun V (hV : w7.grownBy V none) => by go_simp⟩) h2 ?_
      (try simp only [Act.put, List.setIfInBounds_toArray, List.set_cons_zero, List.set_cons_succ])
      refine wpAnyH_take (i := 17) (oi := { dst := some 77, op := Op.move (Operand.tmp 14), type := _, pos := _, after := _, guard := _ }) (v := undef) rfl (by kernel_rfl) (by kernel_rfl) (by kernel_rfl) (fun _ _ _ h => h) (Or.inr ⟨by rfl, rfl⟩) h2 ?_
      (try simp only [Act.put, List.setIfInBounds_toArray, List.set_cons_zero, List.set_cons_succ])
      refine wpAnyH_take (i := 18) (oi := { dst := some 78, op := Op.move (Operand.tmp 77), type := _, pos := _, after := _, guard := _ }) (v := undef) rfl (by kernel_rfl) (by kernel_rfl) (by kernel_rfl) (fun _ _ _ h => h) (Or.inr ⟨by rfl, rfl⟩) h2 ?_
      (try simp only [Act.put, List.setIfInBounds_toArray, List.set_cons_zero, List.set_cons_succ])
      refine wpAnyH_take (i := 19) (oi := { dst := some 79, op := Op.move (Operand.tmp 13), type := _, pos := _, after := _, guard := _ }) (v := undef) rfl (by kernel_rfl) (by kernel_rfl) (by kernel_rfl) (fun _ _ _ h => h) (Or.inr ⟨by rfl, rfl⟩) h2 ?_
      (try simp only [Act.put, List.setIfInBounds_toArray, List.set_cons_zero, List.set_cons_succ])
      refine wpAnyH_take (i := 20) (oi := { dst := some 80, op := Op.convert 30 9 (Operand.tmp 79), type := _, pos := _, after := _, guard := _ }) (v := undef) rfl (by kernel_rfl) (by kernel_rfl) (by kernel_rfl) (fun _ _ _ h => h) (Or.inr ⟨by rfl, rfl⟩) h2 ?_
      (try simp only [Act.put, List.setIfInBounds_toArray, List.set_cons_zero, List.set_cons_succ])
      refine wpAnyH_take (i := 21) (oi := { dst := some 81, op := Op.move (Operand.tmp 8), type := _, pos := _, after := _, guard := _ }) (v := undef) rfl (by kernel_rfl) (by kernel_rfl) (by kernel_rfl) (fun _ _ _ h => h) (Or.inr ⟨by rfl, rfl⟩) h2 ?_
      (try simp only [Act.put, List.setIfInBounds_toArray, List.set_cons_zero, List.set_cons_succ])
      refine wpAnyH_take (i := 22) (oi := { dst := some 82, op := Op.move (Operand.tmp 12), type := _, pos := _, after := _, guard := _ }) (v := undef) rfl (by kernel_rfl) (by kernel_rfl) (by kernel_rfl) (fun _ _ _ h => h) (Or.inr ⟨by rfl, rfl⟩) h2 ?_
      (try simp only [Act.put, List.setIfInBounds_toArray, List.set_cons_zero, List.set_cons_succ])
      refine wpAnyH_take (i := 23) (oi := { dst := some 83, op := Op.slice 30 (Operand.tmp 81) none (some (Operand.tmp 82)) none, type := _, pos := _, after := _, guard := _ }) (v := undef) rfl (by kernel_rfl) (by kernel_rfl) (by kernel_rfl) (fun _ _ _ h => h) (Or.inr ⟨by rfl, rfl⟩) h2 ?_
      (try simp only [Act.put, List.setIfInBounds_toArray, List.set_cons_zero, List.set_cons_succ])
      refine wpAnyH_take (i := 24) (oi := { dst := some 84, op := Op.convert 30 9 (Operand.tmp 83), type := _, pos := _, after := _, guard := _ }) (v := undef) rfl (by kernel_rfl) (by kernel_rfl) (by kernel_rfl) (fun _ _ _ h => h) (Or.inr ⟨by rfl, rfl⟩) h2 ?_
      (try simp only [Act.put, List.setIfInBounds_toArray, List.set_cons_zero, List.set_cons_succ])
      refine wpAnyH_take (i := 25) (oi := { dst := some 85, op := Op.binOp BinOp.eql 9 (Operand.tmp 80) (Operand.tmp 84) 9, type := _, pos := _, after := _, guard := _ }) (v := undef) rfl (by kernel_rfl) (by kernel_rfl) (by kernel_rfl) (fun _ _ _ h => h) (Or.inr ⟨by rfl, rfl⟩) h2 ?_
      (try simp only [Act.put, List.setIfInBounds_toArray, List.set_cons_zero, List.set_cons_succ])
      refine wpAnyH_take (i := 26) (oi := { dst := some 86, op := Op.pick (Operand.tmp 78) (Operand.tmp 85) (Operand.const (Value.bool false)), type := _, pos := _, after := _, guard := _ }) (v := undef) rfl (by kernel_rfl) (by kernel_rfl) (by kernel_rfl) (fun _ _ _ h => h) (Or.inr ⟨by rfl, rfl⟩) h2 ?_
      (try simp only [Act.put, List.setIfInBounds_toArray, List.set_cons_zero, List.set_cons_succ])
      refine wpAnyH_take (i := 27) (oi := { dst := some 87, op := Op.pick (Operand.tmp 76) (Operand.const (Value.bool true)) (Operand.tmp 86), type := _, pos := _, after := _, guard := _ }) (v := .bool true) rfl (by kernel_rfl) (by kernel_rfl) (by kernel_rfl) (fun _ _ _ h => h) (Or.inl ⟨by rfl, fun V (hV : w7.grownBy V none) => by go_simp⟩) h2 ?_
      (try simp only [Act.put, List.setIfInBounds_toArray, List.set_cons_zero, List.set_cons_succ])
      refine wpAnyH_take (i := 28) (oi := { dst := some 88, op := Op.pick (Operand.tmp 69) (Operand.tmp 87) (Operand.const (Value.bool false)), type := _, pos := _, after := _, guard := _ }) (v := .bool true) rfl (by kernel_rfl) (by kernel_rfl) (by kernel_rfl) (fun _ _ _ h => h) (Or.inl ⟨by rfl, fun V (hV : w7.grownBy V none) => by go_simp⟩) h2 ?_
      (try simp only [Act.put, List.setIfInBounds_toArray, List.set_cons_zero, List.set_cons_succ])
      refine wpAnyH_take (i := 29) (oi := { dst := some 89, op := Op.move (Operand.tmp 88), type := _, pos := _, after := _, guard := _ }) (v := .bool true) rfl (by kernel_rfl) (by kernel_rfl) (by kernel_rfl) (fun _ _ _ h => h) (Or.inl ⟨by rfl, fun V (hV : w7.grownBy V none) => by go_simp⟩) h2 ?_
      (try simp only [Act.put, List.setIfInBounds_toArray, List.set_cons_zero, List.set_cons_succ])
      refine wpAnyH_ready (rs := [30]) (by kernel_rfl) (by simp) ?_
      refine AllReadyH.cons (o := { dst := some 90, op := Op.call { callee := Callee.value (Operand.func 19), args := #[], argTypes := #[] }, type := _, pos := _, after := _, guard := _ }) rfl (fun K9 hK9 => ?_) AllReadyH.nil
      go_simp
      go_at_call 19
      refine (c1 _ h2).mono ?_
      rintro e w8 ⟨rfl, g8⟩
      go_wp2_with fail
      refine hK9.out _ _ g8 (fun _ => ?_)
      clear hK9 K9
      (try simp only [Act.put, List.setIfInBounds_toArray, List.set_cons_zero, List.set_cons_succ])
      refine wpAnyH_take (i := 31) (oi := { dst := some 91, op := Op.pick (Operand.tmp 89) (Operand.tmp 90) (Operand.const (Value.bool false)), type := _, pos := _, after := _, guard := _ }) (v := .bool true) rfl (by kernel_rfl) (by kernel_rfl) (by kernel_rfl) (fun _ _ _ h => h) (Or.inl ⟨by rfl, fun V (hV : w7.grownBy V none) => by go_simp⟩) g8 ?_
      (try simp only [Act.put, List.setIfInBounds_toArray, List.set_cons_zero, List.set_cons_succ])
      refine wpAnyH_take (i := 32) (oi := { dst := some 6, op := Op.assign (Operand.tmp 91), type := _, pos := _, after := _, guard := _ }) (v := .bool true) rfl (by kernel_rfl) (by kernel_rfl) (by kernel_rfl) (fun _ _ _ h => h) (Or.inl ⟨by rfl, fun V (hV : w7.grownBy V none) => by go_simp⟩) g8 ?_
      (try simp only [Act.put, List.setIfInBounds_toArray, List.set_cons_zero, List.set_cons_succ])
      refine wpAnyH_done (by kernel_rfl) ?_ _
      refine NoPanic.normal ?_
      go_wp2
      go_ret
      exact ⟨rfl, tr (unhide HG3) (tr G7 g8)⟩
  · by_cases hneg : n < 0
    · have cp1 : ∀ (V : World), Calls Tryd.prog 17 #[.agg (x.map bv).toArray, .slice ao A.length ca, .int .i64 n] V fun e w' => e = .returned (.tuple #[.slice none 0 0, .bool false]) ∧ V.grownBy w' none := fun V => expand_no V x _ n (by omega)
      have cp2 : ∀ (V : World) (j : Int), W3.grownBy V none → Calls Tryd.prog 17 #[.agg (x.map bv).toArray, .slice ao A.length ca, .int .i64 j] V fun e w' => ∃ dv db, e = .returned (.tuple #[dv, .bool db]) ∧ V.grownBy w' none := by
        intro V j gV
        by_cases hj : j < 0 ∨ 8160 < j
        · exact (expand_no V x _ j hj).mono fun e w' ⟨he, hg⟩ => ⟨_, _, he, hg⟩
        · have h := expand_any V x (unhide HX32) ao ca A ((unhide HA3).kept gV (fun _ e => by cases e)) (by have := unhide HAL; omega) j.toNat (by omega) ((unhide HT3).kept0 gV)
          rw [Int.toNat_of_nonneg (by omega)] at h
          exact h.mono fun e w' ⟨he, _, hg⟩ => ⟨_, _, he, hg⟩
      have hK4 := hX3.kept g4 (by simp)
      have HK4 := hide hK4
      clear hK4
      have cp1a := cp1 w4
      go_wp2_with (refine wpList_load_row rfl 23 _ rfl w2.heap.size rfl _ _ _ _ (unhide HK4) Tryd.underlying23 rfl ?_ ?_; (rw [unhide HSZ]; exact hi32))
      refine cp1a.mono ?_
      rintro e w5 ⟨rfl, g5⟩
      have G5 := tr g4 g5
      clear cp1a cp1
      have cK : ∀ V, w5.grownBy V none → (convert 30 9 (.slice (some ⟨w2.heap.size, 0, none⟩) 32 32)).run Tryd.prog V = .ok (.string (str x)) V := fun V gV => unhide HCK V (tr G5 gV)
      have cA : ∀ V, w5.grownBy V none → (convert 30 9 (.slice ao A.length ca)).run Tryd.prog V = .ok (.string (str A)) V := fun V gV => conv_str ((unhide HA3).kept (tr G5 gV) (fun _ e => by cases e))
      have cx : ∀ V, w5.grownBy V none → Calls Tryd.prog 18 #[.string (str x), .string (str A), .int .i64 n] V fun e w' => e = .returned (.tuple #[.string (str []), .bool false]) ∧ w5.grownBy w' none := by
        intro V gV
        exact (rexp_no V x A n (by omega)).mono fun e w' ⟨he, hw⟩ => ⟨he, by rw [hw]; exact gV⟩
      have h1 : w5.grownBy w5.drew none := gb_drew (gb_refl _ _)
      go_wp2_with fail
      refine wp_region_noPanic ?_
      refine wp_region_held_drew (S := fun V => w5.grownBy V none) (by kernel_rfl) h1 (fun _ => ?_)
      refine wpAnyH_take (i := 0) (oi := { dst := some 43, op := Op.slice 23 (Operand.tmp 7) none none none, type := _, pos := _, after := _, guard := _ }) (v := .slice (some ⟨w2.heap.size, 0, none⟩) 32 32) rfl (by kernel_rfl) (by kernel_rfl) (by kernel_rfl) (fun _ _ _ h => h) (Or.inl ⟨by rfl, fun V (hV : w5.grownBy V none) => by go_simp⟩) h1 ?_
      (try simp only [Act.put, List.setIfInBounds_toArray, List.set_cons_zero, List.set_cons_succ])
      refine wpAnyH_take (i := 1) (oi := { dst := some 44, op := Op.convert 30 9 (Operand.tmp 43), type := _, pos := _, after := _, guard := _ }) (v := .string (str x)) rfl (by kernel_rfl) (by kernel_rfl) (by kernel_rfl) (fun _ _ _ h => h) (Or.inl ⟨by rfl, fun V (hV : w5.grownBy V none) => by go_simp⟩) h1 ?_
      (try simp only [Act.put, List.setIfInBounds_toArray, List.set_cons_zero, List.set_cons_succ])
      refine wpAnyH_take (i := 2) (oi := { dst := some 45, op := Op.move (Operand.tmp 0), type := _, pos := _, after := _, guard := _ }) (v := .slice ao A.length ca) rfl (by kernel_rfl) (by kernel_rfl) (by kernel_rfl) (fun _ _ _ h => h) (Or.inl ⟨by rfl, fun V (hV : w5.grownBy V none) => by go_simp⟩) h1 ?_
      (try simp only [Act.put, List.setIfInBounds_toArray, List.set_cons_zero, List.set_cons_succ])
      refine wpAnyH_take (i := 3) (oi := { dst := some 46, op := Op.convert 30 9 (Operand.tmp 45), type := _, pos := _, after := _, guard := _ }) (v := .string (str A)) rfl (by kernel_rfl) (by kernel_rfl) (by kernel_rfl) (fun _ _ _ h => h) (Or.inl ⟨by rfl, fun V (hV : w5.grownBy V none) => by go_simp⟩) h1 ?_
      (try simp only [Act.put, List.setIfInBounds_toArray, List.set_cons_zero, List.set_cons_succ])
      refine wpAnyH_take (i := 4) (oi := { dst := some 47, op := Op.move (Operand.tmp 2), type := _, pos := _, after := _, guard := _ }) (v := .int .i64 n) rfl (by kernel_rfl) (by kernel_rfl) (by kernel_rfl) (fun _ _ _ h => h) (Or.inl ⟨by rfl, fun V (hV : w5.grownBy V none) => by go_simp⟩) h1 ?_
      (try simp only [Act.put, List.setIfInBounds_toArray, List.set_cons_zero, List.set_cons_succ])
      refine wpAnyH_ready (rs := [5]) (by kernel_rfl) (by simp) ?_
      refine AllReadyH.cons (o := { dst := some 48, op := Op.call { callee := Callee.value (Operand.func 18), args := #[(Operand.tmp 44), (Operand.tmp 46), (Operand.tmp 47)], argTypes := #[9, 9, 3] }, type := _, pos := _, after := _, guard := _ }) rfl (fun K9 hK9 => ?_) AllReadyH.nil
      go_simp
      go_at_call 18
      refine (cx _ h1).mono ?_
      rintro e w6 ⟨rfl, g6⟩
      go_wp2_with fail
      refine hK9.out _ _ g6 (fun _ => ?_)
      clear hK9 K9
      (try simp only [Act.put, List.setIfInBounds_toArray, List.set_cons_zero, List.set_cons_succ])
      refine wpAnyH_take (i := 6) (oi := { dst := some 42, op := Op.move (Operand.tmp 48), type := _, pos := _, after := _, guard := _ }) (v := .tuple #[.string (str []), .bool false]) rfl (by kernel_rfl) (by kernel_rfl) (by kernel_rfl) (fun _ _ _ h => h) (Or.inl ⟨by rfl, fun V (hV : w5.grownBy V none) => by go_simp⟩) g6 ?_
      (try simp only [Act.put, List.setIfInBounds_toArray, List.set_cons_zero, List.set_cons_succ])
      refine wpAnyH_take (i := 7) (oi := { dst := some 49, op := Op.extract (Operand.tmp 42) 0, type := _, pos := _, after := _, guard := _ }) (v := .string (str [])) rfl (by kernel_rfl) (by kernel_rfl) (by kernel_rfl) (fun _ _ _ h => h) (Or.inl ⟨by rfl, fun V (hV : w5.grownBy V none) => by go_simp⟩) g6 ?_
      (try simp only [Act.put, List.setIfInBounds_toArray, List.set_cons_zero, List.set_cons_succ])
      refine wpAnyH_take (i := 8) (oi := { dst := some 50, op := Op.extract (Operand.tmp 42) 1, type := _, pos := _, after := _, guard := _ }) (v := .bool false) rfl (by kernel_rfl) (by kernel_rfl) (by kernel_rfl) (fun _ _ _ h => h) (Or.inl ⟨by rfl, fun V (hV : w5.grownBy V none) => by go_simp⟩) g6 ?_
      (try simp only [Act.put, List.setIfInBounds_toArray, List.set_cons_zero, List.set_cons_succ])
      refine wpAnyH_take (i := 9) (oi := { dst := some 10, op := Op.assign (Operand.tmp 49), type := _, pos := _, after := _, guard := _ }) (v := .string (str [])) rfl (by kernel_rfl) (by kernel_rfl) (by kernel_rfl) (fun _ _ _ h => h) (Or.inl ⟨by rfl, fun V (hV : w5.grownBy V none) => by go_simp⟩) g6 ?_
      (try simp only [Act.put, List.setIfInBounds_toArray, List.set_cons_zero, List.set_cons_succ])
      refine wpAnyH_take (i := 10) (oi := { dst := some 11, op := Op.assign (Operand.tmp 50), type := _, pos := _, after := _, guard := _ }) (v := .bool false) rfl (by kernel_rfl) (by kernel_rfl) (by kernel_rfl) (fun _ _ _ h => h) (Or.inl ⟨by rfl, fun V (hV : w5.grownBy V none) => by go_simp⟩) g6 ?_
      (try simp only [Act.put, List.setIfInBounds_toArray, List.set_cons_zero, List.set_cons_succ])
      refine wpAnyH_done (by kernel_rfl) ?_ _
      refine NoPanic.normal ?_
      clear cK cA cx h1
      have G6 := tr G5 g6
      have hK6 := hX3.kept G6 (by simp)
      have HK6 := hide hK6
      clear hK6
      go_wp2_with (refine wpList_load_row rfl 23 _ rfl w2.heap.size rfl _ _ _ _ (unhide HK6) Tryd.underlying23 rfl ?_ ?_; (rw [unhide HSZ]; exact hi32))
      refine (cp2 w6 _ G6).mono ?_
      rintro e w7 ⟨dv, db, rfl, g7⟩
      clear cp2
      have G7 := tr G6 g7
      have c1 : ∀ V, w7.grownBy V none → Calls Tryd.prog 19 #[] V fun e w9 => e = .returned (.bool true) ∧ w7.grownBy w9 none := fun V gV => (kone_any V ((unhide HT3).kept0 (tr G7 gV))).mono fun e w9 ⟨he, hgw⟩ => ⟨he, tr gV hgw⟩
      have cn : ∀ V, (convert 30 9 (.slice none 0 0)).run Tryd.prog V = .ok (.string (str [])) V := fun V => conv_str (Bts.nil V)
      have eN : ((str []).toList == (str []).toList) = true := by simp
      have h2 : w7.grownBy w7.drew none := gb_drew (gb_refl _ _)
      go_wp2_with fail
      refine wp_region_noPanic ?_
      refine wp_region_held_drew (S := fun V => w7.grownBy V none) (by kernel_rfl) h2 (fun _ => ?_)
      refine wpAnyH_take (i := 0) (oi := { dst := some 60, op := Op.move (Operand.tmp 8), type := _, pos := _, after := _, guard := _ }) (v := .slice none 0 0) rfl (by kernel_rfl) (by kernel_rfl) (by kernel_rfl) (fun _ _ _ h => h) (Or.inl ⟨by rfl, fun V (hV : w7.grownBy V none) => by go_simp⟩) h2 ?_
      (try simp only [Act.put, List.setIfInBounds_toArray, List.set_cons_zero, List.set_cons_succ])
      refine wpAnyH_take (i := 1) (oi := { dst := some 61, op := Op.convert 30 9 (Operand.tmp 60), type := _, pos := _, after := _, guard := _ }) (v := .string (str [])) rfl (by kernel_rfl) (by kernel_rfl) (by kernel_rfl) (fun _ _ _ h => h) (Or.inl ⟨by rfl, fun V (hV : w7.grownBy V none) => by go_simp⟩) h2 ?_
      (try simp only [Act.put, List.setIfInBounds_toArray, List.set_cons_zero, List.set_cons_succ])
      refine wpAnyH_take (i := 2) (oi := { dst := some 62, op := Op.move (Operand.tmp 10), type := _, pos := _, after := _, guard := _ }) (v := .string (str [])) rfl (by kernel_rfl) (by kernel_rfl) (by kernel_rfl) (fun _ _ _ h => h) (Or.inl ⟨by rfl, fun V (hV : w7.grownBy V none) => by go_simp⟩) h2 ?_
      (try simp only [Act.put, List.setIfInBounds_toArray, List.set_cons_zero, List.set_cons_succ])
      refine wpAnyH_take (i := 3) (oi := { dst := some 63, op := Op.binOp BinOp.eql 9 (Operand.tmp 61) (Operand.tmp 62) 9, type := _, pos := _, after := _, guard := _ }) (v := .bool true) rfl (by kernel_rfl) (by kernel_rfl) (by kernel_rfl) (fun _ _ _ h => h) (Or.inl ⟨by rfl, fun V (hV : w7.grownBy V none) => by go_simp⟩) h2 ?_
      (try simp only [Act.put, List.setIfInBounds_toArray, List.set_cons_zero, List.set_cons_succ])
      refine wpAnyH_take (i := 4) (oi := { dst := some 64, op := Op.move (Operand.tmp 63), type := _, pos := _, after := _, guard := _ }) (v := .bool true) rfl (by kernel_rfl) (by kernel_rfl) (by kernel_rfl) (fun _ _ _ h => h) (Or.inl ⟨by rfl, fun V (hV : w7.grownBy V none) => by go_simp⟩) h2 ?_
      (try simp only [Act.put, List.setIfInBounds_toArray, List.set_cons_zero, List.set_cons_succ])
      refine wpAnyH_take (i := 5) (oi := { dst := some 65, op := Op.move (Operand.tmp 9), type := _, pos := _, after := _, guard := _ }) (v := .bool false) rfl (by kernel_rfl) (by kernel_rfl) (by kernel_rfl) (fun _ _ _ h => h) (Or.inl ⟨by rfl, fun V (hV : w7.grownBy V none) => by go_simp⟩) h2 ?_
      (try simp only [Act.put, List.setIfInBounds_toArray, List.set_cons_zero, List.set_cons_succ])
      refine wpAnyH_take (i := 6) (oi := { dst := some 66, op := Op.move (Operand.tmp 11), type := _, pos := _, after := _, guard := _ }) (v := .bool false) rfl (by kernel_rfl) (by kernel_rfl) (by kernel_rfl) (fun _ _ _ h => h) (Or.inl ⟨by rfl, fun V (hV : w7.grownBy V none) => by go_simp⟩) h2 ?_
      (try simp only [Act.put, List.setIfInBounds_toArray, List.set_cons_zero, List.set_cons_succ])
      refine wpAnyH_take (i := 7) (oi := { dst := some 67, op := Op.binOp BinOp.eql 4 (Operand.tmp 65) (Operand.tmp 66) 4, type := _, pos := _, after := _, guard := _ }) (v := .bool true) rfl (by kernel_rfl) (by kernel_rfl) (by kernel_rfl) (fun _ _ _ h => h) (Or.inl ⟨by rfl, fun V (hV : w7.grownBy V none) => by go_simp⟩) h2 ?_
      (try simp only [Act.put, List.setIfInBounds_toArray, List.set_cons_zero, List.set_cons_succ])
      refine wpAnyH_take (i := 8) (oi := { dst := some 68, op := Op.pick (Operand.tmp 64) (Operand.tmp 67) (Operand.const (Value.bool false)), type := _, pos := _, after := _, guard := _ }) (v := .bool true) rfl (by kernel_rfl) (by kernel_rfl) (by kernel_rfl) (fun _ _ _ h => h) (Or.inl ⟨by rfl, fun V (hV : w7.grownBy V none) => by go_simp⟩) h2 ?_
      (try simp only [Act.put, List.setIfInBounds_toArray, List.set_cons_zero, List.set_cons_succ])
      refine wpAnyH_take (i := 9) (oi := { dst := some 69, op := Op.move (Operand.tmp 68), type := _, pos := _, after := _, guard := _ }) (v := .bool true) rfl (by kernel_rfl) (by kernel_rfl) (by kernel_rfl) (fun _ _ _ h => h) (Or.inl ⟨by rfl, fun V (hV : w7.grownBy V none) => by go_simp⟩) h2 ?_
      (try simp only [Act.put, List.setIfInBounds_toArray, List.set_cons_zero, List.set_cons_succ])
      refine wpAnyH_take (i := 10) (oi := { dst := some 70, op := Op.move (Operand.tmp 2), type := _, pos := _, after := _, guard := _ }) (v := .int .i64 n) rfl (by kernel_rfl) (by kernel_rfl) (by kernel_rfl) (fun _ _ _ h => h) (Or.inl ⟨by rfl, fun V (hV : w7.grownBy V none) => by go_simp⟩) h2 ?_
      (try simp only [Act.put, List.setIfInBounds_toArray, List.set_cons_zero, List.set_cons_succ])
      refine wpAnyH_take (i := 11) (oi := { dst := some 71, op := Op.binOp BinOp.lss 3 (Operand.tmp 70) (Operand.const (Value.int IntKind.i64 0)) 3, type := _, pos := _, after := _, guard := _ }) (v := .bool true) rfl (by kernel_rfl) (by kernel_rfl) (by kernel_rfl) (fun _ _ _ h => h) (Or.inl ⟨by rfl, fun V (hV : w7.grownBy V none) => by go_simp⟩) h2 ?_
      (try simp only [Act.put, List.setIfInBounds_toArray, List.set_cons_zero, List.set_cons_succ])
      refine wpAnyH_take (i := 12) (oi := { dst := some 72, op := Op.move (Operand.tmp 71), type := _, pos := _, after := _, guard := _ }) (v := .bool true) rfl (by kernel_rfl) (by kernel_rfl) (by kernel_rfl) (fun _ _ _ h => h) (Or.inl ⟨by rfl, fun V (hV : w7.grownBy V none) => by go_simp⟩) h2 ?_
      (try simp only [Act.put, List.setIfInBounds_toArray, List.set_cons_zero, List.set_cons_succ])
      refine wpAnyH_take (i := 13) (oi := { dst := some 73, op := Op.move (Operand.tmp 9), type := _, pos := _, after := _, guard := _ }) (v := undef) rfl (by kernel_rfl) (by kernel_rfl) (by kernel_rfl) (fun _ _ _ h => h) (Or.inr ⟨by rfl, rfl⟩) h2 ?_
      (try simp only [Act.put, List.setIfInBounds_toArray, List.set_cons_zero, List.set_cons_succ])
      refine wpAnyH_take (i := 14) (oi := { dst := some 74, op := Op.unOp UnOp.not 4 (Operand.tmp 73), type := _, pos := _, after := _, guard := _ }) (v := undef) rfl (by kernel_rfl) (by kernel_rfl) (by kernel_rfl) (fun _ _ _ h => h) (Or.inr ⟨by rfl, rfl⟩) h2 ?_
      (try simp only [Act.put, List.setIfInBounds_toArray, List.set_cons_zero, List.set_cons_succ])
      refine wpAnyH_take (i := 15) (oi := { dst := some 75, op := Op.pick (Operand.tmp 72) (Operand.const (Value.bool true)) (Operand.tmp 74), type := _, pos := _, after := _, guard := _ }) (v := .bool true) rfl (by kernel_rfl) (by kernel_rfl) (by kernel_rfl) (fun _ _ _ h => h) (Or.inl ⟨by rfl, fun V (hV : w7.grownBy V none) => by go_simp⟩) h2 ?_
      (try simp only [Act.put, List.setIfInBounds_toArray, List.set_cons_zero, List.set_cons_succ])
      refine wpAnyH_take (i := 16) (oi := { dst := some 76, op := Op.move (Operand.tmp 75), type := _, pos := _, after := _, guard := _ }) (v := .bool true) rfl (by kernel_rfl) (by kernel_rfl) (by kernel_rfl) (fun _ _ _ h => h) (Or.inl ⟨by rfl, fun V (hV : w7.grownBy V none) => by go_simp⟩) h2 ?_
      (try simp only [Act.put, List.setIfInBounds_toArray, List.set_cons_zero, List.set_cons_succ])
      refine wpAnyH_take (i := 17) (oi := { dst := some 77, op := Op.move (Operand.tmp 14), type := _, pos := _, after := _, guard := _ }) (v := undef) rfl (by kernel_rfl) (by kernel_rfl) (by kernel_rfl) (fun _ _ _ h => h) (Or.inr ⟨by rfl, rfl⟩) h2 ?_
      (try simp only [Act.put, List.setIfInBounds_toArray, List.set_cons_zero, List.set_cons_succ])
      refine wpAnyH_take (i := 18) (oi := { dst := some 78, op := Op.move (Operand.tmp 77), type := _, pos := _, after := _, guard := _ }) (v := undef) rfl (by kernel_rfl) (by kernel_rfl) (by kernel_rfl) (fun _ _ _ h => h) (Or.inr ⟨by rfl, rfl⟩) h2 ?_
      (try simp only [Act.put, List.setIfInBounds_toArray, List.set_cons_zero, List.set_cons_succ])
      refine wpAnyH_take (i := 19) (oi := { dst := some 79, op := Op.move (Operand.tmp 13), type := _, pos := _, after := _, guard := _ }) (v := undef) rfl (by kernel_rfl) (by kernel_rfl) (by kernel_rfl) (fun _ _ _ h => h) (Or.inr ⟨by rfl, rfl⟩) h2 ?_
      (try simp only [Act.put, List.setIfInBounds_toArray, List.set_cons_zero, List.set_cons_succ])
      refine wpAnyH_take (i := 20) (oi := { dst := some 80, op := Op.convert 30 9 (Operand.tmp 79), type := _, pos := _, after := _, guard := _ }) (v := undef) rfl (by kernel_rfl) (by kernel_rfl) (by kernel_rfl) (fun _ _ _ h => h) (Or.inr ⟨by rfl, rfl⟩) h2 ?_
      (try simp only [Act.put, List.setIfInBounds_toArray, List.set_cons_zero, List.set_cons_succ])
      refine wpAnyH_take (i := 21) (oi := { dst := some 81, op := Op.move (Operand.tmp 8), type := _, pos := _, after := _, guard := _ }) (v := undef) rfl (by kernel_rfl) (by kernel_rfl) (by kernel_rfl) (fun _ _ _ h => h) (Or.inr ⟨by rfl, rfl⟩) h2 ?_
      (try simp only [Act.put, List.setIfInBounds_toArray, List.set_cons_zero, List.set_cons_succ])
      refine wpAnyH_take (i := 22) (oi := { dst := some 82, op := Op.move (Operand.tmp 12), type := _, pos := _, after := _, guard := _ }) (v := undef) rfl (by kernel_rfl) (by kernel_rfl) (by kernel_rfl) (fun _ _ _ h => h) (Or.inr ⟨by rfl, rfl⟩) h2 ?_
      (try simp only [Act.put, List.setIfInBounds_toArray, List.set_cons_zero, List.set_cons_succ])
      refine wpAnyH_take (i := 23) (oi := { dst := some 83, op := Op.slice 30 (Operand.tmp 81) none (some (Operand.tmp 82)) none, type := _, pos := _, after := _, guard := _ }) (v := undef) rfl (by kernel_rfl) (by kernel_rfl) (by kernel_rfl) (fun _ _ _ h => h) (Or.inr ⟨by rfl, rfl⟩) h2 ?_
      (try simp only [Act.put, List.setIfInBounds_toArray, List.set_cons_zero, List.set_cons_succ])
      refine wpAnyH_take (i := 24) (oi := { dst := some 84, op := Op.convert 30 9 (Operand.tmp 83), type := _, pos := _, after := _, guard := _ }) (v := undef) rfl (by kernel_rfl) (by kernel_rfl) (by kernel_rfl) (fun _ _ _ h => h) (Or.inr ⟨by rfl, rfl⟩) h2 ?_
      (try simp only [Act.put, List.setIfInBounds_toArray, List.set_cons_zero, List.set_cons_succ])
      refine wpAnyH_take (i := 25) (oi := { dst := some 85, op := Op.binOp BinOp.eql 9 (Operand.tmp 80) (Operand.tmp 84) 9, type := _, pos := _, after := _, guard := _ }) (v := undef) rfl (by kernel_rfl) (by kernel_rfl) (by kernel_rfl) (fun _ _ _ h => h) (Or.inr ⟨by rfl, rfl⟩) h2 ?_
      (try simp only [Act.put, List.setIfInBounds_toArray, List.set_cons_zero, List.set_cons_succ])
      refine wpAnyH_take (i := 26) (oi := { dst := some 86, op := Op.pick (Operand.tmp 78) (Operand.tmp 85) (Operand.const (Value.bool false)), type := _, pos := _, after := _, guard := _ }) (v := undef) rfl (by kernel_rfl) (by kernel_rfl) (by kernel_rfl) (fun _ _ _ h => h) (Or.inr ⟨by rfl, rfl⟩) h2 ?_
      (try simp only [Act.put, List.setIfInBounds_toArray, List.set_cons_zero, List.set_cons_succ])
      refine wpAnyH_take (i := 27) (oi := { dst := some 87, op := Op.pick (Operand.tmp 76) (Operand.const (Value.bool true)) (Operand.tmp 86), type := _, pos := _, after := _, guard := _ }) (v := .bool true) rfl (by kernel_rfl) (by kernel_rfl) (by kernel_rfl) (fun _ _ _ h => h) (Or.inl ⟨by rfl, fun V (hV : w7.grownBy V none) => by go_simp⟩) h2 ?_
      (try simp only [Act.put, List.setIfInBounds_toArray, List.set_cons_zero, List.set_cons_succ])
      refine wpAnyH_take (i := 28) (oi := { dst := some 88, op := Op.pick (Operand.tmp 69) (Operand.tmp 87) (Operand.const (Value.bool false)), type := _, pos := _, after := _, guard := _ }) (v := .bool true) rfl (by kernel_rfl) (by kernel_rfl) (by kernel_rfl) (fun _ _ _ h => h) (Or.inl ⟨by rfl, fun V (hV : w7.grownBy V none) => by go_simp⟩) h2 ?_
      (try simp only [Act.put, List.setIfInBounds_toArray, List.set_cons_zero, List.set_cons_succ])
      refine wpAnyH_take (i := 29) (oi := { dst := some 89, op := Op.move (Operand.tmp 88), type := _, pos := _, after := _, guard := _ }) (v := .bool true) rfl (by kernel_rfl) (by kernel_rfl) (by kernel_rfl) (fun _ _ _ h => h) (Or.inl ⟨by rfl, fun V (hV : w7.grownBy V none) => by go_simp⟩) h2 ?_
      (try simp only [Act.put, List.setIfInBounds_toArray, List.set_cons_zero, List.set_cons_succ])
      refine wpAnyH_ready (rs := [30]) (by kernel_rfl) (by simp) ?_
      refine AllReadyH.cons (o := { dst := some 90, op := Op.call { callee := Callee.value (Operand.func 19), args := #[], argTypes := #[] }, type := _, pos := _, after := _, guard := _ }) rfl (fun K9 hK9 => ?_) AllReadyH.nil
      go_simp
      go_at_call 19
      refine (c1 _ h2).mono ?_
      rintro e w8 ⟨rfl, g8⟩
      go_wp2_with fail
      refine hK9.out _ _ g8 (fun _ => ?_)
      clear hK9 K9
      (try simp only [Act.put, List.setIfInBounds_toArray, List.set_cons_zero, List.set_cons_succ])
      refine wpAnyH_take (i := 31) (oi := { dst := some 91, op := Op.pick (Operand.tmp 89) (Operand.tmp 90) (Operand.const (Value.bool false)), type := _, pos := _, after := _, guard := _ }) (v := .bool true) rfl (by kernel_rfl) (by kernel_rfl) (by kernel_rfl) (fun _ _ _ h => h) (Or.inl ⟨by rfl, fun V (hV : w7.grownBy V none) => by go_simp⟩) g8 ?_
      (try simp only [Act.put, List.setIfInBounds_toArray, List.set_cons_zero, List.set_cons_succ])
      refine wpAnyH_take (i := 32) (oi := { dst := some 6, op := Op.assign (Operand.tmp 91), type := _, pos := _, after := _, guard := _ }) (v := .bool true) rfl (by kernel_rfl) (by kernel_rfl) (by kernel_rfl) (fun _ _ _ h => h) (Or.inl ⟨by rfl, fun V (hV : w7.grownBy V none) => by go_simp⟩) g8 ?_
      (try simp only [Act.put, List.setIfInBounds_toArray, List.set_cons_zero, List.set_cons_succ])
      refine wpAnyH_done (by kernel_rfl) ?_ _
      refine NoPanic.normal ?_
      go_wp2
      go_ret
      exact ⟨rfl, tr (unhide HG3) (tr G7 g8)⟩
    · obtain ⟨N, hN⟩ : ∃ N : Nat, n = (N : Int) := ⟨n.toNat, by omega⟩
      subst hN
      have hbig : N ≤ 8160 := by omega
      obtain ⟨E, hE⟩ : ∃ E, E = expL x A N := ⟨_, rfl⟩
      obtain ⟨M, hM⟩ : ∃ M : Nat, M = N / 2 := ⟨_, rfl⟩
      obtain ⟨D, hD⟩ : ∃ D, D = expL x A M := ⟨_, rfl⟩
      have hEl : E.length = N := by rw [hE]; exact expL_length _ _ _ (by omega)
      have hDl : D.length = M := by rw [hD]; exact expL_length _ _ _ (by omega)
      have hED : E.take M = D := by rw [hE, hD]; exact expL_less _ _ _ _ (by omega)
      have cp : ∀ (V : World) (j : Nat), j ≤ 8160 → W3.grownBy V none → Calls Tryd.prog 17 #[.agg (x.map bv).toArray, .slice ao A.length ca, .int .i64 (j : Int)] V fun e w' => ∃ N9, e = .returned (.tuple #[.slice (some ⟨N9, 0, none⟩) j j, .bool true]) ∧ Bts w' (some ⟨N9, 0, none⟩) j (expL x A j) ∧ V.grownBy w' none := by
        intro V j hj gV
        exact (expand_any V x (unhide HX32) ao ca A ((unhide HA3).kept gV (fun _ e => by cases e)) (by have := unhide HAL; omega) j hj ((unhide HT3).kept0 gV)).mono fun e w' ⟨he, hb, hg⟩ => ⟨_, he, hb, hg⟩
      have cp1 := fun V => cp V N (by omega)
      have cp2 := fun V => cp V M (by omega)
      rw [← hE] at cp1
      rw [← hD] at cp2
      have m1 : (N : Int) / 2 = (M : Int) := by omega
      have m2 : Int.tdiv (N : Int) 2 = (M : Int) := by rw [Int.tdiv_eq_ediv_of_nonneg (by omega)]; omega
      have m3 : IntKind.i64.wrap (M : Int) = (M : Int) := by rw [IntKind.wrap_i64]; omega
      have hn0 : ¬ (N : Int) < 0 := by omega
      have hMN : M ≤ N := by omega
      have HE := hide hE
      have HD := hide hD
      have HM := hide hM
      have HEL := hide hEl
      have HDL := hide hDl
      have HED := hide hED
      clear cp hE hD hM hEl hDl hED
      have hK4 := hX3.kept g4 (by simp)
      have HK4 := hide hK4
      clear hK4
      have cp1a := cp1 w4 g4
      go_wp2_with (refine wpList_load_row rfl 23 _ rfl w2.heap.size rfl _ _ _ _ (unhide HK4) Tryd.underlying23 rfl ?_ ?_; (rw [unhide HSZ]; exact hi32))
      refine cp1a.mono ?_
      rintro e w5 ⟨NB, rfl, hBE, g5⟩
      have G5 := tr g4 g5
      clear cp1a cp1
      have cK : ∀ V, w5.grownBy V none → (convert 30 9 (.slice (some ⟨w2.heap.size, 0, none⟩) 32 32)).run Tryd.prog V = .ok (.string (str x)) V := fun V gV => unhide HCK V (tr G5 gV)
      have cA : ∀ V, w5.grownBy V none → (convert 30 9 (.slice ao A.length ca)).run Tryd.prog V = .ok (.string (str A)) V := fun V gV => conv_str ((unhide HA3).kept (tr G5 gV) (fun _ e => by cases e))
      have cx : ∀ V, w5.grownBy V none → Calls Tryd.prog 18 #[.string (str x), .string (str A), .int .i64 (N : Int)] V fun e w' => e = .returned (.tuple #[.string (str E), .bool true]) ∧ w5.grownBy w' none := by
        intro V gV
        rw [unhide HE]
        exact (rexp_any V x A N (by omega) (by rw [unhide HX32]; omega) (by have := unhide HAL; omega)).mono fun e w' ⟨he, hg⟩ => ⟨he, tr gV hg⟩
      have h1 : w5.grownBy w5.drew none := gb_drew (gb_refl _ _)
      go_wp2_with fail
      refine wp_region_noPanic ?_
      refine wp_region_held_drew (S := fun V => w5.grownBy V none) (by kernel_rfl) h1 (fun _ => ?_)
      refine wpAnyH_take (i := 0) (oi := { dst := some 43, op := Op.slice 23 (Operand.tmp 7) none none none, type := _, pos := _, after := _, guard := _ }) (v := .slice (some ⟨w2.heap.size, 0, none⟩) 32 32) rfl (by kernel_rfl) (by kernel_rfl) (by kernel_rfl) (fun _ _ _ h => h) (Or.inl ⟨by rfl, fun V (hV : w5.grownBy V none) => by go_simp⟩) h1 ?_
      (try simp only [Act.put, List.setIfInBounds_toArray, List.set_cons_zero, List.set_cons_succ])
      refine wpAnyH_take (i := 1) (oi := { dst := some 44, op := Op.convert 30 9 (Operand.tmp 43), type := _, pos := _, after := _, guard := _ }) (v := .string (str x)) rfl (by kernel_rfl) (by kernel_rfl) (by kernel_rfl) (fun _ _ _ h => h) (Or.inl ⟨by rfl, fun V (hV : w5.grownBy V none) => by go_simp⟩) h1 ?_
      (try simp only [Act.put, List.setIfInBounds_toArray, List.set_cons_zero, List.set_cons_succ])
      refine wpAnyH_take (i := 2) (oi := { dst := some 45, op := Op.move (Operand.tmp 0), type := _, pos := _, after := _, guard := _ }) (v := .slice ao A.length ca) rfl (by kernel_rfl) (by kernel_rfl) (by kernel_rfl) (fun _ _ _ h => h) (Or.inl ⟨by rfl, fun V (hV : w5.grownBy V none) => by go_simp⟩) h1 ?_
      (try simp only [Act.put, List.setIfInBounds_toArray, List.set_cons_zero, List.set_cons_succ])
      refine wpAnyH_take (i := 3) (oi := { dst := some 46, op := Op.convert 30 9 (Operand.tmp 45), type := _, pos := _, after := _, guard := _ }) (v := .string (str A)) rfl (by kernel_rfl) (by kernel_rfl) (by kernel_rfl) (fun _ _ _ h => h) (Or.inl ⟨by rfl, fun V (hV : w5.grownBy V none) => by go_simp⟩) h1 ?_
      (try simp only [Act.put, List.setIfInBounds_toArray, List.set_cons_zero, List.set_cons_succ])
      refine wpAnyH_take (i := 4) (oi := { dst := some 47, op := Op.move (Operand.tmp 2), type := _, pos := _, after := _, guard := _ }) (v := .int .i64 (N : Int)) rfl (by kernel_rfl) (by kernel_rfl) (by kernel_rfl) (fun _ _ _ h => h) (Or.inl ⟨by rfl, fun V (hV : w5.grownBy V none) => by go_simp⟩) h1 ?_
      (try simp only [Act.put, List.setIfInBounds_toArray, List.set_cons_zero, List.set_cons_succ])
      refine wpAnyH_ready (rs := [5]) (by kernel_rfl) (by simp) ?_
      refine AllReadyH.cons (o := { dst := some 48, op := Op.call { callee := Callee.value (Operand.func 18), args := #[(Operand.tmp 44), (Operand.tmp 46), (Operand.tmp 47)], argTypes := #[9, 9, 3] }, type := _, pos := _, after := _, guard := _ }) rfl (fun K9 hK9 => ?_) AllReadyH.nil
      go_simp
      go_at_call 18
      refine (cx _ h1).mono ?_
      rintro e w6 ⟨rfl, g6⟩
      go_wp2_with fail
      refine hK9.out _ _ g6 (fun _ => ?_)
      clear hK9 K9
      (try simp only [Act.put, List.setIfInBounds_toArray, List.set_cons_zero, List.set_cons_succ])
      refine wpAnyH_take (i := 6) (oi := { dst := some 42, op := Op.move (Operand.tmp 48), type := _, pos := _, after := _, guard := _ }) (v := .tuple #[.string (str E), .bool true]) rfl (by kernel_rfl) (by kernel_rfl) (by kernel_rfl) (fun _ _ _ h => h) (Or.inl ⟨by rfl, fun V (hV : w5.grownBy V none) => by go_simp⟩) g6 ?_
      (try simp only [Act.put, List.setIfInBounds_toArray, List.set_cons_zero, List.set_cons_succ])
      refine wpAnyH_take (i := 7) (oi := { dst := some 49, op := Op.extract (Operand.tmp 42) 0, type := _, pos := _, after := _, guard := _ }) (v := .string (str E)) rfl (by kernel_rfl) (by kernel_rfl) (by kernel_rfl) (fun _ _ _ h => h) (Or.inl ⟨by rfl, fun V (hV : w5.grownBy V none) => by go_simp⟩) g6 ?_
      (try simp only [Act.put, List.setIfInBounds_toArray, List.set_cons_zero, List.set_cons_succ])
      refine wpAnyH_take (i := 8) (oi := { dst := some 50, op := Op.extract (Operand.tmp 42) 1, type := _, pos := _, after := _, guard := _ }) (v := .bool true) rfl (by kernel_rfl) (by kernel_rfl) (by kernel_rfl) (fun _ _ _ h => h) (Or.inl ⟨by rfl, fun V (hV : w5.grownBy V none) => by go_simp⟩) g6 ?_
      (try simp only [Act.put, List.setIfInBounds_toArray, List.set_cons_zero, List.set_cons_succ])
      refine wpAnyH_take (i := 9) (oi := { dst := some 10, op := Op.assign (Operand.tmp 49), type := _, pos := _, after := _, guard := _ }) (v := .string (str E)) rfl (by kernel_rfl) (by kernel_rfl) (by kernel_rfl) (fun _ _ _ h => h) (Or.inl ⟨by rfl, fun V (hV : w5.grownBy V none) => by go_simp⟩) g6 ?_
      (try simp only [Act.put, List.setIfInBounds_toArray, List.set_cons_zero, List.set_cons_succ])
      refine wpAnyH_take (i := 10) (oi := { dst := some 11, op := Op.assign (Operand.tmp 50), type := _, pos := _, after := _, guard := _ }) (v := .bool true) rfl (by kernel_rfl) (by kernel_rfl) (by kernel_rfl) (fun _ _ _ h => h) (Or.inl ⟨by rfl, fun V (hV : w5.grownBy V none) => by go_simp⟩) g6 ?_
      (try simp only [Act.put, List.setIfInBounds_toArray, List.set_cons_zero, List.set_cons_succ])
      refine wpAnyH_done (by kernel_rfl) ?_ _
      refine NoPanic.normal ?_
      clear cK cA cx h1
      have G6 := tr G5 g6
      have hK6 := hX3.kept G6 (by simp)
      have HK6 := hide hK6
      clear hK6
      have cp2a := cp2 w6 G6
      go_wp2_with (refine wpList_load_row rfl 23 _ rfl w2.heap.size rfl _ _ _ _ (unhide HK6) Tryd.underlying23 rfl ?_ ?_; (rw [unhide HSZ]; exact hi32))
      refine cp2a.mono ?_
      rintro e w7 ⟨ND, rfl, hBD, g7⟩
      clear cp2a
      clear cp2
      have G7 := tr G6 g7
      have c1 : ∀ V, w7.grownBy V none → Calls Tryd.prog 19 #[] V fun e w9 => e = .returned (.bool true) ∧ w7.grownBy w9 none := fun V gV => (kone_any V ((unhide HT3).kept0 (tr G7 gV))).mono fun e w9 ⟨he, hgw⟩ => ⟨he, tr gV hgw⟩
      have hBE7 := (hBE.kept g6 (fun _ e => by cases e)).kept g7 (fun _ e => by cases e)
      have cE : ∀ V, w7.grownBy V none → (convert 30 9 (.slice (some ⟨NB, 0, none⟩) N N)).run Tryd.prog V = .ok (.string (str E)) V := fun V gV => by
        have := conv_str (hBE7.kept gV (fun _ e => by cases e))
        rw [unhide HEL] at this
        exact this
      have cD : ∀ V, w7.grownBy V none → (convert 30 9 (.slice (some ⟨ND, 0, none⟩) M M)).run Tryd.prog V = .ok (.string (str D)) V := fun V gV => by
        have := conv_str (hBD.kept gV (fun _ e => by cases e))
        rw [unhide HDL] at this
        exact this
      have cM : ∀ V, w7.grownBy V none → (convert 30 9 (.slice (some ⟨NB, 0, none⟩) M N)).run Tryd.prog V = .ok (.string (str D)) V := fun V gV => by
        have := conv_str ((hBE7.kept gV (fun _ e => by cases e)).take M (by rw [unhide HEL]; exact hMN))
        rw [unhide HED, unhide HDL] at this
        exact this
      have sM : ∀ W, (Instr.slice 30 (.slice (some ⟨NB, 0, none⟩) N N) none (some (.int .i64 (M : Int))) none).run Tryd.prog W = .ok (.slice (some ⟨NB, 0, none⟩) M N) W := fun W => slice_to W _ _ Tryd.underlying30 size_byte _ N N M hMN
      have eE : ((str E).toList == (str E).toList) = true := by simp
      have eD : ((str D).toList == (str D).toList) = true := by simp
      clear hBE hBE7 hBD
      have h2 : w7.grownBy w7.drew none := gb_drew (gb_refl _ _)
      go_wp2_with fail
      refine wp_region_noPanic ?_
      refine wp_region_held_drew (S := fun V => w7.grownBy V none) (by kernel_rfl) h2 (fun _ => ?_)
      refine wpAnyH_take (i := 0) (oi := { dst := some 60, op := Op.move (Operand.tmp 8), type := _, pos := _, after := _, guard := _ }) (v := .slice (some ⟨NB, 0, none⟩) N N) rfl (by kernel_rfl) (by kernel_rfl) (by kernel_rfl) (fun _ _ _ h => h) (Or.inl ⟨by rfl, fun V (hV : w7.grownBy V none) => by go_simp⟩) h2 ?_
      (try simp only [Act.put, List.setIfInBounds_toArray, List.set_cons_zero, List.set_cons_succ])
      refine wpAnyH_take (i := 1) (oi := { dst := some 61, op := Op.convert 30 9 (Operand.tmp 60), type := _, pos := _, after := _, guard := _ }) (v := .string (str E)) rfl (by kernel_rfl) (by kernel_rfl) (by kernel_rfl) (fun _ _ _ h => h) (Or.inl ⟨by rfl, fun V (hV : w7.grownBy V none) => by go_simp⟩) h2 ?_
      (try simp only [Act.put, List.setIfInBounds_toArray, List.set_cons_zero, List.set_cons_succ])
      refine wpAnyH_take (i := 2) (oi := { dst := some 62, op := Op.move (Operand.tmp 10), type := _, pos := _, after := _, guard := _ }) (v := .string (str E)) rfl (by kernel_rfl) (by kernel_rfl) (by kernel_rfl) (fun _ _ _ h => h) (Or.inl ⟨by rfl, fun V (hV : w7.grownBy V none) => by go_simp⟩) h2 ?_
      (try simp only [Act.put, List.setIfInBounds_toArray, List.set_cons_zero, List.set_cons_succ])
      refine wpAnyH_take (i := 3) (oi := { dst := some 63, op := Op.binOp BinOp.eql 9 (Operand.tmp 61) (Operand.tmp 62) 9, type := _, pos := _, after := _, guard := _ }) (v := .bool true) rfl (by kernel_rfl) (by kernel_rfl) (by kernel_rfl) (fun _ _ _ h => h) (Or.inl ⟨by rfl, fun V (hV : w7.grownBy V none) => by go_simp⟩) h2 ?_
      (try simp only [Act.put, List.setIfInBounds_toArray, List.set_cons_zero, List.set_cons_succ])
      refine wpAnyH_take (i := 4) (oi := { dst := some 64, op := Op.move (Operand.tmp 63), type := _, pos := _, after := _, guard := _ }) (v := .bool true) rfl (by kernel_rfl) (by kernel_rfl) (by kernel_rfl) (fun _ _ _ h => h) (Or.inl ⟨by rfl, fun V (hV : w7.grownBy V none) => by go_simp⟩) h2 ?_
      (try simp only [Act.put, List.setIfInBounds_toArray, List.set_cons_zero, List.set_cons_succ])
      refine wpAnyH_take (i := 5) (oi := { dst := some 65, op := Op.move (Operand.tmp 9), type := _, pos := _, after := _, guard := _ }) (v := .bool true) rfl (by kernel_rfl) (by kernel_rfl) (by kernel_rfl) (fun _ _ _ h => h) (Or.inl ⟨by rfl, fun V (hV : w7.grownBy V none) => by go_simp⟩) h2 ?_
      (try simp only [Act.put, List.setIfInBounds_toArray, List.set_cons_zero, List.set_cons_succ])
      refine wpAnyH_take (i := 6) (oi := { dst := some 66, op := Op.move (Operand.tmp 11), type := _, pos := _, after := _, guard := _ }) (v := .bool true) rfl (by kernel_rfl) (by kernel_rfl) (by kernel_rfl) (fun _ _ _ h => h) (Or.inl ⟨by rfl, fun V (hV : w7.grownBy V none) => by go_simp⟩) h2 ?_
      (try simp only [Act.put, List.setIfInBounds_toArray, List.set_cons_zero, List.set_cons_succ])
      refine wpAnyH_take (i := 7) (oi := { dst := some 67, op := Op.binOp BinOp.eql 4 (Operand.tmp 65) (Operand.tmp 66) 4, type := _, pos := _, after := _, guard := _ }) (v := .bool true) rfl (by kernel_rfl) (by kernel_rfl) (by kernel_rfl) (fun _ _ _ h => h) (Or.inl ⟨by rfl, fun V (hV : w7.grownBy V none) => by go_simp⟩) h2 ?_
      (try simp only [Act.put, List.setIfInBounds_toArray, List.set_cons_zero, List.set_cons_succ])
      refine wpAnyH_take (i := 8) (oi := { dst := some 68, op := Op.pick (Operand.tmp 64) (Operand.tmp 67) (Operand.const (Value.bool false)), type := _, pos := _, after := _, guard := _ }) (v := .bool true) rfl (by kernel_rfl) (by kernel_rfl) (by kernel_rfl) (fun _ _ _ h => h) (Or.inl ⟨by rfl, fun V (hV : w7.grownBy V none) => by go_simp⟩) h2 ?_
      (try simp only [Act.put, List.setIfInBounds_toArray, List.set_cons_zero, List.set_cons_succ])
      refine wpAnyH_take (i := 9) (oi := { dst := some 69, op := Op.move (Operand.tmp 68), type := _, pos := _, after := _, guard := _ }) (v := .bool true) rfl (by kernel_rfl) (by kernel_rfl) (by kernel_rfl) (fun _ _ _ h => h) (Or.inl ⟨by rfl, fun V (hV : w7.grownBy V none) => by go_simp⟩) h2 ?_
      (try simp only [Act.put, List.setIfInBounds_toArray, List.set_cons_zero, List.set_cons_succ])
      refine wpAnyH_take (i := 10) (oi := { dst := some 70, op := Op.move (Operand.tmp 2), type := _, pos := _, after := _, guard := _ }) (v := .int .i64 (N : Int)) rfl (by kernel_rfl) (by kernel_rfl) (by kernel_rfl) (fun _ _ _ h => h) (Or.inl ⟨by rfl, fun V (hV : w7.grownBy V none) => by go_simp⟩) h2 ?_
      (try simp only [Act.put, List.setIfInBounds_toArray, List.set_cons_zero, List.set_cons_succ])
      refine wpAnyH_take (i := 11) (oi := { dst := some 71, op := Op.binOp BinOp.lss 3 (Operand.tmp 70) (Operand.const (Value.int IntKind.i64 0)) 3, type := _, pos := _, after := _, guard := _ }) (v := .bool false) rfl (by kernel_rfl) (by kernel_rfl) (by kernel_rfl) (fun _ _ _ h => h) (Or.inl ⟨by rfl, fun V (hV : w7.grownBy V none) => by go_simp⟩) h2 ?_
      (try simp only [Act.put, List.setIfInBounds_toArray, List.set_cons_zero, List.set_cons_succ])
      refine wpAnyH_take (i := 12) (oi := { dst := some 72, op := Op.move (Operand.tmp 71), type := _, pos := _, after := _, guard := _ }) (v := .bool false) rfl (by kernel_rfl) (by kernel_rfl) (by kernel_rfl) (fun _ _ _ h => h) (Or.inl ⟨by rfl, fun V (hV : w7.grownBy V none) => by go_simp⟩) h2 ?_
      (try simp only [Act.put, List.setIfInBounds_toArray, List.set_cons_zero, List.set_cons_succ])
      refine wpAnyH_take (i := 13) (oi := { dst := some 73, op := Op.move (Operand.tmp 9), type := _, pos := _, after := _, guard := _ }) (v := .bool true) rfl (by kernel_rfl) (by kernel_rfl) (by kernel_rfl) (fun _ _ _ h => h) (Or.inl ⟨by rfl, fun V (hV : w7.grownBy V none) => by go_simp⟩) h2 ?_
      (try simp only [Act.put, List.setIfInBounds_toArray, List.set_cons_zero, List.set_cons_succ])
      refine wpAnyH_take (i := 14) (oi := { dst := some 74, op := Op.unOp UnOp.not 4 (Operand.tmp 73), type := _, pos := _, after := _, guard := _ }) (v := .bool false) rfl (by kernel_rfl) (by kernel_rfl) (by kernel_rfl) (fun _ _ _ h => h) (Or.inl ⟨by rfl, fun V (hV : w7.grownBy V none) => by go_simp⟩) h2 ?_
      (try simp only [Act.put, List.setIfInBounds_toArray, List.set_cons_zero, List.set_cons_succ])
      refine wpAnyH_take (i := 15) (oi := { dst := some 75, op := Op.pick (Operand.tmp 72) (Operand.const (Value.bool true)) (Operand.tmp 74), type := _, pos := _, after := _, guard := _ }) (v := .bool false) rfl (by kernel_rfl) (by kernel_rfl) (by kernel_rfl) (fun _ _ _ h => h) (Or.inl ⟨by rfl, fun V (hV : w7.grownBy V none) => by go_simp⟩) h2 ?_
      (try simp only [Act.put, List.setIfInBounds_toArray, List.set_cons_zero, List.set_cons_succ])
      refine wpAnyH_take (i := 16) (oi := { dst := some 76, op := Op.move (Operand.tmp 75), type := _, pos := _, after := _, guard := _ }) (v := .bool false) rfl (by kernel_rfl) (by kernel_rfl) (by kernel_rfl) (fun _ _ _ h => h) (Or.inl ⟨by rfl, fun V (hV : w7.grownBy V none) => by go_simp⟩) h2 ?_
      (try simp only [Act.put, List.setIfInBounds_toArray, List.set_cons_zero, List.set_cons_succ])
      refine wpAnyH_take (i := 17) (oi := { dst := some 77, op := Op.move (Operand.tmp 14), type := _, pos := _, after := _, guard := _ }) (v := .bool true) rfl (by kernel_rfl) (by kernel_rfl) (by kernel_rfl) (fun _ _ _ h => h) (Or.inl ⟨by rfl, fun V (hV : w7.grownBy V none) => by go_simp⟩) h2 ?_
      (try simp only [Act.put, List.setIfInBounds_toArray, List.set_cons_zero, List.set_cons_succ])
      refine wpAnyH_take (i := 18) (oi := { dst := some 78, op := Op.move (Operand.tmp 77), type := _, pos := _, after := _, guard := _ }) (v := .bool true) rfl (by kernel_rfl) (by kernel_rfl) (by kernel_rfl) (fun _ _ _ h => h) (Or.inl ⟨by rfl, fun V (hV : w7.grownBy V none) => by go_simp⟩) h2 ?_
      (try simp only [Act.put, List.setIfInBounds_toArray, List.set_cons_zero, List.set_cons_succ])
      refine wpAnyH_take (i := 19) (oi := { dst := some 79, op := Op.move (Operand.tmp 13), type := _, pos := _, after := _, guard := _ }) (v := .slice (some ⟨ND, 0, none⟩) M M) rfl (by kernel_rfl) (by kernel_rfl) (by kernel_rfl) (fun _ _ _ h => h) (Or.inl ⟨by rfl, fun V (hV : w7.grownBy V none) => by go_simp⟩) h2 ?_
      (try simp only [Act.put, List.setIfInBounds_toArray, List.set_cons_zero, List.set_cons_succ])
      refine wpAnyH_take (i := 20) (oi := { dst := some 80, op := Op.convert 30 9 (Operand.tmp 79), type := _, pos := _, after := _, guard := _ }) (v := .string (str D)) rfl (by kernel_rfl) (by kernel_rfl) (by kernel_rfl) (fun _ _ _ h => h) (Or.inl ⟨by rfl, fun V (hV : w7.grownBy V none) => by go_simp⟩) h2 ?_
      (try simp only [Act.put, List.setIfInBounds_toArray, List.set_cons_zero, List.set_cons_succ])
      refine wpAnyH_take (i := 21) (oi := { dst := some 81, op := Op.move (Operand.tmp 8), type := _, pos := _, after := _, guard := _ }) (v := .slice (some ⟨NB, 0, none⟩) N N) rfl (by kernel_rfl) (by kernel_rfl) (by kernel_rfl) (fun _ _ _ h => h) (Or.inl ⟨by rfl, fun V (hV : w7.grownBy V none) => by go_simp⟩) h2 ?_
      (try simp only [Act.put, List.setIfInBounds_toArray, List.set_cons_zero, List.set_cons_succ])
      refine wpAnyH_take (i := 22) (oi := { dst := some 82, op := Op.move (Operand.tmp 12), type := _, pos := _, after := _, guard := _ }) (v := .int .i64 (M : Int)) rfl (by kernel_rfl) (by kernel_rfl) (by kernel_rfl) (fun _ _ _ h => h) (Or.inl ⟨by rfl, fun V (hV : w7.grownBy V none) => by go_simp⟩) h2 ?_
      (try simp only [Act.put, List.setIfInBounds_toArray, List.set_cons_zero, List.set_cons_succ])
      refine wpAnyH_take (i := 23) (oi := { dst := some 83, op := Op.slice 30 (Operand.tmp 81) none (some (Operand.tmp 82)) none, type := _, pos := _, after := _, guard := _ }) (v := .slice (some ⟨NB, 0, none⟩) M N) rfl (by kernel_rfl) (by kernel_rfl) (by kernel_rfl) (fun _ _ _ h => h) (Or.inl ⟨by rfl, fun V (hV : w7.grownBy V none) => by go_simp⟩) h2 ?_
      (try simp only [Act.put, List.setIfInBounds_toArray, List.set_cons_zero, List.set_cons_succ])
      refine wpAnyH_take (i := 24) (oi := { dst := some 84, op := Op.convert 30 9 (Operand.tmp 83), type := _, pos := _, after := _, guard := _ }) (v := .string (str D)) rfl (by kernel_rfl) (by kernel_rfl) (by kernel_rfl) (fun _ _ _ h => h) (Or.inl ⟨by rfl, fun V (hV : w7.grownBy V none) => by go_simp⟩) h2 ?_
      (try simp only [Act.put, List.setIfInBounds_toArray, List.set_cons_zero, List.set_cons_succ])
      refine wpAnyH_take (i := 25) (oi := { dst := some 85, op := Op.binOp BinOp.eql 9 (Operand.tmp 80) (Operand.tmp 84) 9, type := _, pos := _, after := _, guard := _ }) (v := .bool true) rfl (by kernel_rfl) (by kernel_rfl) (by kernel_rfl) (fun _ _ _ h => h) (Or.inl ⟨by rfl, fun V (hV : w7.grownBy V none) => by go_simp⟩) h2 ?_
      (try simp only [Act.put, List.setIfInBounds_toArray, List.set_cons_zero, List.set_cons_succ])
      refine wpAnyH_take (i := 26) (oi := { dst := some 86, op := Op.pick (Operand.tmp 78) (Operand.tmp 85) (Operand.const (Value.bool false)), type := _, pos := _, after := _, guard := _ }) (v := .bool true) rfl (by kernel_rfl) (by kernel_rfl) (by kernel_rfl) (fun _ _ _ h => h) (Or.inl ⟨by rfl, fun V (hV : w7.grownBy V none) => by go_simp⟩) h2 ?_
      (try simp only [Act.put, List.setIfInBounds_toArray, List.set_cons_zero, List.set_cons_succ])
      refine wpAnyH_take (i := 27) (oi := { dst := some 87, op := Op.pick (Operand.tmp 76) (Operand.const (Value.bool true)) (Operand.tmp 86), type := _, pos := _, after := _, guard := _ }) (v := .bool true) rfl (by kernel_rfl) (by kernel_rfl) (by kernel_rfl) (fun _ _ _ h => h) (Or.inl ⟨by rfl, fun V (hV : w7.grownBy V none) => by go_simp⟩) h2 ?_
      (try simp only [Act.put, List.setIfInBounds_toArray, List.set_cons_zero, List.set_cons_succ])
      refine wpAnyH_take (i := 28) (oi := { dst := some 88, op := Op.pick (Operand.tmp 69) (Operand.tmp 87) (Operand.const (Value.bool false)), type := _, pos := _, after := _, guard := _ }) (v := .bool true) rfl (by kernel_rfl) (by kernel_rfl) (by kernel_rfl) (fun _ _ _ h => h) (Or.inl ⟨by rfl, fun V (hV : w7.grownBy V none) => by go_simp⟩) h2 ?_
      (try simp only [Act.put, List.setIfInBounds_toArray, List.set_cons_zero, List.set_cons_succ])
      refine wpAnyH_take (i := 29) (oi := { dst := some 89, op := Op.move (Operand.tmp 88), type := _, pos := _, after := _, guard := _ }) (v := .bool true) rfl (by kernel_rfl) (by kernel_rfl) (by kernel_rfl) (fun _ _ _ h => h) (Or.inl ⟨by rfl, fun V (hV : w7.grownBy V none) => by go_simp⟩) h2 ?_
      (try simp only [Act.put, List.setIfInBounds_toArray, List.set_cons_zero, List.set_cons_succ])
      refine wpAnyH_ready (rs := [30]) (by kernel_rfl) (by simp) ?_
      refine AllReadyH.cons (o := { dst := some 90, op := Op.call { callee := Callee.value (Operand.func 19), args := #[], argTypes := #[] }, type := _, pos := _, after := _, guard := _ }) rfl (fun K9 hK9 => ?_) AllReadyH.nil
      go_simp
      go_at_call 19
      refine (c1 _ h2).mono ?_
      rintro e w8 ⟨rfl, g8⟩
      go_wp2_with fail
      refine hK9.out _ _ g8 (fun _ => ?_)
      clear hK9 K9
      (try simp only [Act.put, List.setIfInBounds_toArray, List.set_cons_zero, List.set_cons_succ])
      refine wpAnyH_take (i := 31) (oi := { dst := some 91, op := Op.pick (Operand.tmp 89) (Operand.tmp 90) (Operand.const (Value.bool false)), type := _, pos := _, after := _, guard := _ }) (v := .bool true) rfl (by kernel_rfl) (by kernel_rfl) (by kernel_rfl) (fun _ _ _ h => h) (Or.inl ⟨by rfl, fun V (hV : w7.grownBy V none) => by go_simp⟩) g8 ?_
      (try simp only [Act.put, List.setIfInBounds_toArray, List.set_cons_zero, List.set_cons_succ])
      refine wpAnyH_take (i := 32) (oi := { dst := some 6, op := Op.assign (Operand.tmp 91), type := _, pos := _, after := _, guard := _ }) (v := .bool true) rfl (by kernel_rfl) (by kernel_rfl) (by kernel_rfl) (fun _ _ _ h => h) (Or.inl ⟨by rfl, fun V (hV : w7.grownBy V none) => by go_simp⟩) g8 ?_
      (try simp only [Act.put, List.setIfInBounds_toArray, List.set_cons_zero, List.set_cons_succ])
      refine wpAnyH_done (by kernel_rfl) ?_ _
      refine NoPanic.normal ?_
      go_wp2
      go_ret
      exact ⟨rfl, tr (unhide HG3) (tr G7 g8)⟩

end Go.Proofs.YtikdpifacokfpaaDoor
