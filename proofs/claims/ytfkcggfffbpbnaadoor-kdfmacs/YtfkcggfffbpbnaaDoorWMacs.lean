/- KdfMacs' walk: whatever the key and the two texts hold, the call returns true and nothing that was in memory has changed; where the tables hold what they are laid with. -/
import Derived.Test.YtfkcggfffbpbnaaDoorRMac
import Derived.Test.YtfkcggfffbpbnaaDoorKLoop
import Derived.Deep.DrawnRows
import Derived.Deep.MidRow
namespace Go.Proofs.YtfkcggfffbpbnaaDoor
open Go.RowKit
attribute [local go_sem ↓] Go.wp_at_zero Go.wp_at_succ

theorem lst_triple {W1 : World} {ao bo : Option Addr} {ca cb : Nat} {a b : List UInt8} (ha : Bts W1 ao ca a) (hb : Bts W1 bo cb b) (N : Nat) {t : TypeId} (hB : Blk W1 N t [.slice ao a.length ca, .slice bo b.length cb, .slice none 0 0]) :
    Lst W1 (some ⟨N, 0, none⟩) 3 [a, b, []] := by
  refine ⟨(fun e => by cases e), by simp, by unfold maxLen; omega, (fun ad e _ => by cases e; rfl), (fun ad e i hi => ?_)⟩
  cases e
  match i, hi with
  | 0, _ => exact ⟨ao, ca, hB.cell 0, ha⟩
  | 1, _ => exact ⟨bo, cb, hB.cell 1, hb⟩
  | 2, _ => exact ⟨none, 0, hB.cell 2, Bts.nil _⟩

set_option maxRecDepth 100000 in
set_option maxHeartbeats 4000000 in
theorem kdfMacs_any (w : World) (ko : Option Addr) (kc : Nat) (key : List UInt8) (hk : Bts w ko kc key) (ao : Option Addr) (ca : Nat) (a : List UInt8) (ha : Bts w ao ca a) (bo : Option Addr) (cb : Nat) (b : List UInt8) (hb : Bts w bo cb b) (hT : Tabs w) :
    Calls Tryd.prog 4 #[.slice ko key.length kc, .slice ao a.length ca, .slice bo b.length cb] w fun e w' => e = .returned (.bool true) ∧ w.grownBy w' none := by
  have hi32 : (Tryd.prog.info? 23).map (·.size) = some 32 := by kernel_rfl
  obtain ⟨Y, hY⟩ : ∃ Y : Array Value, Y = ((List.replicate 32 (0 : UInt8)).map bv).toArray := ⟨_, rfl⟩
  have hyv := zero32
  rw [← hY] at hyv
  have t1 := text_any w ko kc key hk 300
  have t2 := text_any w ao ca a ha 1000
  have t3 := text_any w bo cb b hb 1000
  obtain ⟨K, hK⟩ : ∃ K, K = key.take 300 := ⟨_, rfl⟩
  obtain ⟨A, hA⟩ : ∃ A, A = a.take 1000 := ⟨_, rfl⟩
  obtain ⟨B, hB⟩ : ∃ B, B = b.take 1000 := ⟨_, rfl⟩
  have hKb : Bts w ko kc K := by rw [hK]; exact hk.cut 300
  have hAb : Bts w ao ca A := by rw [hA]; exact ha.cut 1000
  have hBb : Bts w bo cb B := by rw [hB]; exact hb.cut 1000
  have hKl : K.length ≤ 300 := by rw [hK]; simp; omega
  have hAl : A.length ≤ 1000 := by rw [hA]; simp; omega
  have hBl : B.length ≤ 1000 := by rw [hB]; simp; omega
  rw [← hK] at t1
  rw [← hA] at t2
  rw [← hB] at t3
  obtain ⟨x, hx⟩ : ∃ x, x = macL K (A ++ B) := ⟨_, rfl⟩
  have hx32 : x.length = 32 := by rw [hx]; exact macL_length _ _
  have hm1 := mac_any (w.alloc (.cells #[.slice ao A.length ca, .slice bo B.length cb] 22)) ko kc K (hKb.alloc _) (some ⟨w.heap.size, 0, none⟩) 2 [A, B] (lst_two (hAb.alloc _) (hBb.alloc _) w.heap.size (t := 22) (Blk.new w _ _)) (hT.kept0 (gb_alloc (gb_refl _ _) _)) (by omega) (by simp; omega)
  rw [show [A, B].flatten = A ++ B by simp, ← hx, show [A, B].length = 2 from rfl] at hm1
  have HY := hide hY
  have HKB := hide hKb
  have HAB := hide hAb
  have HBB := hide hBb
  have HT := hide hT
  have HX := hide hx
  have HX32 := hide hx32
  clear hY hK hA hB hk ha hb hKb hAb hBb hT hx hx32
  go_enter Tryd.func4, Tryd.ntmps4
  go_wp2_with fail
  refine t1.mono ?_
  rintro e w1 ⟨rfl, rfl⟩
  go_wp2_with fail
  refine t2.mono ?_
  rintro e w2 ⟨rfl, rfl⟩
  go_wp2_with fail
  refine t3.mono ?_
  rintro e w ⟨rfl, rfl⟩
  clear t1 t2 t3
  go_wp2_with fail
  refine hm1.mono ?_
  rintro e w2 ⟨rfl, g2⟩
  have G2 : w.grownBy w2 none := gb_trans (gb_alloc (gb_refl _ _) _) g2 (fun _ e => by cases e)
  have hN2 : Blk (w2.alloc (.cells Y 23)) w2.heap.size 23 ((List.replicate 32 (0 : UInt8)).map bv) := by
    rw [unhide HY]; exact Blk.new w2 23 _
  obtain ⟨W3, hW3⟩ : ∃ W3, W3 = (w2.alloc (.cells Y 23)).setRow w2.heap.size (x.map bv).toArray := ⟨_, rfl⟩
  have hX3 : Blk W3 w2.heap.size 23 (x.map bv) := by rw [hW3]; exact hN2.row _
  have g3 : w2.grownBy W3 none := by rw [hW3]; exact gb_row (gb_alloc (gb_refl _ _) _) _ (Or.inl (Nat.le_refl _))
  have G3 : w.grownBy W3 none := gb_trans G2 g3 (fun _ e => by cases e)
  have hr3 : W3.rangeAt w2.heap.size 0 (x.map bv) := by
    have : Blk W3 w2.heap.size 23 ([] ++ (x.map bv ++ [])) := by simpa using hX3
    exact this.range
  have hT3 := (unhide HT).kept0 G3
  have hK3 := (unhide HKB).kept G3 (fun _ e => by cases e)
  have hA3 := (unhide HAB).kept G3 (fun _ e => by cases e)
  have hB3 := (unhide HBB).kept G3 (fun _ e => by cases e)
  have hx3 : Bts W3 (some ⟨w2.heap.size, 0, none⟩) 32 x := bts_row hX3 32 (by rw [unhide HX32]; exact Nat.le_refl _) (by unfold maxLen; omega)
  have hS2 : ∀ V, W3.grownBy V none → W3.grownBy V none ∧ V.rangeAt w2.heap.size 0 (x.map bv) := fun V h => ⟨h, range_kept hr3 h (by simp)⟩
  have cK : ∀ V, W3.grownBy V none → (convert 22 9 (.slice ko K.length kc)).run Tryd.prog V = .ok (.string (str K)) V := fun V gV => conv_str (hK3.kept gV (fun _ e => by cases e))
  have cA : ∀ V, W3.grownBy V none → (convert 22 9 (.slice ao A.length ca)).run Tryd.prog V = .ok (.string (str A)) V := fun V gV => conv_str (hA3.kept gV (fun _ e => by cases e))
  have cB : ∀ V, W3.grownBy V none → (convert 22 9 (.slice bo B.length cb)).run Tryd.prog V = .ok (.string (str B)) V := fun V gV => conv_str (hB3.kept gV (fun _ e => by cases e))
  have cX : ∀ V, W3.grownBy V none → (convert 22 9 (.slice (some ⟨w2.heap.size, 0, none⟩) 32 32)).run Tryd.prog V = .ok (.string (str x)) V := fun V gV => by
    have := conv_str (hx3.kept gV (fun _ e => by cases e))
    rw [unhide HX32] at this
    exact this
  have cr : ∀ V, W3.grownBy V none → Calls Tryd.prog 14 #[.string (str K), .string (str (A ++ B))] V fun e w' => e = .returned (.string (str x)) ∧ W3.grownBy w' none ∧ w'.rangeAt w2.heap.size 0 (x.map bv) := by
    intro V gV
    have h := rmac_any V K (A ++ B) (by omega) (by rw [List.length_append]; omega)
    rw [← unhide HX] at h
    exact h.mono fun e w' ⟨he, hgw⟩ => ⟨he, hS2 _ (gb_trans gV hgw (fun _ e => by cases e))⟩
  have cM : ∀ V gL, W3.grownBy V none → Blk V gL 22 [.slice ao A.length ca, .slice bo B.length cb, .slice none 0 0] → Calls Tryd.prog 13 #[.slice ko K.length kc, .slice (some ⟨gL, 0, none⟩) 3 3] V fun e w' => e = .returned (.agg (x.map bv).toArray) ∧ W3.grownBy w' none ∧ w'.rangeAt w2.heap.size 0 (x.map bv) := by
    intro V gL gV hBL
    have h := mac_any V ko kc K (hK3.kept gV (fun _ e => by cases e)) (some ⟨gL, 0, none⟩) 3 [A, B, []] (lst_triple (hA3.kept gV (fun _ e => by cases e)) (hB3.kept gV (fun _ e => by cases e)) gL hBL) (hT3.kept0 gV) (by omega) (by simp; omega)
    rw [show [A, B, []].flatten = A ++ B by simp, ← unhide HX, show [A, B, []].length = 3 from rfl] at h
    exact h.mono fun e w' ⟨he, hgw⟩ => ⟨he, hS2 _ (gb_trans gV hgw (fun _ e => by cases e))⟩
  have c1 : ∀ V, W3.grownBy V none → Calls Tryd.prog 15 #[] V fun e w' => e = .returned (.bool true) ∧ W3.grownBy w' none ∧ w'.rangeAt w2.heap.size 0 (x.map bv) := by
    intro V gV
    exact (kone_any V (hT3.kept0 gV)).mono fun e w' ⟨he, hgw⟩ => ⟨he, hS2 _ (gb_trans gV hgw (fun _ e => by cases e))⟩
  have heql : ∀ V, (binOp .eql 23 (.agg (x.map bv).toArray) (.agg (x.map bv).toArray)).run Tryd.prog V = .ok (.bool true) V := fun V => by rw [eql_sums V x x (unhide HX32) (unhide HX32)]; simp
  have hse : ((str x).toList == (str x).toList) = true := by simp
  have sAB : str A ++ str B = str (A ++ B) := str_app A B
  have zA : (str A).size = A.length := str_size A
  have zB : (str B).size = B.length := str_size B
  have hABl : A.length + B.length ≤ 9223372036854775807 := by omega
  have hAi : (A.length : Int) ≤ 1000 := by omega
  have hBi : (B.length : Int) ≤ 1000 := by omega
  have hsls := slice_arr_all 23 5 32 Tryd.underlying23 size_byte w2.heap.size 0 (by omega)
  have hsz : ((x.map bv).toArray).size = 32 := by simp [unhide HX32]
  have HSZ := hide hsz
  have HN2 := hide hN2
  have HW3 := hide hW3
  have HG3 := hide G3
  clear hm1 hsz hN2 hW3 hT3 hK3 hA3 hB3 hx3 hX3 g2 g3 G2 G3
  go_wp2_with (first | (refine wpList_store_row rfl 23 _ _ rfl w2.heap.size _ rfl rfl _ _ (unhide HN2) ?_ ?_ ?_ ?_; (rw [unhide HSZ]; exact hi32); (rw [unhide HSZ]; rfl); (exact all_oneCell_toArray (bv_one _)); refine (show wpList _ _ _ _ _ W3 → _ from fun q => unhide HW3 ▸ q) ?_))
  have hu32 := Tryd.underlying23
  have hln : (x.map bv).length = 32 := by simp [unhide HX32]
  have hii : (Tryd.prog.info? 23).map (·.size) = some (x.map bv).length := by rw [hln]; exact hi32
  have hgr := gb_refl W3 none
  have h0 : W3.grownBy W3.drew none := gb_drew hgr
  refine wp_region_noPanic ?_
  refine wp_region_held_drew (S := fun V => W3.grownBy V none) (by kernel_rfl) h0 (fun _ => ?_)
  refine wpAnyH_take (i := 0) (oi := { dst := some 19, op := Op.slice 23 (Operand.tmp 7) none none none, type := _, pos := _, after := _, guard := _ }) (v := .slice (some ⟨w2.heap.size, 0, none⟩) 32 32) rfl (by kernel_rfl) (by kernel_rfl) (by kernel_rfl) (fun _ _ _ h => h) (Or.inl ⟨by rfl, fun V (hV : W3.grownBy V none) => by go_simp⟩) h0 ?_
  (try simp only [Act.put, List.setIfInBounds_toArray, List.set_cons_zero, List.set_cons_succ])
  refine wpAnyH_take (i := 1) (oi := { dst := some 20, op := Op.convert 22 9 (Operand.tmp 19), type := _, pos := _, after := _, guard := _ }) (v := .string (str x)) rfl (by kernel_rfl) (by kernel_rfl) (by kernel_rfl) (fun _ _ _ h => h) (Or.inl ⟨by rfl, fun V (hV : W3.grownBy V none) => by go_simp⟩) h0 ?_
  (try simp only [Act.put, List.setIfInBounds_toArray, List.set_cons_zero, List.set_cons_succ])
  refine wpAnyH_take (i := 2) (oi := { dst := some 21, op := Op.move (Operand.tmp 0), type := _, pos := _, after := _, guard := _ }) (v := .slice ko K.length kc) rfl (by kernel_rfl) (by kernel_rfl) (by kernel_rfl) (fun _ _ _ h => h) (Or.inl ⟨by rfl, fun V (hV : W3.grownBy V none) => by go_simp⟩) h0 ?_
  (try simp only [Act.put, List.setIfInBounds_toArray, List.set_cons_zero, List.set_cons_succ])
  refine wpAnyH_take (i := 3) (oi := { dst := some 22, op := Op.convert 22 9 (Operand.tmp 21), type := _, pos := _, after := _, guard := _ }) (v := .string (str K)) rfl (by kernel_rfl) (by kernel_rfl) (by kernel_rfl) (fun _ _ _ h => h) (Or.inl ⟨by rfl, fun V (hV : W3.grownBy V none) => by go_simp⟩) h0 ?_
  (try simp only [Act.put, List.setIfInBounds_toArray, List.set_cons_zero, List.set_cons_succ])
  refine wpAnyH_take (i := 4) (oi := { dst := some 23, op := Op.move (Operand.tmp 1), type := _, pos := _, after := _, guard := _ }) (v := .slice ao A.length ca) rfl (by kernel_rfl) (by kernel_rfl) (by kernel_rfl) (fun _ _ _ h => h) (Or.inl ⟨by rfl, fun V (hV : W3.grownBy V none) => by go_simp⟩) h0 ?_
  (try simp only [Act.put, List.setIfInBounds_toArray, List.set_cons_zero, List.set_cons_succ])
  refine wpAnyH_take (i := 5) (oi := { dst := some 24, op := Op.convert 22 9 (Operand.tmp 23), type := _, pos := _, after := _, guard := _ }) (v := .string (str A)) rfl (by kernel_rfl) (by kernel_rfl) (by kernel_rfl) (fun _ _ _ h => h) (Or.inl ⟨by rfl, fun V (hV : W3.grownBy V none) => by go_simp⟩) h0 ?_
  (try simp only [Act.put, List.setIfInBounds_toArray, List.set_cons_zero, List.set_cons_succ])
  refine wpAnyH_take (i := 6) (oi := { dst := some 25, op := Op.move (Operand.tmp 2), type := _, pos := _, after := _, guard := _ }) (v := .slice bo B.length cb) rfl (by kernel_rfl) (by kernel_rfl) (by kernel_rfl) (fun _ _ _ h => h) (Or.inl ⟨by rfl, fun V (hV : W3.grownBy V none) => by go_simp⟩) h0 ?_
  (try simp only [Act.put, List.setIfInBounds_toArray, List.set_cons_zero, List.set_cons_succ])
  refine wpAnyH_take (i := 7) (oi := { dst := some 26, op := Op.convert 22 9 (Operand.tmp 25), type := _, pos := _, after := _, guard := _ }) (v := .string (str B)) rfl (by kernel_rfl) (by kernel_rfl) (by kernel_rfl) (fun _ _ _ h => h) (Or.inl ⟨by rfl, fun V (hV : W3.grownBy V none) => by go_simp⟩) h0 ?_
  (try simp only [Act.put, List.setIfInBounds_toArray, List.set_cons_zero, List.set_cons_succ])
  refine wpAnyH_take (i := 8) (oi := { dst := some 27, op := Op.binOp BinOp.add 9 (Operand.tmp 24) (Operand.tmp 26) 9, type := _, pos := _, after := _, guard := _ }) (v := .string (str (A ++ B))) rfl (by kernel_rfl) (by kernel_rfl) (by kernel_rfl) (fun _ _ _ h => h) (Or.inl ⟨by rfl, fun V (hV : W3.grownBy V none) => by go_simp⟩) h0 ?_
  (try simp only [Act.put, List.setIfInBounds_toArray, List.set_cons_zero, List.set_cons_succ])
  refine wpAnyH_ready (rs := [9]) (by kernel_rfl) (by simp) ?_
  refine AllReadyH.cons (o := { dst := some 28, op := Op.call { callee := Callee.value (Operand.func 14), args := #[Operand.tmp 22, Operand.tmp 27], argTypes := #[9, 9] }, type := _, pos := _, after := _, guard := _ }) rfl (fun K9 hK9 => ?_) AllReadyH.nil
  go_simp
  go_at_call 14
  refine (cr _ h0).mono ?_
  rintro e w4 ⟨rfl, g4, r4⟩
  go_wp2_with fail
  refine hK9.out _ _ g4 (fun _ => ?_)
  clear hK9 K9
  (try simp only [Act.put, List.setIfInBounds_toArray, List.set_cons_zero, List.set_cons_succ])
  refine wpAnyH_take (i := 10) (oi := { dst := some 29, op := Op.binOp BinOp.eql 9 (Operand.tmp 20) (Operand.tmp 28) 9, type := _, pos := _, after := _, guard := _ }) (v := .bool true) rfl (by kernel_rfl) (by kernel_rfl) (by kernel_rfl) (fun _ _ _ h => h) (Or.inl ⟨by rfl, fun V (hV : W3.grownBy V none) => by go_simp⟩) g4 ?_
  (try simp only [Act.put, List.setIfInBounds_toArray, List.set_cons_zero, List.set_cons_succ])
  refine wpAnyH_take (i := 11) (oi := { dst := some 30, op := Op.move (Operand.tmp 29), type := _, pos := _, after := _, guard := _ }) (v := .bool true) rfl (by kernel_rfl) (by kernel_rfl) (by kernel_rfl) (fun _ _ _ h => h) (Or.inl ⟨by rfl, fun V (hV : W3.grownBy V none) => by go_simp⟩) g4 ?_
  (try simp only [Act.put, List.setIfInBounds_toArray, List.set_cons_zero, List.set_cons_succ])
  refine wpAnyH_take (i := 12) (oi := { dst := some 31, op := Op.move (Operand.tmp 0), type := _, pos := _, after := _, guard := _ }) (v := .slice ko K.length kc) rfl (by kernel_rfl) (by kernel_rfl) (by kernel_rfl) (fun _ _ _ h => h) (Or.inl ⟨by rfl, fun V (hV : W3.grownBy V none) => by go_simp⟩) g4 ?_
  (try simp only [Act.put, List.setIfInBounds_toArray, List.set_cons_zero, List.set_cons_succ])
  refine wpAnyH_take (i := 13) (oi := { dst := some 32, op := Op.move (Operand.tmp 1), type := _, pos := _, after := _, guard := _ }) (v := .slice ao A.length ca) rfl (by kernel_rfl) (by kernel_rfl) (by kernel_rfl) (fun _ _ _ h => h) (Or.inl ⟨by rfl, fun V (hV : W3.grownBy V none) => by go_simp⟩) g4 ?_
  (try simp only [Act.put, List.setIfInBounds_toArray, List.set_cons_zero, List.set_cons_succ])
  refine wpAnyH_take (i := 14) (oi := { dst := some 33, op := Op.move (Operand.tmp 2), type := _, pos := _, after := _, guard := _ }) (v := .slice bo B.length cb) rfl (by kernel_rfl) (by kernel_rfl) (by kernel_rfl) (fun _ _ _ h => h) (Or.inl ⟨by rfl, fun V (hV : W3.grownBy V none) => by go_simp⟩) g4 ?_
  (try simp only [Act.put, List.setIfInBounds_toArray, List.set_cons_zero, List.set_cons_succ])
  refine wpAnyH_take (i := 17) (oi := { dst := some 36, op := Op.load 23 (Operand.tmp 7), type := _, pos := _, after := _, guard := _ }) (v := .agg (x.map bv).toArray) rfl (by kernel_rfl) (by kernel_rfl) (by kernel_rfl) (fun _ _ _ h => h) (yieldsIf_load_mid (by rfl) _ _ rfl _ _ rfl (x.map bv) _ (fun V hV => range_kept hr3 hV (by simp)) hu32 rfl hii) g4 ?_
  (try simp only [Act.put, List.setIfInBounds_toArray, List.set_cons_zero, List.set_cons_succ])
  refine wpAnyH_ready (rs := [15]) (by kernel_rfl) (by simp) ?_
  refine AllReadyH.cons (o := { dst := some 34, op := Op.buildSlice 39 3 #[(0, Operand.tmp 32), (1, Operand.tmp 33), (2, Operand.const (Value.slice none 0 0))], type := _, pos := _, after := _, guard := _ }) rfl (fun K9 hK9 => ?_) AllReadyH.nil
  go_simp
  refine hK9.out _ _ (gb_alloc g4 _) (fun _ => ?_)
  clear hK9 K9
  (try simp only [Act.put, List.setIfInBounds_toArray, List.set_cons_zero, List.set_cons_succ])
  refine wpAnyH_ready (rs := [16]) (by kernel_rfl) (by simp) ?_
  refine AllReadyH.cons (o := { dst := some 35, op := Op.call { callee := Callee.value (Operand.func 13), args := #[Operand.tmp 31, Operand.tmp 34], argTypes := #[22, 39] }, type := _, pos := _, after := _, guard := _ }) rfl (fun K9 hK9 => ?_) AllReadyH.nil
  go_simp
  go_at_call 13
  refine (cM _ _ (gb_alloc g4 _) (Blk.new _ _ _)).mono ?_
  rintro e w5 ⟨rfl, g5, r5⟩
  go_wp2_with fail
  refine hK9.out _ _ g5 (fun _ => ?_)
  clear hK9 K9
  (try simp only [Act.put, List.setIfInBounds_toArray, List.set_cons_zero, List.set_cons_succ])
  refine wpAnyH_take (i := 18) (oi := { dst := some 37, op := Op.binOp BinOp.eql 23 (Operand.tmp 35) (Operand.tmp 36) 23, type := _, pos := _, after := _, guard := _ }) (v := .bool true) rfl (by kernel_rfl) (by kernel_rfl) (by kernel_rfl) (fun _ _ _ h => h) (Or.inl ⟨by rfl, fun V (hV : W3.grownBy V none) => by go_simp⟩) g5 ?_
  (try simp only [Act.put, List.setIfInBounds_toArray, List.set_cons_zero, List.set_cons_succ])
  refine wpAnyH_take (i := 19) (oi := { dst := some 38, op := Op.pick (Operand.tmp 30) (Operand.tmp 37) (Operand.const (Value.bool false)), type := _, pos := _, after := _, guard := _ }) (v := .bool true) rfl (by kernel_rfl) (by kernel_rfl) (by kernel_rfl) (fun _ _ _ h => h) (Or.inl ⟨by rfl, fun V (hV : W3.grownBy V none) => by go_simp⟩) g5 ?_
  (try simp only [Act.put, List.setIfInBounds_toArray, List.set_cons_zero, List.set_cons_succ])
  refine wpAnyH_take (i := 20) (oi := { dst := some 39, op := Op.move (Operand.tmp 38), type := _, pos := _, after := _, guard := _ }) (v := .bool true) rfl (by kernel_rfl) (by kernel_rfl) (by kernel_rfl) (fun _ _ _ h => h) (Or.inl ⟨by rfl, fun V (hV : W3.grownBy V none) => by go_simp⟩) g5 ?_
  (try simp only [Act.put, List.setIfInBounds_toArray, List.set_cons_zero, List.set_cons_succ])
  refine wpAnyH_ready (rs := [21]) (by kernel_rfl) (by simp) ?_
  refine AllReadyH.cons (o := { dst := some 40, op := Op.call { callee := Callee.value (Operand.func 15), args := #[], argTypes := #[] }, type := _, pos := _, after := _, guard := _ }) rfl (fun K9 hK9 => ?_) AllReadyH.nil
  go_simp
  go_at_call 15
  refine (c1 _ g5).mono ?_
  rintro e w6 ⟨rfl, g6, r6⟩
  go_wp2_with fail
  refine hK9.out _ _ g6 (fun _ => ?_)
  clear hK9 K9
  (try simp only [Act.put, List.setIfInBounds_toArray, List.set_cons_zero, List.set_cons_succ])
  refine wpAnyH_take (i := 22) (oi := { dst := some 41, op := Op.pick (Operand.tmp 39) (Operand.tmp 40) (Operand.const (Value.bool false)), type := _, pos := _, after := _, guard := _ }) (v := .bool true) rfl (by kernel_rfl) (by kernel_rfl) (by kernel_rfl) (fun _ _ _ h => h) (Or.inl ⟨by rfl, fun V (hV : W3.grownBy V none) => by go_simp⟩) g6 ?_
  (try simp only [Act.put, List.setIfInBounds_toArray, List.set_cons_zero, List.set_cons_succ])
  refine wpAnyH_take (i := 23) (oi := { dst := some 6, op := Op.assign (Operand.tmp 41), type := _, pos := _, after := _, guard := _ }) (v := .bool true) rfl (by kernel_rfl) (by kernel_rfl) (by kernel_rfl) (fun _ _ _ h => h) (Or.inl ⟨by rfl, fun V (hV : W3.grownBy V none) => by go_simp⟩) g6 ?_
  (try simp only [Act.put, List.setIfInBounds_toArray, List.set_cons_zero, List.set_cons_succ])
  refine wpAnyH_done (by kernel_rfl) ?_ _
  refine NoPanic.normal ?_
  go_wp2
  go_ret
  exact ⟨rfl, gb_trans (unhide HG3) g6 (fun _ e => by cases e)⟩

end Go.Proofs.YtfkcggfffbpbnaaDoor
