/- PolySums' walk: whatever the key and the text, the call returns true and nothing that was in memory has changed. -/
import Derived.Test.YtagdileacidnjaaPOne
import Derived.Test.YtagdileacidnjaaPRefS
import Derived.Deep.DrawnRows
import Derived.Deep.MidRow
import Derived.Laws.Cover3
namespace Go.Proofs.Ytagdileacidnjaa
open Go.RowKit

set_option maxRecDepth 100000 in
set_option maxHeartbeats 4000000 in
theorem polySums_any (w : World) (k : List UInt8) (hk : k.length = 32) (ao : Option Addr) (cap : Nat) (l : List UInt8) (hb : Bts w ao cap l) :
    Calls Try.prog 3 #[.agg (k.map bv).toArray, .slice ao l.length cap] w fun e w' => e = .returned (.bool true) ∧ w.grownBy w' none := by
  have hi16 : (Try.prog.info? 24).map (·.size) = some 16 := by kernel_rfl
  have hi32 : (Try.prog.info? 22).map (·.size) = some 32 := by kernel_rfl
  have tr : ∀ {x y z : World}, x.grownBy y none → y.grownBy z none → x.grownBy z none := fun h k => gb_trans h k (fun _ e => by cases e)
  obtain ⟨l0, hl0⟩ : ∃ l0, l0 = l.take 300 := ⟨_, rfl⟩
  have hb0 : Bts w ao cap l0 := by
    rw [hl0]
    by_cases hn : 300 ≤ l.length
    · exact hb.take 300 hn
    · rw [List.take_of_length_le (by omega)]; exact hb
  obtain ⟨L, hL⟩ : ∃ L, L = l0.length := ⟨_, rfl⟩
  have hL2 : L ≤ 300 := by rw [hL, hl0]; simp; omega
  obtain ⟨hf, hhf⟩ : ∃ h, h = k.take 16 := ⟨_, rfl⟩
  have hfl : hf.length = 16 := by rw [hhf, List.length_take, hk]; rfl
  obtain ⟨Z, hZ⟩ : ∃ A : Array Value, A = ((List.replicate 16 (0 : UInt8)).map bv).toArray := ⟨_, rfl⟩
  have hz := zero16b
  rw [← hZ] at hz
  obtain ⟨W1, hW1⟩ : ∃ W1, W1 = w.alloc (.cells (k.map bv).toArray 22) := ⟨_, rfl⟩
  have hK1 : Blk W1 w.heap.size 22 (k.map bv) := by rw [hW1]; exact Blk.new w 22 _
  have hrg : (w.alloc (.cells (k.map bv).toArray 22)).rangeAt w.heap.size 0 (hf.map bv) := by rw [← hW1, hhf]; exact blk_head hK1 16
  have hs1 : W1.heap.size = w.heap.size + 1 := by rw [hW1]; simp
  have hN1 : Blk ((w.alloc (.cells (k.map bv).toArray 22)).alloc (.cells Z 24)) (w.heap.size + 1) 24 ((List.replicate 16 (0 : UInt8)).map bv) := by
    have := Blk.new W1 24 ((List.replicate 16 (0 : UInt8)).map bv)
    rw [hs1, ← hZ, hW1] at this
    exact this
  obtain ⟨W2, hW2⟩ : ∃ W2, W2 = ((w.alloc (.cells (k.map bv).toArray 22)).alloc (.cells Z 24)).setRow (w.heap.size + 1) (hf.map bv).toArray := ⟨_, rfl⟩
  have hg2 : w.grownBy W2 none := by rw [hW2]; exact gb_row (gb_alloc (gb_alloc (gb_refl _ _) _) _) _ (Or.inl (by omega))
  have hK2 : Blk W2 w.heap.size 22 (k.map bv) := by rw [hW2, ← hW1]; exact (hK1.alloc _).row_other _ _ (by omega)
  have hH2 : Blk W2 (w.heap.size + 1) 24 (hf.map bv) := by rw [hW2]; exact hN1.row _
  have hrK := blk_range5 hK2
  have hrH := blk_range5 hH2
  have hiK : (Try.prog.info? 22).map (·.size) = some (k.map bv).length := by rw [List.length_map, hk]; exact hi32
  have hiH : (Try.prog.info? 24).map (·.size) = some (hf.map bv).length := by rw [List.length_map, hfl]; exact hi16
  have hsh : ((hf.map bv).toArray).size = 16 := by simp [hfl]
  have hb2 := hb0.kept hg2 (fun _ e => by cases e)
  have cL : ∀ V, W2.grownBy V none → (convert 23 9 (.slice ao L cap)).run Try.prog V = .ok (.string (str l0)) V := fun V gV => by
    have := conv_str (hb2.kept gV (fun _ e => by cases e))
    rw [← hL] at this
    exact this
  have slT : ∀ W, (Instr.sliceAt 22 (.pointer (some ⟨w.heap.size, 0, none⟩)) none (some (.int .i64 16)) none).run Try.prog W = .ok (.slice (some ⟨w.heap.size, 0, none⟩) 16 32) W := fun W => slice_arr_head 22 5 32 Try.underlying22 size_byte w.heap.size 16 (by omega) (by omega) W
  have hat : ∀ W, (Instr.arrayAt 24 (.slice (some ⟨w.heap.size, 0, none⟩) 16 32)).run Try.prog W = .ok (.pointer (some ⟨w.heap.size, 0, none⟩)) W := fun W => run_arrayAt W 24 5 16 _ 16 32 Try.underlying24 (by omega)
  obtain ⟨T, hT⟩ : ∃ T, T = tagL k l0 := ⟨_, rfl⟩
  obtain ⟨C, hC⟩ : ∃ C, C = clampL hf := ⟨_, rfl⟩
  have heT := fun V => eql_same V T (by rw [hT]; exact tagL_length _ _)
  have heC := fun V => eql_same V C (by rw [hC, clampL_length, hfl])
  have cs : ∀ V, W2.grownBy V none → Calls Try.prog 7 #[.agg (k.map bv).toArray, .slice ao L cap] V fun e w' => e = .returned (.agg (T.map bv).toArray) ∧ W2.grownBy w' none := by
    intro V gV
    have h := psum_any V k hk ao cap l0 (hb2.kept gV (fun _ e => by cases e)) (by omega)
    rw [← hL, ← hT] at h
    exact h.mono fun e w' ⟨he, hgw⟩ => ⟨he, tr gV hgw⟩
  have cr : ∀ V, W2.grownBy V none → Calls Try.prog 8 #[.agg (k.map bv).toArray, .string (str l0)] V fun e w' => e = .returned (.agg (T.map bv).toArray) ∧ W2.grownBy w' none := by
    intro V gV
    rw [hT]
    exact (rsum5_any V k l0 hk (by omega)).mono fun e w' ⟨he, hgw⟩ => ⟨he, tr gV hgw⟩
  have cc : ∀ V, W2.grownBy V none → Calls Try.prog 9 #[.agg (hf.map bv).toArray] V fun e w' => e = .returned (.agg (C.map bv).toArray) ∧ W2.grownBy w' none := by
    intro V gV
    rw [hC]
    exact (pclamp_any V hf hfl).mono fun e w' ⟨he, hgw⟩ => ⟨he, tr gV hgw⟩
  have cd : ∀ V, W2.grownBy V none → Calls Try.prog 10 #[.agg (hf.map bv).toArray] V fun e w' => e = .returned (.agg (C.map bv).toArray) ∧ W2.grownBy w' none := by
    intro V gV
    rw [hC]
    exact (rclamp_any V hf hfl).mono fun e w' ⟨he, hgw⟩ => ⟨he, tr gV hgw⟩
  have c1 : ∀ V, W2.grownBy V none → Calls Try.prog 11 #[] V fun e w' => e = .returned (.bool true) ∧ W2.grownBy w' none := fun V gV => (pone_any V).mono fun e w' ⟨he, hgw⟩ => ⟨he, tr gV hgw⟩
  have h0 : W2.grownBy W2.drew none := gb_drew (gb_refl _ _)
  have HG2 := hide hg2
  have HW2 := hide hW2
  have HN1 := hide hN1
  have HRG := hide hrg
  have HSH := hide hsh
  have hfit := hb.fits
  clear hg2 hW2 hN1 hrg hsh hK1 hW1 hs1 hK2 hH2 hT hC hZ hhf hfl hb0 hb2 hk
  by_cases hlen : 300 < l.length
  · have hLe : L = 300 := by rw [hL, hl0]; simp; omega
    have hsl : ∀ W, (Instr.slice 23 (.slice ao l.length cap) none (some (.int .i64 300)) none).run Try.prog W = .ok (.slice ao L cap) W := fun W => by
      rw [hLe]; exact slice_to W _ _ Try.underlying23 size_byte ao l.length cap 300 (by omega)
    obtain ⟨M, hM⟩ : ∃ M, M = l.length := ⟨_, rfl⟩
    have hg : (300 : Int) < (M : Int) := by omega
    rw [← hM] at hsl ⊢
    clear hM hl0 hL hLe hb hlen hfit
    go_enter Try.func3, Try.ntmps3
    go_wp2_with (first
      | (refine wpList_load_mid rfl 24 _ rfl w.heap.size 0 rfl (hf.map bv) _ (unhide HRG) Try.underlying24 rfl hiH ?_)
      | (refine wpList_store_row rfl 24 _ _ rfl (w.heap.size + 1) _ rfl rfl _ _ (unhide HN1) ?_ ?_ ?_ ?_; (rw [unhide HSH]; exact hi16); (rw [unhide HSH]; rfl); (exact all_oneCell_toArray (bv_one _)); rw [← unhide HW2]))
    refine wp_region_noPanic ?_
    refine wp_region_held_drew (S := fun V => W2.grownBy V none) (by kernel_rfl) h0 (fun _ => ?_)
    refine wpAnyH_take (i := 0) (oi := { dst := some 14, op := Op.load 22 (Operand.tmp 2), type := _, pos := _, after := _, guard := _ }) (v := .agg (k.map bv).toArray) rfl (by kernel_rfl) (by kernel_rfl) (by kernel_rfl) (fun _ _ _ h => h) (yieldsIf_load_mid (by rfl) _ _ rfl _ _ rfl (k.map bv) _ (fun V hV => range_kept hrK hV (by simp)) Try.underlying22 rfl hiK) h0 ?_
    (try simp only [Act.put, List.setIfInBounds_toArray, List.set_cons_zero, List.set_cons_succ])
    refine wpAnyH_take (i := 1) (oi := { dst := some 15, op := Op.move (Operand.tmp 1), type := _, pos := _, after := _, guard := _ }) (v := .slice ao L cap) rfl (by kernel_rfl) (by kernel_rfl) (by kernel_rfl) (fun _ _ _ h => h) (Or.inl ⟨by rfl, fun V (hV : W2.grownBy V none) => by go_simp⟩) h0 ?_
    (try simp only [Act.put, List.setIfInBounds_toArray, List.set_cons_zero, List.set_cons_succ])
    refine wpAnyH_take (i := 3) (oi := { dst := some 17, op := Op.load 22 (Operand.tmp 2), type := _, pos := _, after := _, guard := _ }) (v := .agg (k.map bv).toArray) rfl (by kernel_rfl) (by kernel_rfl) (by kernel_rfl) (fun _ _ _ h => h) (yieldsIf_load_mid (by rfl) _ _ rfl _ _ rfl (k.map bv) _ (fun V hV => range_kept hrK hV (by simp)) Try.underlying22 rfl hiK) h0 ?_
    (try simp only [Act.put, List.setIfInBounds_toArray, List.set_cons_zero, List.set_cons_succ])
    refine wpAnyH_take (i := 4) (oi := { dst := some 18, op := Op.move (Operand.tmp 1), type := _, pos := _, after := _, guard := _ }) (v := .slice ao L cap) rfl (by kernel_rfl) (by kernel_rfl) (by kernel_rfl) (fun _ _ _ h => h) (Or.inl ⟨by rfl, fun V (hV : W2.grownBy V none) => by go_simp⟩) h0 ?_
    (try simp only [Act.put, List.setIfInBounds_toArray, List.set_cons_zero, List.set_cons_succ])
    refine wpAnyH_take (i := 5) (oi := { dst := some 19, op := Op.convert 23 9 (Operand.tmp 18), type := _, pos := _, after := _, guard := _ }) (v := .string (str l0)) rfl (by kernel_rfl) (by kernel_rfl) (by kernel_rfl) (fun _ _ _ h => h) (Or.inl ⟨by rfl, fun V (hV : W2.grownBy V none) => by go_simp⟩) h0 ?_
    (try simp only [Act.put, List.setIfInBounds_toArray, List.set_cons_zero, List.set_cons_succ])
    refine wpAnyH_ready (rs := [2]) (by kernel_rfl) (by simp) ?_
    refine AllReadyH.cons (o := { dst := some 16, op := Op.call { callee := Callee.value (Operand.func 7), args := #[(Operand.tmp 14), (Operand.tmp 15)], argTypes := #[22, 23] }, type := _, pos := _, after := _, guard := _ }) rfl (fun K9 hK9 => ?_) AllReadyH.nil
    go_simp
    go_at_call 7
    refine (cs _ h0).mono ?_
    rintro e w3 ⟨rfl, g3⟩
    go_wp2_with fail
    refine hK9.out _ _ g3 (fun _ => ?_)
    clear hK9 K9
    (try simp only [Act.put, List.setIfInBounds_toArray, List.set_cons_zero, List.set_cons_succ])
    refine wpAnyH_ready (rs := [6]) (by kernel_rfl) (by simp) ?_
    refine AllReadyH.cons (o := { dst := some 20, op := Op.call { callee := Callee.value (Operand.func 8), args := #[(Operand.tmp 17), (Operand.tmp 19)], argTypes := #[22, 9] }, type := _, pos := _, after := _, guard := _ }) rfl (fun K9 hK9 => ?_) AllReadyH.nil
    go_simp
    go_at_call 8
    refine (cr _ g3).mono ?_
    rintro e w4 ⟨rfl, g4⟩
    go_wp2_with fail
    refine hK9.out _ _ g4 (fun _ => ?_)
    clear hK9 K9
    (try simp only [Act.put, List.setIfInBounds_toArray, List.set_cons_zero, List.set_cons_succ])
    refine wpAnyH_take (i := 7) (oi := { dst := some 21, op := Op.binOp BinOp.eql 24 (Operand.tmp 16) (Operand.tmp 20) 24, type := _, pos := _, after := _, guard := _ }) (v := .bool true) rfl (by kernel_rfl) (by kernel_rfl) (by kernel_rfl) (fun _ _ _ h => h) (Or.inl ⟨by rfl, fun V (hV : W2.grownBy V none) => by go_simp⟩) g4 ?_
    (try simp only [Act.put, List.setIfInBounds_toArray, List.set_cons_zero, List.set_cons_succ])
    refine wpAnyH_take (i := 8) (oi := { dst := some 22, op := Op.move (Operand.tmp 21), type := _, pos := _, after := _, guard := _ }) (v := .bool true) rfl (by kernel_rfl) (by kernel_rfl) (by kernel_rfl) (fun _ _ _ h => h) (Or.inl ⟨by rfl, fun V (hV : W2.grownBy V none) => by go_simp⟩) g4 ?_
    (try simp only [Act.put, List.setIfInBounds_toArray, List.set_cons_zero, List.set_cons_succ])
    refine wpAnyH_take (i := 9) (oi := { dst := some 23, op := Op.load 24 (Operand.tmp 5), type := _, pos := _, after := _, guard := _ }) (v := .agg (hf.map bv).toArray) rfl (by kernel_rfl) (by kernel_rfl) (by kernel_rfl) (fun _ _ _ h => h) (yieldsIf_load_mid (by rfl) _ _ rfl _ _ rfl (hf.map bv) _ (fun V hV => range_kept hrH hV (by simp)) Try.underlying24 rfl hiH) g4 ?_
    (try simp only [Act.put, List.setIfInBounds_toArray, List.set_cons_zero, List.set_cons_succ])
    refine wpAnyH_take (i := 11) (oi := { dst := some 25, op := Op.load 24 (Operand.tmp 5), type := _, pos := _, after := _, guard := _ }) (v := .agg (hf.map bv).toArray) rfl (by kernel_rfl) (by kernel_rfl) (by kernel_rfl) (fun _ _ _ h => h) (yieldsIf_load_mid (by rfl) _ _ rfl _ _ rfl (hf.map bv) _ (fun V hV => range_kept hrH hV (by simp)) Try.underlying24 rfl hiH) g4 ?_
    (try simp only [Act.put, List.setIfInBounds_toArray, List.set_cons_zero, List.set_cons_succ])
    refine wpAnyH_ready (rs := [10]) (by kernel_rfl) (by simp) ?_
    refine AllReadyH.cons (o := { dst := some 24, op := Op.call { callee := Callee.value (Operand.func 9), args := #[(Operand.tmp 23)], argTypes := #[24] }, type := _, pos := _, after := _, guard := _ }) rfl (fun K9 hK9 => ?_) AllReadyH.nil
    go_simp
    go_at_call 9
    refine (cc _ g4).mono ?_
    rintro e w5 ⟨rfl, g5⟩
    go_wp2_with fail
    refine hK9.out _ _ g5 (fun _ => ?_)
    clear hK9 K9
    (try simp only [Act.put, List.setIfInBounds_toArray, List.set_cons_zero, List.set_cons_succ])
    refine wpAnyH_ready (rs := [12]) (by kernel_rfl) (by simp) ?_
    refine AllReadyH.cons (o := { dst := some 26, op := Op.call { callee := Callee.value (Operand.func 10), args := #[(Operand.tmp 25)], argTypes := #[24] }, type := _, pos := _, after := _, guard := _ }) rfl (fun K9 hK9 => ?_) AllReadyH.nil
    go_simp
    go_at_call 10
    refine (cd _ g5).mono ?_
    rintro e w6 ⟨rfl, g6⟩
    go_wp2_with fail
    refine hK9.out _ _ g6 (fun _ => ?_)
    clear hK9 K9
    (try simp only [Act.put, List.setIfInBounds_toArray, List.set_cons_zero, List.set_cons_succ])
    refine wpAnyH_take (i := 13) (oi := { dst := some 27, op := Op.binOp BinOp.eql 24 (Operand.tmp 24) (Operand.tmp 26) 24, type := _, pos := _, after := _, guard := _ }) (v := .bool true) rfl (by kernel_rfl) (by kernel_rfl) (by kernel_rfl) (fun _ _ _ h => h) (Or.inl ⟨by rfl, fun V (hV : W2.grownBy V none) => by go_simp⟩) g6 ?_
    (try simp only [Act.put, List.setIfInBounds_toArray, List.set_cons_zero, List.set_cons_succ])
    refine wpAnyH_take (i := 14) (oi := { dst := some 28, op := Op.pick (Operand.tmp 22) (Operand.tmp 27) (Operand.const (Value.bool false)), type := _, pos := _, after := _, guard := _ }) (v := .bool true) rfl (by kernel_rfl) (by kernel_rfl) (by kernel_rfl) (fun _ _ _ h => h) (Or.inl ⟨by rfl, fun V (hV : W2.grownBy V none) => by go_simp⟩) g6 ?_
    (try simp only [Act.put, List.setIfInBounds_toArray, List.set_cons_zero, List.set_cons_succ])
    refine wpAnyH_take (i := 15) (oi := { dst := some 29, op := Op.move (Operand.tmp 28), type := _, pos := _, after := _, guard := _ }) (v := .bool true) rfl (by kernel_rfl) (by kernel_rfl) (by kernel_rfl) (fun _ _ _ h => h) (Or.inl ⟨by rfl, fun V (hV : W2.grownBy V none) => by go_simp⟩) g6 ?_
    (try simp only [Act.put, List.setIfInBounds_toArray, List.set_cons_zero, List.set_cons_succ])
    refine wpAnyH_ready (rs := [16]) (by kernel_rfl) (by simp) ?_
    refine AllReadyH.cons (o := { dst := some 30, op := Op.call { callee := Callee.value (Operand.func 11), args := #[], argTypes := #[] }, type := _, pos := _, after := _, guard := _ }) rfl (fun K9 hK9 => ?_) AllReadyH.nil
    go_simp
    go_at_call 11
    refine (c1 _ g6).mono ?_
    rintro e w7 ⟨rfl, g7⟩
    go_wp2_with fail
    refine hK9.out _ _ g7 (fun _ => ?_)
    clear hK9 K9
    (try simp only [Act.put, List.setIfInBounds_toArray, List.set_cons_zero, List.set_cons_succ])
    refine wpAnyH_take (i := 17) (oi := { dst := some 31, op := Op.pick (Operand.tmp 29) (Operand.tmp 30) (Operand.const (Value.bool false)), type := _, pos := _, after := _, guard := _ }) (v := .bool true) rfl (by kernel_rfl) (by kernel_rfl) (by kernel_rfl) (fun _ _ _ h => h) (Or.inl ⟨by rfl, fun V (hV : W2.grownBy V none) => by go_simp⟩) g7 ?_
    (try simp only [Act.put, List.setIfInBounds_toArray, List.set_cons_zero, List.set_cons_succ])
    refine wpAnyH_take (i := 18) (oi := { dst := some 4, op := Op.assign (Operand.tmp 31), type := _, pos := _, after := _, guard := _ }) (v := .bool true) rfl (by kernel_rfl) (by kernel_rfl) (by kernel_rfl) (fun _ _ _ h => h) (Or.inl ⟨by rfl, fun V (hV : W2.grownBy V none) => by go_simp⟩) g7 ?_
    (try simp only [Act.put, List.setIfInBounds_toArray, List.set_cons_zero, List.set_cons_succ])
    refine wpAnyH_done (by kernel_rfl) ?_ _
    refine NoPanic.normal ?_
    go_wp2
    go_ret
    exact ⟨rfl, tr (unhide HG2) g7⟩
  · rw [show l.length = L by rw [hL, hl0, List.take_of_length_le (by omega)]]
    have hg : ¬ (300 : Int) < (L : Int) := by omega
    clear hl0 hL hb hlen hfit
    go_enter Try.func3, Try.ntmps3
    go_wp2_with (first
      | (refine wpList_load_mid rfl 24 _ rfl w.heap.size 0 rfl (hf.map bv) _ (unhide HRG) Try.underlying24 rfl hiH ?_)
      | (refine wpList_store_row rfl 24 _ _ rfl (w.heap.size + 1) _ rfl rfl _ _ (unhide HN1) ?_ ?_ ?_ ?_; (rw [unhide HSH]; exact hi16); (rw [unhide HSH]; rfl); (exact all_oneCell_toArray (bv_one _)); rw [← unhide HW2]))
    refine wp_region_noPanic ?_
    refine wp_region_held_drew (S := fun V => W2.grownBy V none) (by kernel_rfl) h0 (fun _ => ?_)
    refine wpAnyH_take (i := 0) (oi := { dst := some 14, op := Op.load 22 (Operand.tmp 2), type := _, pos := _, after := _, guard := _ }) (v := .agg (k.map bv).toArray) rfl (by kernel_rfl) (by kernel_rfl) (by kernel_rfl) (fun _ _ _ h => h) (yieldsIf_load_mid (by rfl) _ _ rfl _ _ rfl (k.map bv) _ (fun V hV => range_kept hrK hV (by simp)) Try.underlying22 rfl hiK) h0 ?_
    (try simp only [Act.put, List.setIfInBounds_toArray, List.set_cons_zero, List.set_cons_succ])
    refine wpAnyH_take (i := 1) (oi := { dst := some 15, op := Op.move (Operand.tmp 1), type := _, pos := _, after := _, guard := _ }) (v := .slice ao L cap) rfl (by kernel_rfl) (by kernel_rfl) (by kernel_rfl) (fun _ _ _ h => h) (Or.inl ⟨by rfl, fun V (hV : W2.grownBy V none) => by go_simp⟩) h0 ?_
    (try simp only [Act.put, List.setIfInBounds_toArray, List.set_cons_zero, List.set_cons_succ])
    refine wpAnyH_take (i := 3) (oi := { dst := some 17, op := Op.load 22 (Operand.tmp 2), type := _, pos := _, after := _, guard := _ }) (v := .agg (k.map bv).toArray) rfl (by kernel_rfl) (by kernel_rfl) (by kernel_rfl) (fun _ _ _ h => h) (yieldsIf_load_mid (by rfl) _ _ rfl _ _ rfl (k.map bv) _ (fun V hV => range_kept hrK hV (by simp)) Try.underlying22 rfl hiK) h0 ?_
    (try simp only [Act.put, List.setIfInBounds_toArray, List.set_cons_zero, List.set_cons_succ])
    refine wpAnyH_take (i := 4) (oi := { dst := some 18, op := Op.move (Operand.tmp 1), type := _, pos := _, after := _, guard := _ }) (v := .slice ao L cap) rfl (by kernel_rfl) (by kernel_rfl) (by kernel_rfl) (fun _ _ _ h => h) (Or.inl ⟨by rfl, fun V (hV : W2.grownBy V none) => by go_simp⟩) h0 ?_
    (try simp only [Act.put, List.setIfInBounds_toArray, List.set_cons_zero, List.set_cons_succ])
    refine wpAnyH_take (i := 5) (oi := { dst := some 19, op := Op.convert 23 9 (Operand.tmp 18), type := _, pos := _, after := _, guard := _ }) (v := .string (str l0)) rfl (by kernel_rfl) (by kernel_rfl) (by kernel_rfl) (fun _ _ _ h => h) (Or.inl ⟨by rfl, fun V (hV : W2.grownBy V none) => by go_simp⟩) h0 ?_
    (try simp only [Act.put, List.setIfInBounds_toArray, List.set_cons_zero, List.set_cons_succ])
    refine wpAnyH_ready (rs := [2]) (by kernel_rfl) (by simp) ?_
    refine AllReadyH.cons (o := { dst := some 16, op := Op.call { callee := Callee.value (Operand.func 7), args := #[(Operand.tmp 14), (Operand.tmp 15)], argTypes := #[22, 23] }, type := _, pos := _, after := _, guard := _ }) rfl (fun K9 hK9 => ?_) AllReadyH.nil
    go_simp
    go_at_call 7
    refine (cs _ h0).mono ?_
    rintro e w3 ⟨rfl, g3⟩
    go_wp2_with fail
    refine hK9.out _ _ g3 (fun _ => ?_)
    clear hK9 K9
    (try simp only [Act.put, List.setIfInBounds_toArray, List.set_cons_zero, List.set_cons_succ])
    refine wpAnyH_ready (rs := [6]) (by kernel_rfl) (by simp) ?_
    refine AllReadyH.cons (o := { dst := some 20, op := Op.call { callee := Callee.value (Operand.func 8), args := #[(Operand.tmp 17), (Operand.tmp 19)], argTypes := #[22, 9] }, type := _, pos := _, after := _, guard := _ }) rfl (fun K9 hK9 => ?_) AllReadyH.nil
    go_simp
    go_at_call 8
    refine (cr _ g3).mono ?_
    rintro e w4 ⟨rfl, g4⟩
    go_wp2_with fail
    refine hK9.out _ _ g4 (fun _ => ?_)
    clear hK9 K9
    (try simp only [Act.put, List.setIfInBounds_toArray, List.set_cons_zero, List.set_cons_succ])
    refine wpAnyH_take (i := 7) (oi := { dst := some 21, op := Op.binOp BinOp.eql 24 (Operand.tmp 16) (Operand.tmp 20) 24, type := _, pos := _, after := _, guard := _ }) (v := .bool true) rfl (by kernel_rfl) (by kernel_rfl) (by kernel_rfl) (fun _ _ _ h => h) (Or.inl ⟨by rfl, fun V (hV : W2.grownBy V none) => by go_simp⟩) g4 ?_
    (try simp only [Act.put, List.setIfInBounds_toArray, List.set_cons_zero, List.set_cons_succ])
    refine wpAnyH_take (i := 8) (oi := { dst := some 22, op := Op.move (Operand.tmp 21), type := _, pos := _, after := _, guard := _ }) (v := .bool true) rfl (by kernel_rfl) (by kernel_rfl) (by kernel_rfl) (fun _ _ _ h => h) (Or.inl ⟨by rfl, fun V (hV : W2.grownBy V none) => by go_simp⟩) g4 ?_
    (try simp only [Act.put, List.setIfInBounds_toArray, List.set_cons_zero, List.set_cons_succ])
    refine wpAnyH_take (i := 9) (oi := { dst := some 23, op := Op.load 24 (Operand.tmp 5), type := _, pos := _, after := _, guard := _ }) (v := .agg (hf.map bv).toArray) rfl (by kernel_rfl) (by kernel_rfl) (by kernel_rfl) (fun _ _ _ h => h) (yieldsIf_load_mid (by rfl) _ _ rfl _ _ rfl (hf.map bv) _ (fun V hV => range_kept hrH hV (by simp)) Try.underlying24 rfl hiH) g4 ?_
    (try simp only [Act.put, List.setIfInBounds_toArray, List.set_cons_zero, List.set_cons_succ])
    refine wpAnyH_take (i := 11) (oi := { dst := some 25, op := Op.load 24 (Operand.tmp 5), type := _, pos := _, after := _, guard := _ }) (v := .agg (hf.map bv).toArray) rfl (by kernel_rfl) (by kernel_rfl) (by kernel_rfl) (fun _ _ _ h => h) (yieldsIf_load_mid (by rfl) _ _ rfl _ _ rfl (hf.map bv) _ (fun V hV => range_kept hrH hV (by simp)) Try.underlying24 rfl hiH) g4 ?_
    (try simp only [Act.put, List.setIfInBounds_toArray, List.set_cons_zero, List.set_cons_succ])
    refine wpAnyH_ready (rs := [10]) (by kernel_rfl) (by simp) ?_
    refine AllReadyH.cons (o := { dst := some 24, op := Op.call { callee := Callee.value (Operand.func 9), args := #[(Operand.tmp 23)], argTypes := #[24] }, type := _, pos := _, after := _, guard := _ }) rfl (fun K9 hK9 => ?_) AllReadyH.nil
    go_simp
    go_at_call 9
    refine (cc _ g4).mono ?_
    rintro e w5 ⟨rfl, g5⟩
    go_wp2_with fail
    refine hK9.out _ _ g5 (fun _ => ?_)
    clear hK9 K9
    (try simp only [Act.put, List.setIfInBounds_toArray, List.set_cons_zero, List.set_cons_succ])
    refine wpAnyH_ready (rs := [12]) (by kernel_rfl) (by simp) ?_
    refine AllReadyH.cons (o := { dst := some 26, op := Op.call { callee := Callee.value (Operand.func 10), args := #[(Operand.tmp 25)], argTypes := #[24] }, type := _, pos := _, after := _, guard := _ }) rfl (fun K9 hK9 => ?_) AllReadyH.nil
    go_simp
    go_at_call 10
    refine (cd _ g5).mono ?_
    rintro e w6 ⟨rfl, g6⟩
    go_wp2_with fail
    refine hK9.out _ _ g6 (fun _ => ?_)
    clear hK9 K9
    (try simp only [Act.put, List.setIfInBounds_toArray, List.set_cons_zero, List.set_cons_succ])
    refine wpAnyH_take (i := 13) (oi := { dst := some 27, op := Op.binOp BinOp.eql 24 (Operand.tmp 24) (Operand.tmp 26) 24, type := _, pos := _, after := _, guard := _ }) (v := .bool true) rfl (by kernel_rfl) (by kernel_rfl) (by kernel_rfl) (fun _ _ _ h => h) (Or.inl ⟨by rfl, fun V (hV : W2.grownBy V none) => by go_simp⟩) g6 ?_
    (try simp only [Act.put, List.setIfInBounds_toArray, List.set_cons_zero, List.set_cons_succ])
    refine wpAnyH_take (i := 14) (oi := { dst := some 28, op := Op.pick (Operand.tmp 22) (Operand.tmp 27) (Operand.const (Value.bool false)), type := _, pos := _, after := _, guard := _ }) (v := .bool true) rfl (by kernel_rfl) (by kernel_rfl) (by kernel_rfl) (fun _ _ _ h => h) (Or.inl ⟨by rfl, fun V (hV : W2.grownBy V none) => by go_simp⟩) g6 ?_
    (try simp only [Act.put, List.setIfInBounds_toArray, List.set_cons_zero, List.set_cons_succ])
    refine wpAnyH_take (i := 15) (oi := { dst := some 29, op := Op.move (Operand.tmp 28), type := _, pos := _, after := _, guard := _ }) (v := .bool true) rfl (by kernel_rfl) (by kernel_rfl) (by kernel_rfl) (fun _ _ _ h => h) (Or.inl ⟨by rfl, fun V (hV : W2.grownBy V none) => by go_simp⟩) g6 ?_
    (try simp only [Act.put, List.setIfInBounds_toArray, List.set_cons_zero, List.set_cons_succ])
    refine wpAnyH_ready (rs := [16]) (by kernel_rfl) (by simp) ?_
    refine AllReadyH.cons (o := { dst := some 30, op := Op.call { callee := Callee.value (Operand.func 11), args := #[], argTypes := #[] }, type := _, pos := _, after := _, guard := _ }) rfl (fun K9 hK9 => ?_) AllReadyH.nil
    go_simp
    go_at_call 11
    refine (c1 _ g6).mono ?_
    rintro e w7 ⟨rfl, g7⟩
    go_wp2_with fail
    refine hK9.out _ _ g7 (fun _ => ?_)
    clear hK9 K9
    (try simp only [Act.put, List.setIfInBounds_toArray, List.set_cons_zero, List.set_cons_succ])
    refine wpAnyH_take (i := 17) (oi := { dst := some 31, op := Op.pick (Operand.tmp 29) (Operand.tmp 30) (Operand.const (Value.bool false)), type := _, pos := _, after := _, guard := _ }) (v := .bool true) rfl (by kernel_rfl) (by kernel_rfl) (by kernel_rfl) (fun _ _ _ h => h) (Or.inl ⟨by rfl, fun V (hV : W2.grownBy V none) => by go_simp⟩) g7 ?_
    (try simp only [Act.put, List.setIfInBounds_toArray, List.set_cons_zero, List.set_cons_succ])
    refine wpAnyH_take (i := 18) (oi := { dst := some 4, op := Op.assign (Operand.tmp 31), type := _, pos := _, after := _, guard := _ }) (v := .bool true) rfl (by kernel_rfl) (by kernel_rfl) (by kernel_rfl) (fun _ _ _ h => h) (Or.inl ⟨by rfl, fun V (hV : W2.grownBy V none) => by go_simp⟩) g7 ?_
    (try simp only [Act.put, List.setIfInBounds_toArray, List.set_cons_zero, List.set_cons_succ])
    refine wpAnyH_done (by kernel_rfl) ?_ _
    refine NoPanic.normal ?_
    go_wp2
    go_ret
    exact ⟨rfl, tr (unhide HG2) g7⟩

end Go.Proofs.Ytagdileacidnjaa
