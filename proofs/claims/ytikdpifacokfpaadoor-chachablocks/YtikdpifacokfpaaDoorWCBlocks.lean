/- ChachaBlocks' walk: whatever the key, the nonce and the count, the call returns true and nothing that was in memory has changed; where the table holds what it is laid with. -/
import Derived.Test.YtikdpifacokfpaaDoorCRefB
import Derived.Test.YtikdpifacokfpaaDoorCAll
import Derived.Deep.DrawnRows
import Derived.Deep.MidRow
namespace Go.Proofs.YtikdpifacokfpaaDoor
open Go.RowKit
attribute [local go_sem ↓] Go.wp_at_zero Go.wp_at_succ

set_option maxRecDepth 100000 in
set_option maxHeartbeats 2000000 in
theorem chachaBlocks_any (w : World) (k : List UInt8) (hk : k.length = 32) (n : List UInt8) (hn : n.length = 12) (c : W) (hT : CTab w) :
    Calls Tryd.prog 3 #[.agg (k.map bv).toArray, .agg (n.map bv).toArray, .int .u32 (wz c)] w fun e w' => e = .returned (.bool true) ∧ w.grownBy w' none := by
  have hi32 : (Tryd.prog.info? 23).map (·.size) = some 32 := by kernel_rfl
  have hi12 : (Tryd.prog.info? 25).map (·.size) = some 12 := by kernel_rfl
  have tr : ∀ {x y z : World}, x.grownBy y none → y.grownBy z none → x.grownBy z none := fun h k => gb_trans h k (fun _ e => by cases e)
  obtain ⟨W1, hW1⟩ : ∃ W1, W1 = (w.alloc (.cells (k.map bv).toArray 23)).alloc (.cells (n.map bv).toArray 25) := ⟨_, rfl⟩
  have hg1 : w.grownBy W1 none := by rw [hW1]; exact gb_alloc (gb_alloc (gb_refl _ _) _) _
  have hK1 : Blk W1 w.heap.size 23 (k.map bv) := by rw [hW1]; exact (Blk.new w 23 (k.map bv)).alloc _
  have hN1 : Blk W1 (w.heap.size + 1) 25 (n.map bv) := by
    have := Blk.new (w.alloc (.cells (k.map bv).toArray 23)) 25 (n.map bv)
    rw [World.size_alloc] at this
    rw [hW1]; exact this
  have hrK := blk_range0 hK1
  have hrN := blk_range0 hN1
  have hiK : (Tryd.prog.info? 23).map (·.size) = some (k.map bv).length := by rw [List.length_map, hk]; exact hi32
  have hiN : (Tryd.prog.info? 25).map (·.size) = some (n.map bv).length := by rw [List.length_map, hn]; exact hi12
  have hT1 := hT.kept0 hg1
  obtain ⟨x, hx⟩ : ∃ x, x = blockL k n c := ⟨_, rfl⟩
  have hx64 : x.length = 64 := by rw [hx]; exact blockL_length _ _ _
  have cK : ∀ V, W1.grownBy V none → (convert 30 9 (.slice (some ⟨w.heap.size, 0, none⟩) 32 32)).run Tryd.prog V = .ok (.string (str k)) V := fun V gV => conv_blk hK1 gV 32 hk (by omega)
  have cN : ∀ V, W1.grownBy V none → (convert 30 9 (.slice (some ⟨w.heap.size + 1, 0, none⟩) 12 12)).run Tryd.prog V = .ok (.string (str n)) V := fun V gV => conv_blk hN1 gV 12 hn (by omega)
  have slK := slice_whole 23 5 32 Tryd.underlying23 size_byte w.heap.size 0 (by omega)
  have slN := slice_whole 25 5 12 Tryd.underlying25 size_byte (w.heap.size + 1) 0 (by omega)
  have cb : ∀ V, W1.grownBy V none → Calls Tryd.prog 9 #[.agg (k.map bv).toArray, .agg (n.map bv).toArray, .int .u32 (wz c)] V fun e w' => e = .returned (.agg (x.map bv).toArray) ∧ W1.grownBy w' none := by
    intro V gV
    rw [hx]
    exact (block_any V k n c hk hn (hT1.kept0 gV)).mono fun e w' ⟨he, hgw⟩ => ⟨he, tr gV hgw⟩
  have cr : ∀ V, W1.grownBy V none → Calls Tryd.prog 10 #[.string (str k), .string (str n), .int .u32 (wz c)] V fun e w' => e = .returned (.agg (x.map bv).toArray) ∧ W1.grownBy w' none := by
    intro V gV
    rw [hx]
    exact (rblock4_any V k n c hk hn).mono fun e w' ⟨he, hgw⟩ => ⟨he, tr gV hgw⟩
  have c1 : ∀ V, W1.grownBy V none → Calls Tryd.prog 11 #[] V fun e w' => e = .returned (.bool true) ∧ W1.grownBy w' none := fun V gV => (cone_any V (hT1.kept0 gV)).mono fun e w' ⟨he, hgw⟩ => ⟨he, tr gV hgw⟩
  have heql := fun V => eql_blocks V x hx64
  have h0 : W1.grownBy W1.drew none := gb_drew (gb_refl _ _)
  have HG1 := hide hg1
  have HW1 := hide hW1
  clear hg1 hW1 hK1 hN1 hT hT1 hx hx64 hk hn tr
  go_enter Tryd.func3, Tryd.ntmps3
  go_wp2
  rw [← unhide HW1]
  refine wp_region_noPanic ?_
  refine wp_region_held_drew (S := fun V => W1.grownBy V none) (by kernel_rfl) h0 (fun _ => ?_)
  refine wpAnyH_take (i := 0) (oi := { dst := some 7, op := Op.load 23 (Operand.tmp 3), type := _, pos := _, after := _, guard := _ }) (v := .agg (k.map bv).toArray) rfl (by kernel_rfl) (by kernel_rfl) (by kernel_rfl) (fun _ _ _ h => h) (yieldsIf_load_mid (by rfl) _ _ rfl _ _ rfl (k.map bv) _ (fun V hV => range_kept hrK hV (by simp)) Tryd.underlying23 rfl hiK) h0 ?_
  (try simp only [Act.put, List.setIfInBounds_toArray, List.set_cons_zero, List.set_cons_succ])
  refine wpAnyH_take (i := 1) (oi := { dst := some 8, op := Op.load 25 (Operand.tmp 4), type := _, pos := _, after := _, guard := _ }) (v := .agg (n.map bv).toArray) rfl (by kernel_rfl) (by kernel_rfl) (by kernel_rfl) (fun _ _ _ h => h) (yieldsIf_load_mid (by rfl) _ _ rfl _ _ rfl (n.map bv) _ (fun V hV => range_kept hrN hV (by simp)) Tryd.underlying25 rfl hiN) h0 ?_
  (try simp only [Act.put, List.setIfInBounds_toArray, List.set_cons_zero, List.set_cons_succ])
  refine wpAnyH_take (i := 2) (oi := { dst := some 9, op := Op.move (Operand.tmp 2), type := _, pos := _, after := _, guard := _ }) (v := .int .u32 (wz c)) rfl (by kernel_rfl) (by kernel_rfl) (by kernel_rfl) (fun _ _ _ h => h) (Or.inl ⟨by rfl, fun V (hV : W1.grownBy V none) => by go_simp⟩) h0 ?_
  (try simp only [Act.put, List.setIfInBounds_toArray, List.set_cons_zero, List.set_cons_succ])
  refine wpAnyH_take (i := 4) (oi := { dst := some 11, op := Op.slice 23 (Operand.tmp 3) none none none, type := _, pos := _, after := _, guard := _ }) (v := .slice (some ⟨w.heap.size, 0, none⟩) 32 32) rfl (by kernel_rfl) (by kernel_rfl) (by kernel_rfl) (fun _ _ _ h => h) (Or.inl ⟨by rfl, fun V (hV : W1.grownBy V none) => by go_simp⟩) h0 ?_
  (try simp only [Act.put, List.setIfInBounds_toArray, List.set_cons_zero, List.set_cons_succ])
  refine wpAnyH_take (i := 5) (oi := { dst := some 12, op := Op.convert 30 9 (Operand.tmp 11), type := _, pos := _, after := _, guard := _ }) (v := .string (str k)) rfl (by kernel_rfl) (by kernel_rfl) (by kernel_rfl) (fun _ _ _ h => h) (Or.inl ⟨by rfl, fun V (hV : W1.grownBy V none) => by go_simp⟩) h0 ?_
  (try simp only [Act.put, List.setIfInBounds_toArray, List.set_cons_zero, List.set_cons_succ])
  refine wpAnyH_take (i := 6) (oi := { dst := some 13, op := Op.slice 25 (Operand.tmp 4) none none none, type := _, pos := _, after := _, guard := _ }) (v := .slice (some ⟨w.heap.size + 1, 0, none⟩) 12 12) rfl (by kernel_rfl) (by kernel_rfl) (by kernel_rfl) (fun _ _ _ h => h) (Or.inl ⟨by rfl, fun V (hV : W1.grownBy V none) => by go_simp⟩) h0 ?_
  (try simp only [Act.put, List.setIfInBounds_toArray, List.set_cons_zero, List.set_cons_succ])
  refine wpAnyH_take (i := 7) (oi := { dst := some 14, op := Op.convert 30 9 (Operand.tmp 13), type := _, pos := _, after := _, guard := _ }) (v := .string (str n)) rfl (by kernel_rfl) (by kernel_rfl) (by kernel_rfl) (fun _ _ _ h => h) (Or.inl ⟨by rfl, fun V (hV : W1.grownBy V none) => by go_simp⟩) h0 ?_
  (try simp only [Act.put, List.setIfInBounds_toArray, List.set_cons_zero, List.set_cons_succ])
  refine wpAnyH_take (i := 8) (oi := { dst := some 15, op := Op.move (Operand.tmp 2), type := _, pos := _, after := _, guard := _ }) (v := .int .u32 (wz c)) rfl (by kernel_rfl) (by kernel_rfl) (by kernel_rfl) (fun _ _ _ h => h) (Or.inl ⟨by rfl, fun V (hV : W1.grownBy V none) => by go_simp⟩) h0 ?_
  (try simp only [Act.put, List.setIfInBounds_toArray, List.set_cons_zero, List.set_cons_succ])
  refine wpAnyH_ready (rs := [3]) (by kernel_rfl) (by simp) ?_
  refine AllReadyH.cons (o := { dst := some 10, op := Op.call { callee := Callee.value (Operand.func 9), args := #[(Operand.tmp 7), (Operand.tmp 8), (Operand.tmp 9)], argTypes := #[23, 25, 26] }, type := _, pos := _, after := _, guard := _ }) rfl (fun K9 hK9 => ?_) AllReadyH.nil
  go_simp
  go_at_call 9
  refine (cb _ h0).mono ?_
  rintro e w3 ⟨rfl, g3⟩
  go_wp2_with fail
  refine hK9.out _ _ g3 (fun _ => ?_)
  clear hK9 K9
  (try simp only [Act.put, List.setIfInBounds_toArray, List.set_cons_zero, List.set_cons_succ])
  refine wpAnyH_ready (rs := [9]) (by kernel_rfl) (by simp) ?_
  refine AllReadyH.cons (o := { dst := some 16, op := Op.call { callee := Callee.value (Operand.func 10), args := #[(Operand.tmp 12), (Operand.tmp 14), (Operand.tmp 15)], argTypes := #[9, 9, 26] }, type := _, pos := _, after := _, guard := _ }) rfl (fun K9 hK9 => ?_) AllReadyH.nil
  go_simp
  go_at_call 10
  refine (cr _ g3).mono ?_
  rintro e w4 ⟨rfl, g4⟩
  go_wp2_with fail
  refine hK9.out _ _ g4 (fun _ => ?_)
  clear hK9 K9
  (try simp only [Act.put, List.setIfInBounds_toArray, List.set_cons_zero, List.set_cons_succ])
  refine wpAnyH_take (i := 10) (oi := { dst := some 17, op := Op.binOp BinOp.eql 27 (Operand.tmp 10) (Operand.tmp 16) 27, type := _, pos := _, after := _, guard := _ }) (v := .bool true) rfl (by kernel_rfl) (by kernel_rfl) (by kernel_rfl) (fun _ _ _ h => h) (Or.inl ⟨by rfl, fun V (hV : W1.grownBy V none) => by go_simp⟩) g4 ?_
  (try simp only [Act.put, List.setIfInBounds_toArray, List.set_cons_zero, List.set_cons_succ])
  refine wpAnyH_take (i := 11) (oi := { dst := some 18, op := Op.move (Operand.tmp 17), type := _, pos := _, after := _, guard := _ }) (v := .bool true) rfl (by kernel_rfl) (by kernel_rfl) (by kernel_rfl) (fun _ _ _ h => h) (Or.inl ⟨by rfl, fun V (hV : W1.grownBy V none) => by go_simp⟩) g4 ?_
  (try simp only [Act.put, List.setIfInBounds_toArray, List.set_cons_zero, List.set_cons_succ])
  refine wpAnyH_ready (rs := [12]) (by kernel_rfl) (by simp) ?_
  refine AllReadyH.cons (o := { dst := some 19, op := Op.call { callee := Callee.value (Operand.func 11), args := #[], argTypes := #[] }, type := _, pos := _, after := _, guard := _ }) rfl (fun K9 hK9 => ?_) AllReadyH.nil
  go_simp
  go_at_call 11
  refine (c1 _ g4).mono ?_
  rintro e w5 ⟨rfl, g5⟩
  go_wp2_with fail
  refine hK9.out _ _ g5 (fun _ => ?_)
  clear hK9 K9
  (try simp only [Act.put, List.setIfInBounds_toArray, List.set_cons_zero, List.set_cons_succ])
  refine wpAnyH_take (i := 13) (oi := { dst := some 20, op := Op.pick (Operand.tmp 18) (Operand.tmp 19) (Operand.const (Value.bool false)), type := _, pos := _, after := _, guard := _ }) (v := .bool true) rfl (by kernel_rfl) (by kernel_rfl) (by kernel_rfl) (fun _ _ _ h => h) (Or.inl ⟨by rfl, fun V (hV : W1.grownBy V none) => by go_simp⟩) g5 ?_
  (try simp only [Act.put, List.setIfInBounds_toArray, List.set_cons_zero, List.set_cons_succ])
  refine wpAnyH_take (i := 14) (oi := { dst := some 6, op := Op.assign (Operand.tmp 20), type := _, pos := _, after := _, guard := _ }) (v := .bool true) rfl (by kernel_rfl) (by kernel_rfl) (by kernel_rfl) (fun _ _ _ h => h) (Or.inl ⟨by rfl, fun V (hV : W1.grownBy V none) => by go_simp⟩) g5 ?_
  (try simp only [Act.put, List.setIfInBounds_toArray, List.set_cons_zero, List.set_cons_succ])
  refine wpAnyH_done (by kernel_rfl) ?_ _
  refine NoPanic.normal ?_
  go_wp2
  go_ret
  exact ⟨rfl, gb_trans (unhide HG1) g5 (fun _ e => by cases e)⟩

end Go.Proofs.YtikdpifacokfpaaDoor
