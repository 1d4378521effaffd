/- What the document's answer for layer 4 (package coffretref04) reckons: turned and quarter. No condition but those that each lemma names. -/
import Derived.Test.YtjckdgapefaokaaDoorCKn
import Derived.BigRegion
namespace Go.Proofs.YtjckdgapefaokaaDoor
open Go.RowKit

theorem set8 (s : List W) (i j k l : Nat) (hij : i ≠ j) (hik : i ≠ k) (hil : i ≠ l) (hjk : j ≠ k) (hjl : j ≠ l) (hkl : k ≠ l) (a1 d1 c1 b1 a2 d2 c2 b2 : W) :
    (((((((s.set i a1).set l d1).set k c1).set j b1).set i a2).set l d2).set k c2).set j b2 = (((s.set i a2).set j b2).set k c2).set l d2 := by
  apply List.ext_getElem?
  intro m
  simp only [List.getElem?_set]
  by_cases h1 : i = m <;> by_cases h2 : j = m <;> by_cases h3 : k = m <;> by_cases h4 : l = m <;> simp [*] at * <;> omega

theorem rturned_any (w : World) (x : W) (n : Nat) (h0 : 0 < n) (h1 : n < 32) :
    Calls Tryd.prog 102 #[.int .u32 (wz x), .int .u64 (n : Int)] w fun e w' => e = .returned (.int .u32 (wz (rol x n))) ∧ w' = w := by
  go_enter Tryd.func102, Tryd.ntmps102
  go_wp2
  go_ret
  rw [w_shlm, w_shr, w_or]
  exact ⟨rfl, rfl⟩

theorem rturned_i (w : World) (x : W) (z : Int) (h0 : 0 < z) (h1 : z < 32) :
    Calls Tryd.prog 102 #[.int .u32 (wz x), .int .u64 z] w fun e w' => e = .returned (.int .u32 (wz (rol x z.toNat))) ∧ w' = w := by
  have := rturned_any w x z.toNat (by omega) (by omega)
  rw [Int.toNat_of_nonneg (by omega)] at this
  exact this

set_option maxRecDepth 100000 in
set_option maxHeartbeats 2000000 in
theorem rquarter_any (w : World) (s : List W) (hs : s.length = 16) (i j k l : Nat) (hi : i < 16) (hj : j < 16) (hk : k < 16) (hl : l < 16)
    (hij : i ≠ j) (hik : i ≠ k) (hil : i ≠ l) (hjk : j ≠ k) (hjl : j ≠ l) (hkl : k ≠ l) :
    Calls Tryd.prog 84 #[.agg (s.map wv).toArray, .int .i64 (i : Int), .int .i64 (j : Int), .int .i64 (k : Int), .int .i64 (l : Int)] w fun e w' => e = .returned (.agg ((quartL s i j k l).map wv).toArray) ∧ w.grownBy w' none := by
  obtain ⟨A, hA⟩ : ∃ A : Array Value, A = (s.map wv).toArray := ⟨_, rfl⟩
  obtain ⟨Z, hZ⟩ : ∃ A : Array Value, A = ((List.replicate 16 (0 : W)).map wv).toArray := ⟨_, rfl⟩
  have hz := zero16w
  rw [← hZ] at hz
  rw [← hA]
  obtain ⟨W1, hW1⟩ : ∃ W1, W1 = (w.alloc (.cells A 126)).alloc (.cells Z 126) := ⟨_, rfl⟩
  have hB1 : Blk W1 w.heap.size 126 (s.map wv) := by rw [hW1, hA]; exact (Blk.new w 126 (s.map wv)).alloc _
  have hR1 : Blk W1 (w.heap.size + 1) 126 ((List.replicate 16 (0 : W)).map wv) := by
    have := Blk.new (w.alloc (.cells A 126)) 126 ((List.replicate 16 (0 : W)).map wv)
    rw [World.size_alloc] at this
    rw [hW1, hZ]; exact this
  have hg1 : w.grownBy W1 none := by rw [hW1]; exact gb_alloc (gb_alloc (gb_refl _ _) _) _
  obtain ⟨B, hBe⟩ : ∃ B, B = w.heap.size := ⟨_, rfl⟩
  have ci := hB1.word i (by omega)
  have cj := hB1.word j (by omega)
  have ck := hB1.word k (by omega)
  have cl := hB1.word l (by omega)
  have fi := hB1.fz i
  have fj := hB1.fz j
  have fk := hB1.fz k
  have fl := hB1.fz l
  obtain ⟨xa, hxa⟩ : ∃ x, x = s.getD i 0 := ⟨_, rfl⟩
  obtain ⟨xb, hxb⟩ : ∃ x, x = s.getD j 0 := ⟨_, rfl⟩
  obtain ⟨xc, hxc⟩ : ∃ x, x = s.getD k 0 := ⟨_, rfl⟩
  obtain ⟨xd, hxd⟩ : ∃ x, x = s.getD l 0 := ⟨_, rfl⟩
  rw [← hxa] at ci
  rw [← hxb] at cj
  rw [← hxc] at ck
  rw [← hxd] at cl
  have i0 : (0 : Int) ≤ (i : Int) := by omega
  have i1 : (i : Int) < 16 := by omega
  have j0 : (0 : Int) ≤ (j : Int) := by omega
  have j1 : (j : Int) < 16 := by omega
  have k0 : (0 : Int) ≤ (k : Int) := by omega
  have k1 : (k : Int) < 16 := by omega
  have l0 : (0 : Int) ≤ (l : Int) := by omega
  have l1 : (l : Int) < 16 := by omega
  have hji := hij.symm
  have hki := hik.symm
  have hli := hil.symm
  have hkj := hjk.symm
  have hlj := hjl.symm
  have hlk := hkl.symm
  have hx := w_xor
  have ha := w_add
  have ham := w_addm
  have HB := hide hB1
  have HR := hide hR1
  have HG := hide hg1
  have HA := hide hxa
  have HBB := hide hxb
  have HC := hide hxc
  have HD := hide hxd
  have HS := hide hs
  have HAA := hide hA
  have HZ := hide hZ
  have HW1 := hide hW1
  clear hB1 hR1 hg1 hxa hxb hxc hxd hs hi hj hk hl hA hZ hW1 hBe
  go_enter Tryd.func84, Tryd.ntmps84
  go_wp2
  rw [← unhide HW1]
  -- STEPS
  refine wp_region_noPanic ?_
  refine wp_region_held_drew (S := fun V => V.cell? ⟨w.heap.size, j, none⟩ = some (.int .u32 (wz xb))) (by kernel_rfl) (show W1.drew.cell? ⟨w.heap.size, j, none⟩ = some (.int .u32 (wz xb)) from cj) (fun _ => ?_)
  have hS0 : W1.drew.cell? ⟨w.heap.size, j, none⟩ = some (.int .u32 (wz xb)) := cj
  have hct : W1.drew.cell? ⟨w.heap.size, i, none⟩ = some (.int .u32 (wz xa)) := ci
  refine wpAnyH_take (i := 0) (oi := { dst := some 11, op := Op.move (Operand.tmp 1), type := _, pos := _, after := _, guard := _ }) (v := .int .i64 (i : Int)) rfl (by kernel_rfl) (by kernel_rfl) (by kernel_rfl) (fun _ _ _ h => h) (Or.inl ⟨by rfl, fun V (hV : V.cell? ⟨w.heap.size, j, none⟩ = some (.int .u32 (wz xb))) => by go_simp⟩) hS0 ?_
  (try simp only [Act.put, List.setIfInBounds_toArray, List.set_cons_zero, List.set_cons_succ])
  refine wpAnyH_take (i := 1) (oi := { dst := some 12, op := Op.move (Operand.tmp 1), type := _, pos := _, after := _, guard := _ }) (v := .int .i64 (i : Int)) rfl (by kernel_rfl) (by kernel_rfl) (by kernel_rfl) (fun _ _ _ h => h) (Or.inl ⟨by rfl, fun V (hV : V.cell? ⟨w.heap.size, j, none⟩ = some (.int .u32 (wz xb))) => by go_simp⟩) hS0 ?_
  (try simp only [Act.put, List.setIfInBounds_toArray, List.set_cons_zero, List.set_cons_succ])
  refine wpAnyH_take (i := 2) (oi := { dst := some 13, op := Op.indexAddr 126 (Operand.tmp 5) (Operand.tmp 12), type := _, pos := _, after := _, guard := _ }) (v := .pointer (some ⟨w.heap.size, i, none⟩)) rfl (by kernel_rfl) (by kernel_rfl) (by kernel_rfl) (fun _ _ _ h => h) (Or.inl ⟨by rfl, fun V (hV : V.cell? ⟨w.heap.size, j, none⟩ = some (.int .u32 (wz xb))) => by go_simp⟩) hS0 ?_
  (try simp only [Act.put, List.setIfInBounds_toArray, List.set_cons_zero, List.set_cons_succ])
  refine wpAnyH_take (i := 4) (oi := { dst := some 15, op := Op.move (Operand.tmp 2), type := _, pos := _, after := _, guard := _ }) (v := .int .i64 (j : Int)) rfl (by kernel_rfl) (by kernel_rfl) (by kernel_rfl) (fun _ _ _ h => h) (Or.inl ⟨by rfl, fun V (hV : V.cell? ⟨w.heap.size, j, none⟩ = some (.int .u32 (wz xb))) => by go_simp⟩) hS0 ?_
  (try simp only [Act.put, List.setIfInBounds_toArray, List.set_cons_zero, List.set_cons_succ])
  refine wpAnyH_take (i := 5) (oi := { dst := some 16, op := Op.indexAddr 126 (Operand.tmp 5) (Operand.tmp 15), type := _, pos := _, after := _, guard := _ }) (v := .pointer (some ⟨w.heap.size, j, none⟩)) rfl (by kernel_rfl) (by kernel_rfl) (by kernel_rfl) (fun _ _ _ h => h) (Or.inl ⟨by rfl, fun V (hV : V.cell? ⟨w.heap.size, j, none⟩ = some (.int .u32 (wz xb))) => by go_simp⟩) hS0 ?_
  (try simp only [Act.put, List.setIfInBounds_toArray, List.set_cons_zero, List.set_cons_succ])
  refine wpAnyH_take (i := 6) (oi := { dst := some 17, op := Op.load 92 (Operand.tmp 16), type := _, pos := _, after := _, guard := _ }) (v := .int .u32 (wz xb)) rfl (by kernel_rfl) (by kernel_rfl) (by kernel_rfl) (fun _ _ _ h => h) (Or.inl ⟨by rfl, fun V (hV : V.cell? ⟨w.heap.size, j, none⟩ = some (.int .u32 (wz xb))) => by go_simp⟩) hS0 ?_
  (try simp only [Act.put, List.setIfInBounds_toArray, List.set_cons_zero, List.set_cons_succ])
  refine wpAnyH_ready (rs := [3]) (by kernel_rfl) (by simp) ?_
  refine AllReadyH.cons (o := { dst := some 14, op := Op.load 92 (Operand.tmp 13), type := _, pos := _, after := _, guard := _ }) rfl (fun K9 hK9 => ?_) AllReadyH.nil
  go_simp
  refine hK9.out _ _ hS0 (fun _ => ?_)
  clear hK9 K9
  (try simp only [Act.put, List.setIfInBounds_toArray, List.set_cons_zero, List.set_cons_succ])
  refine wpAnyH_take (i := 7) (oi := { dst := some 18, op := Op.binOp BinOp.add 92 (Operand.tmp 14) (Operand.tmp 17) 92, type := _, pos := _, after := _, guard := _ }) (v := .int .u32 (wz (xa + xb))) rfl (by kernel_rfl) (by kernel_rfl) (by kernel_rfl) (fun _ _ _ h => h) (Or.inl ⟨by rfl, fun V (hV : V.cell? ⟨w.heap.size, j, none⟩ = some (.int .u32 (wz xb))) => by go_simp⟩) hS0 ?_
  (try simp only [Act.put, List.setIfInBounds_toArray, List.set_cons_zero, List.set_cons_succ])
  refine wpAnyH_take (i := 8) (oi := { dst := some 19, op := Op.indexAddr 126 (Operand.tmp 5) (Operand.tmp 11), type := _, pos := _, after := _, guard := _ }) (v := .pointer (some ⟨w.heap.size, i, none⟩)) rfl (by kernel_rfl) (by kernel_rfl) (by kernel_rfl) (fun _ _ _ h => h) (Or.inl ⟨by rfl, fun V (hV : V.cell? ⟨w.heap.size, j, none⟩ = some (.int .u32 (wz xb))) => by go_simp⟩) hS0 ?_
  (try simp only [Act.put, List.setIfInBounds_toArray, List.set_cons_zero, List.set_cons_succ])
  refine wpAnyH_ready (rs := [9]) (by kernel_rfl) (by simp) ?_
  refine AllReadyH.cons (o := { dst := none, op := Op.store 92 (Operand.tmp 19) (Operand.tmp 18), type := _, pos := _, after := _, guard := _ }) rfl (fun K9 hK9 => ?_) AllReadyH.nil
  go_simp
  refine hK9.out _ _ (by rw [World.cell?_drew, World.cell?_setCell_other _ _ _ _ (by simp <;> omega)]; exact hS0) (fun _ => ?_)
  clear hK9 K9
  (try simp only [Act.put, List.setIfInBounds_toArray, List.set_cons_zero, List.set_cons_succ])
  refine wpAnyH_done (by kernel_rfl) ?_ _
  refine NoPanic.normal ?_
  clear hS0 hct
  obtain ⟨a1, ha1⟩ : ∃ x : W, x = xa + xb := ⟨_, rfl⟩
  rw [show xa + xb = a1 from ha1.symm]
  obtain ⟨V1, hV1⟩ : ∃ V, V = (W1.setCell ⟨w.heap.size, i, none⟩ (.int .u32 (wz a1))).drew := ⟨_, rfl⟩
  rw [← hV1]
  have hB0 : Blk V1 w.heap.size 126 ((s.set i a1).map wv) := by rw [hV1]; exact ((unhide HB).setw i a1).drew
  have hR0 : Blk V1 (w.heap.size + 1) 126 ((List.replicate 16 (0 : W)).map wv) := by rw [hV1]; exact ((unhide HR).other _ _ (by simp)).drew
  have hg0 : w.grownBy V1 none := by rw [hV1]; exact gb_drew (gb_setCell (unhide HG) _ _ (Or.inl (Nat.le_refl _)))
  have ci2 : V1.cell? ⟨w.heap.size, i, none⟩ = some (.int .u32 (wz a1)) := by rw [hV1, World.cell?_drew]; exact World.cell?_setCell_same' _ _ _ (by rw [ci]; rfl)
  have fi2 : V1.frozen? ⟨w.heap.size, i, none⟩ = false := hB0.fz i
  have cj2 : V1.cell? ⟨w.heap.size, j, none⟩ = some (.int .u32 (wz xb)) := by rw [hV1, World.cell?_drew, World.cell?_setCell_other _ _ _ _ (by simp <;> omega)]; exact cj
  have fj2 : V1.frozen? ⟨w.heap.size, j, none⟩ = false := hB0.fz j
  have ck2 : V1.cell? ⟨w.heap.size, k, none⟩ = some (.int .u32 (wz xc)) := by rw [hV1, World.cell?_drew, World.cell?_setCell_other _ _ _ _ (by simp <;> omega)]; exact ck
  have fk2 : V1.frozen? ⟨w.heap.size, k, none⟩ = false := hB0.fz k
  have cl2 : V1.cell? ⟨w.heap.size, l, none⟩ = some (.int .u32 (wz xd)) := by rw [hV1, World.cell?_drew, World.cell?_setCell_other _ _ _ _ (by simp <;> omega)]; exact cl
  have fl2 : V1.frozen? ⟨w.heap.size, l, none⟩ = false := hB0.fz l
  clear ci cj ck cl fi fj fk fl HB HR HG
  have ci := ci2
  have fi := fi2
  have cj := cj2
  have fj := fj2
  have ck := ck2
  have fk := fk2
  have cl := cl2
  have fl := fl2
  have HB := hide hB0
  have HR := hide hR0
  have HG := hide hg0
  have Ha1 := hide ha1
  clear ci2 cj2 ck2 cl2 fi2 fj2 fk2 fl2 hB0 hR0 hg0 hV1 ha1
  go_wp2_with fail
  refine wp_region_noPanic ?_
  refine wp_region_held_drew (S := fun V => V.cell? ⟨w.heap.size, i, none⟩ = some (.int .u32 (wz a1))) (by kernel_rfl) (show V1.drew.cell? ⟨w.heap.size, i, none⟩ = some (.int .u32 (wz a1)) from ci) (fun _ => ?_)
  have hS0 : V1.drew.cell? ⟨w.heap.size, i, none⟩ = some (.int .u32 (wz a1)) := ci
  have hct : V1.drew.cell? ⟨w.heap.size, l, none⟩ = some (.int .u32 (wz xd)) := cl
  refine wpAnyH_take (i := 0) (oi := { dst := some 20, op := Op.move (Operand.tmp 4), type := _, pos := _, after := _, guard := _ }) (v := .int .i64 (l : Int)) rfl (by kernel_rfl) (by kernel_rfl) (by kernel_rfl) (fun _ _ _ h => h) (Or.inl ⟨by rfl, fun V (hV : V.cell? ⟨w.heap.size, i, none⟩ = some (.int .u32 (wz a1))) => by go_simp⟩) hS0 ?_
  (try simp only [Act.put, List.setIfInBounds_toArray, List.set_cons_zero, List.set_cons_succ])
  refine wpAnyH_take (i := 1) (oi := { dst := some 21, op := Op.move (Operand.tmp 4), type := _, pos := _, after := _, guard := _ }) (v := .int .i64 (l : Int)) rfl (by kernel_rfl) (by kernel_rfl) (by kernel_rfl) (fun _ _ _ h => h) (Or.inl ⟨by rfl, fun V (hV : V.cell? ⟨w.heap.size, i, none⟩ = some (.int .u32 (wz a1))) => by go_simp⟩) hS0 ?_
  (try simp only [Act.put, List.setIfInBounds_toArray, List.set_cons_zero, List.set_cons_succ])
  refine wpAnyH_take (i := 2) (oi := { dst := some 22, op := Op.indexAddr 126 (Operand.tmp 5) (Operand.tmp 21), type := _, pos := _, after := _, guard := _ }) (v := .pointer (some ⟨w.heap.size, l, none⟩)) rfl (by kernel_rfl) (by kernel_rfl) (by kernel_rfl) (fun _ _ _ h => h) (Or.inl ⟨by rfl, fun V (hV : V.cell? ⟨w.heap.size, i, none⟩ = some (.int .u32 (wz a1))) => by go_simp⟩) hS0 ?_
  (try simp only [Act.put, List.setIfInBounds_toArray, List.set_cons_zero, List.set_cons_succ])
  refine wpAnyH_take (i := 4) (oi := { dst := some 24, op := Op.move (Operand.tmp 1), type := _, pos := _, after := _, guard := _ }) (v := .int .i64 (i : Int)) rfl (by kernel_rfl) (by kernel_rfl) (by kernel_rfl) (fun _ _ _ h => h) (Or.inl ⟨by rfl, fun V (hV : V.cell? ⟨w.heap.size, i, none⟩ = some (.int .u32 (wz a1))) => by go_simp⟩) hS0 ?_
  (try simp only [Act.put, List.setIfInBounds_toArray, List.set_cons_zero, List.set_cons_succ])
  refine wpAnyH_take (i := 5) (oi := { dst := some 25, op := Op.indexAddr 126 (Operand.tmp 5) (Operand.tmp 24), type := _, pos := _, after := _, guard := _ }) (v := .pointer (some ⟨w.heap.size, i, none⟩)) rfl (by kernel_rfl) (by kernel_rfl) (by kernel_rfl) (fun _ _ _ h => h) (Or.inl ⟨by rfl, fun V (hV : V.cell? ⟨w.heap.size, i, none⟩ = some (.int .u32 (wz a1))) => by go_simp⟩) hS0 ?_
  (try simp only [Act.put, List.setIfInBounds_toArray, List.set_cons_zero, List.set_cons_succ])
  refine wpAnyH_take (i := 6) (oi := { dst := some 26, op := Op.load 92 (Operand.tmp 25), type := _, pos := _, after := _, guard := _ }) (v := .int .u32 (wz a1)) rfl (by kernel_rfl) (by kernel_rfl) (by kernel_rfl) (fun _ _ _ h => h) (Or.inl ⟨by rfl, fun V (hV : V.cell? ⟨w.heap.size, i, none⟩ = some (.int .u32 (wz a1))) => by go_simp⟩) hS0 ?_
  (try simp only [Act.put, List.setIfInBounds_toArray, List.set_cons_zero, List.set_cons_succ])
  refine wpAnyH_ready (rs := [3]) (by kernel_rfl) (by simp) ?_
  refine AllReadyH.cons (o := { dst := some 23, op := Op.load 92 (Operand.tmp 22), type := _, pos := _, after := _, guard := _ }) rfl (fun K9 hK9 => ?_) AllReadyH.nil
  go_simp
  refine hK9.out _ _ hS0 (fun _ => ?_)
  clear hK9 K9
  (try simp only [Act.put, List.setIfInBounds_toArray, List.set_cons_zero, List.set_cons_succ])
  refine wpAnyH_take (i := 7) (oi := { dst := some 27, op := Op.binOp BinOp.xor 92 (Operand.tmp 23) (Operand.tmp 26) 92, type := _, pos := _, after := _, guard := _ }) (v := .int .u32 (wz (xd ^^^ a1))) rfl (by kernel_rfl) (by kernel_rfl) (by kernel_rfl) (fun _ _ _ h => h) (Or.inl ⟨by rfl, fun V (hV : V.cell? ⟨w.heap.size, i, none⟩ = some (.int .u32 (wz a1))) => by go_simp⟩) hS0 ?_
  (try simp only [Act.put, List.setIfInBounds_toArray, List.set_cons_zero, List.set_cons_succ])
  refine wpAnyH_ready (rs := [8]) (by kernel_rfl) (by simp) ?_
  refine AllReadyH.cons (o := { dst := some 28, op := Op.call { callee := Callee.value (Operand.func 102), args := #[(Operand.tmp 27), Operand.const (Value.int IntKind.u64 16)], argTypes := #[92, 146] }, type := _, pos := _, after := _, guard := _ }) rfl (fun K9 hK9 => ?_) AllReadyH.nil
  go_simp
  go_at_call 102
  refine (rturned_i _ _ _ ?_ ?_).mono ?_
  · decide
  · decide
  rintro e w9 ⟨rfl, rfl⟩
  go_wp2_with fail
  refine hK9.out _ _ hS0 (fun _ => ?_)
  clear hK9 K9
  (try simp only [Act.put, List.setIfInBounds_toArray, List.set_cons_zero, List.set_cons_succ])
  refine wpAnyH_take (i := 9) (oi := { dst := some 29, op := Op.indexAddr 126 (Operand.tmp 5) (Operand.tmp 20), type := _, pos := _, after := _, guard := _ }) (v := .pointer (some ⟨w.heap.size, l, none⟩)) rfl (by kernel_rfl) (by kernel_rfl) (by kernel_rfl) (fun _ _ _ h => h) (Or.inl ⟨by rfl, fun V (hV : V.cell? ⟨w.heap.size, i, none⟩ = some (.int .u32 (wz a1))) => by go_simp⟩) hS0 ?_
  (try simp only [Act.put, List.setIfInBounds_toArray, List.set_cons_zero, List.set_cons_succ])
  refine wpAnyH_ready (rs := [10]) (by kernel_rfl) (by simp) ?_
  refine AllReadyH.cons (o := { dst := none, op := Op.store 92 (Operand.tmp 29) (Operand.tmp 28), type := _, pos := _, after := _, guard := _ }) rfl (fun K9 hK9 => ?_) AllReadyH.nil
  go_simp
  refine hK9.out _ _ (by rw [World.cell?_drew, World.cell?_setCell_other _ _ _ _ (by simp <;> omega)]; exact hS0) (fun _ => ?_)
  clear hK9 K9
  (try simp only [Act.put, List.setIfInBounds_toArray, List.set_cons_zero, List.set_cons_succ])
  refine wpAnyH_done (by kernel_rfl) ?_ _
  refine NoPanic.normal ?_
  clear hS0 hct
  obtain ⟨d1, hd1⟩ : ∃ x : W, x = rol (xd ^^^ a1) 16 := ⟨_, rfl⟩
  rw [show rol (xd ^^^ a1) 16 = d1 from hd1.symm]
  obtain ⟨V2, hV2⟩ : ∃ V, V = (V1.setCell ⟨w.heap.size, l, none⟩ (.int .u32 (wz d1))).drew := ⟨_, rfl⟩
  rw [← hV2]
  have hB1 : Blk V2 w.heap.size 126 (((s.set i a1).set l d1).map wv) := by rw [hV2]; exact ((unhide HB).setw l d1).drew
  have hR1 : Blk V2 (w.heap.size + 1) 126 ((List.replicate 16 (0 : W)).map wv) := by rw [hV2]; exact ((unhide HR).other _ _ (by simp)).drew
  have hg1 : w.grownBy V2 none := by rw [hV2]; exact gb_drew (gb_setCell (unhide HG) _ _ (Or.inl (Nat.le_refl _)))
  have ci2 : V2.cell? ⟨w.heap.size, i, none⟩ = some (.int .u32 (wz a1)) := by rw [hV2, World.cell?_drew, World.cell?_setCell_other _ _ _ _ (by simp <;> omega)]; exact ci
  have fi2 : V2.frozen? ⟨w.heap.size, i, none⟩ = false := hB1.fz i
  have cj2 : V2.cell? ⟨w.heap.size, j, none⟩ = some (.int .u32 (wz xb)) := by rw [hV2, World.cell?_drew, World.cell?_setCell_other _ _ _ _ (by simp <;> omega)]; exact cj
  have fj2 : V2.frozen? ⟨w.heap.size, j, none⟩ = false := hB1.fz j
  have ck2 : V2.cell? ⟨w.heap.size, k, none⟩ = some (.int .u32 (wz xc)) := by rw [hV2, World.cell?_drew, World.cell?_setCell_other _ _ _ _ (by simp <;> omega)]; exact ck
  have fk2 : V2.frozen? ⟨w.heap.size, k, none⟩ = false := hB1.fz k
  have cl2 : V2.cell? ⟨w.heap.size, l, none⟩ = some (.int .u32 (wz d1)) := by rw [hV2, World.cell?_drew]; exact World.cell?_setCell_same' _ _ _ (by rw [cl]; rfl)
  have fl2 : V2.frozen? ⟨w.heap.size, l, none⟩ = false := hB1.fz l
  clear ci cj ck cl fi fj fk fl HB HR HG
  have ci := ci2
  have fi := fi2
  have cj := cj2
  have fj := fj2
  have ck := ck2
  have fk := fk2
  have cl := cl2
  have fl := fl2
  have HB := hide hB1
  have HR := hide hR1
  have HG := hide hg1
  have Hd1 := hide hd1
  clear ci2 cj2 ck2 cl2 fi2 fj2 fk2 fl2 hB1 hR1 hg1 hV2 hd1
  go_wp2_with fail
  refine wp_region_noPanic ?_
  refine wp_region_held_drew (S := fun V => V.cell? ⟨w.heap.size, l, none⟩ = some (.int .u32 (wz d1))) (by kernel_rfl) (show V2.drew.cell? ⟨w.heap.size, l, none⟩ = some (.int .u32 (wz d1)) from cl) (fun _ => ?_)
  have hS0 : V2.drew.cell? ⟨w.heap.size, l, none⟩ = some (.int .u32 (wz d1)) := cl
  have hct : V2.drew.cell? ⟨w.heap.size, k, none⟩ = some (.int .u32 (wz xc)) := ck
  refine wpAnyH_take (i := 0) (oi := { dst := some 30, op := Op.move (Operand.tmp 3), type := _, pos := _, after := _, guard := _ }) (v := .int .i64 (k : Int)) rfl (by kernel_rfl) (by kernel_rfl) (by kernel_rfl) (fun _ _ _ h => h) (Or.inl ⟨by rfl, fun V (hV : V.cell? ⟨w.heap.size, l, none⟩ = some (.int .u32 (wz d1))) => by go_simp⟩) hS0 ?_
  (try simp only [Act.put, List.setIfInBounds_toArray, List.set_cons_zero, List.set_cons_succ])
  refine wpAnyH_take (i := 1) (oi := { dst := some 31, op := Op.move (Operand.tmp 3), type := _, pos := _, after := _, guard := _ }) (v := .int .i64 (k : Int)) rfl (by kernel_rfl) (by kernel_rfl) (by kernel_rfl) (fun _ _ _ h => h) (Or.inl ⟨by rfl, fun V (hV : V.cell? ⟨w.heap.size, l, none⟩ = some (.int .u32 (wz d1))) => by go_simp⟩) hS0 ?_
  (try simp only [Act.put, List.setIfInBounds_toArray, List.set_cons_zero, List.set_cons_succ])
  refine wpAnyH_take (i := 2) (oi := { dst := some 32, op := Op.indexAddr 126 (Operand.tmp 5) (Operand.tmp 31), type := _, pos := _, after := _, guard := _ }) (v := .pointer (some ⟨w.heap.size, k, none⟩)) rfl (by kernel_rfl) (by kernel_rfl) (by kernel_rfl) (fun _ _ _ h => h) (Or.inl ⟨by rfl, fun V (hV : V.cell? ⟨w.heap.size, l, none⟩ = some (.int .u32 (wz d1))) => by go_simp⟩) hS0 ?_
  (try simp only [Act.put, List.setIfInBounds_toArray, List.set_cons_zero, List.set_cons_succ])
  refine wpAnyH_take (i := 4) (oi := { dst := some 34, op := Op.move (Operand.tmp 4), type := _, pos := _, after := _, guard := _ }) (v := .int .i64 (l : Int)) rfl (by kernel_rfl) (by kernel_rfl) (by kernel_rfl) (fun _ _ _ h => h) (Or.inl ⟨by rfl, fun V (hV : V.cell? ⟨w.heap.size, l, none⟩ = some (.int .u32 (wz d1))) => by go_simp⟩) hS0 ?_
  (try simp only [Act.put, List.setIfInBounds_toArray, List.set_cons_zero, List.set_cons_succ])
  refine wpAnyH_take (i := 5) (oi := { dst := some 35, op := Op.indexAddr 126 (Operand.tmp 5) (Operand.tmp 34), type := _, pos := _, after := _, guard := _ }) (v := .pointer (some ⟨w.heap.size, l, none⟩)) rfl (by kernel_rfl) (by kernel_rfl) (by kernel_rfl) (fun _ _ _ h => h) (Or.inl ⟨by rfl, fun V (hV : V.cell? ⟨w.heap.size, l, none⟩ = some (.int .u32 (wz d1))) => by go_simp⟩) hS0 ?_
  (try simp only [Act.put, List.setIfInBounds_toArray, List.set_cons_zero, List.set_cons_succ])
  refine wpAnyH_take (i := 6) (oi := { dst := some 36, op := Op.load 92 (Operand.tmp 35), type := _, pos := _, after := _, guard := _ }) (v := .int .u32 (wz d1)) rfl (by kernel_rfl) (by kernel_rfl) (by kernel_rfl) (fun _ _ _ h => h) (Or.inl ⟨by rfl, fun V (hV : V.cell? ⟨w.heap.size, l, none⟩ = some (.int .u32 (wz d1))) => by go_simp⟩) hS0 ?_
  (try simp only [Act.put, List.setIfInBounds_toArray, List.set_cons_zero, List.set_cons_succ])
  refine wpAnyH_ready (rs := [3]) (by kernel_rfl) (by simp) ?_
  refine AllReadyH.cons (o := { dst := some 33, op := Op.load 92 (Operand.tmp 32), type := _, pos := _, after := _, guard := _ }) rfl (fun K9 hK9 => ?_) AllReadyH.nil
  go_simp
  refine hK9.out _ _ hS0 (fun _ => ?_)
  clear hK9 K9
  (try simp only [Act.put, List.setIfInBounds_toArray, List.set_cons_zero, List.set_cons_succ])
  refine wpAnyH_take (i := 7) (oi := { dst := some 37, op := Op.binOp BinOp.add 92 (Operand.tmp 33) (Operand.tmp 36) 92, type := _, pos := _, after := _, guard := _ }) (v := .int .u32 (wz (xc + d1))) rfl (by kernel_rfl) (by kernel_rfl) (by kernel_rfl) (fun _ _ _ h => h) (Or.inl ⟨by rfl, fun V (hV : V.cell? ⟨w.heap.size, l, none⟩ = some (.int .u32 (wz d1))) => by go_simp⟩) hS0 ?_
  (try simp only [Act.put, List.setIfInBounds_toArray, List.set_cons_zero, List.set_cons_succ])
  refine wpAnyH_take (i := 8) (oi := { dst := some 38, op := Op.indexAddr 126 (Operand.tmp 5) (Operand.tmp 30), type := _, pos := _, after := _, guard := _ }) (v := .pointer (some ⟨w.heap.size, k, none⟩)) rfl (by kernel_rfl) (by kernel_rfl) (by kernel_rfl) (fun _ _ _ h => h) (Or.inl ⟨by rfl, fun V (hV : V.cell? ⟨w.heap.size, l, none⟩ = some (.int .u32 (wz d1))) => by go_simp⟩) hS0 ?_
  (try simp only [Act.put, List.setIfInBounds_toArray, List.set_cons_zero, List.set_cons_succ])
  refine wpAnyH_ready (rs := [9]) (by kernel_rfl) (by simp) ?_
  refine AllReadyH.cons (o := { dst := none, op := Op.store 92 (Operand.tmp 38) (Operand.tmp 37), type := _, pos := _, after := _, guard := _ }) rfl (fun K9 hK9 => ?_) AllReadyH.nil
  go_simp
  refine hK9.out _ _ (by rw [World.cell?_drew, World.cell?_setCell_other _ _ _ _ (by simp <;> omega)]; exact hS0) (fun _ => ?_)
  clear hK9 K9
  (try simp only [Act.put, List.setIfInBounds_toArray, List.set_cons_zero, List.set_cons_succ])
  refine wpAnyH_done (by kernel_rfl) ?_ _
  refine NoPanic.normal ?_
  clear hS0 hct
  obtain ⟨c1, hc1⟩ : ∃ x : W, x = xc + d1 := ⟨_, rfl⟩
  rw [show xc + d1 = c1 from hc1.symm]
  obtain ⟨V3, hV3⟩ : ∃ V, V = (V2.setCell ⟨w.heap.size, k, none⟩ (.int .u32 (wz c1))).drew := ⟨_, rfl⟩
  rw [← hV3]
  have hB2 : Blk V3 w.heap.size 126 ((((s.set i a1).set l d1).set k c1).map wv) := by rw [hV3]; exact ((unhide HB).setw k c1).drew
  have hR2 : Blk V3 (w.heap.size + 1) 126 ((List.replicate 16 (0 : W)).map wv) := by rw [hV3]; exact ((unhide HR).other _ _ (by simp)).drew
  have hg2 : w.grownBy V3 none := by rw [hV3]; exact gb_drew (gb_setCell (unhide HG) _ _ (Or.inl (Nat.le_refl _)))
  have ci2 : V3.cell? ⟨w.heap.size, i, none⟩ = some (.int .u32 (wz a1)) := by rw [hV3, World.cell?_drew, World.cell?_setCell_other _ _ _ _ (by simp <;> omega)]; exact ci
  have fi2 : V3.frozen? ⟨w.heap.size, i, none⟩ = false := hB2.fz i
  have cj2 : V3.cell? ⟨w.heap.size, j, none⟩ = some (.int .u32 (wz xb)) := by rw [hV3, World.cell?_drew, World.cell?_setCell_other _ _ _ _ (by simp <;> omega)]; exact cj
  have fj2 : V3.frozen? ⟨w.heap.size, j, none⟩ = false := hB2.fz j
  have ck2 : V3.cell? ⟨w.heap.size, k, none⟩ = some (.int .u32 (wz c1)) := by rw [hV3, World.cell?_drew]; exact World.cell?_setCell_same' _ _ _ (by rw [ck]; rfl)
  have fk2 : V3.frozen? ⟨w.heap.size, k, none⟩ = false := hB2.fz k
  have cl2 : V3.cell? ⟨w.heap.size, l, none⟩ = some (.int .u32 (wz d1)) := by rw [hV3, World.cell?_drew, World.cell?_setCell_other _ _ _ _ (by simp <;> omega)]; exact cl
  have fl2 : V3.frozen? ⟨w.heap.size, l, none⟩ = false := hB2.fz l
  clear ci cj ck cl fi fj fk fl HB HR HG
  have ci := ci2
  have fi := fi2
  have cj := cj2
  have fj := fj2
  have ck := ck2
  have fk := fk2
  have cl := cl2
  have fl := fl2
  have HB := hide hB2
  have HR := hide hR2
  have HG := hide hg2
  have Hc1 := hide hc1
  clear ci2 cj2 ck2 cl2 fi2 fj2 fk2 fl2 hB2 hR2 hg2 hV3 hc1
  go_wp2_with fail
  refine wp_region_noPanic ?_
  refine wp_region_held_drew (S := fun V => V.cell? ⟨w.heap.size, k, none⟩ = some (.int .u32 (wz c1))) (by kernel_rfl) (show V3.drew.cell? ⟨w.heap.size, k, none⟩ = some (.int .u32 (wz c1)) from ck) (fun _ => ?_)
  have hS0 : V3.drew.cell? ⟨w.heap.size, k, none⟩ = some (.int .u32 (wz c1)) := ck
  have hct : V3.drew.cell? ⟨w.heap.size, j, none⟩ = some (.int .u32 (wz xb)) := cj
  refine wpAnyH_take (i := 0) (oi := { dst := some 39, op := Op.move (Operand.tmp 2), type := _, pos := _, after := _, guard := _ }) (v := .int .i64 (j : Int)) rfl (by kernel_rfl) (by kernel_rfl) (by kernel_rfl) (fun _ _ _ h => h) (Or.inl ⟨by rfl, fun V (hV : V.cell? ⟨w.heap.size, k, none⟩ = some (.int .u32 (wz c1))) => by go_simp⟩) hS0 ?_
  (try simp only [Act.put, List.setIfInBounds_toArray, List.set_cons_zero, List.set_cons_succ])
  refine wpAnyH_take (i := 1) (oi := { dst := some 40, op := Op.move (Operand.tmp 2), type := _, pos := _, after := _, guard := _ }) (v := .int .i64 (j : Int)) rfl (by kernel_rfl) (by kernel_rfl) (by kernel_rfl) (fun _ _ _ h => h) (Or.inl ⟨by rfl, fun V (hV : V.cell? ⟨w.heap.size, k, none⟩ = some (.int .u32 (wz c1))) => by go_simp⟩) hS0 ?_
  (try simp only [Act.put, List.setIfInBounds_toArray, List.set_cons_zero, List.set_cons_succ])
  refine wpAnyH_take (i := 2) (oi := { dst := some 41, op := Op.indexAddr 126 (Operand.tmp 5) (Operand.tmp 40), type := _, pos := _, after := _, guard := _ }) (v := .pointer (some ⟨w.heap.size, j, none⟩)) rfl (by kernel_rfl) (by kernel_rfl) (by kernel_rfl) (fun _ _ _ h => h) (Or.inl ⟨by rfl, fun V (hV : V.cell? ⟨w.heap.size, k, none⟩ = some (.int .u32 (wz c1))) => by go_simp⟩) hS0 ?_
  (try simp only [Act.put, List.setIfInBounds_toArray, List.set_cons_zero, List.set_cons_succ])
  refine wpAnyH_take (i := 4) (oi := { dst := some 43, op := Op.move (Operand.tmp 3), type := _, pos := _, after := _, guard := _ }) (v := .int .i64 (k : Int)) rfl (by kernel_rfl) (by kernel_rfl) (by kernel_rfl) (fun _ _ _ h => h) (Or.inl ⟨by rfl, fun V (hV : V.cell? ⟨w.heap.size, k, none⟩ = some (.int .u32 (wz c1))) => by go_simp⟩) hS0 ?_
  (try simp only [Act.put, List.setIfInBounds_toArray, List.set_cons_zero, List.set_cons_succ])
  refine wpAnyH_take (i := 5) (oi := { dst := some 44, op := Op.indexAddr 126 (Operand.tmp 5) (Operand.tmp 43), type := _, pos := _, after := _, guard := _ }) (v := .pointer (some ⟨w.heap.size, k, none⟩)) rfl (by kernel_rfl) (by kernel_rfl) (by kernel_rfl) (fun _ _ _ h => h) (Or.inl ⟨by rfl, fun V (hV : V.cell? ⟨w.heap.size, k, none⟩ = some (.int .u32 (wz c1))) => by go_simp⟩) hS0 ?_
  (try simp only [Act.put, List.setIfInBounds_toArray, List.set_cons_zero, List.set_cons_succ])
  refine wpAnyH_take (i := 6) (oi := { dst := some 45, op := Op.load 92 (Operand.tmp 44), type := _, pos := _, after := _, guard := _ }) (v := .int .u32 (wz c1)) rfl (by kernel_rfl) (by kernel_rfl) (by kernel_rfl) (fun _ _ _ h => h) (Or.inl ⟨by rfl, fun V (hV : V.cell? ⟨w.heap.size, k, none⟩ = some (.int .u32 (wz c1))) => by go_simp⟩) hS0 ?_
  (try simp only [Act.put, List.setIfInBounds_toArray, List.set_cons_zero, List.set_cons_succ])
  refine wpAnyH_ready (rs := [3]) (by kernel_rfl) (by simp) ?_
  refine AllReadyH.cons (o := { dst := some 42, op := Op.load 92 (Operand.tmp 41), type := _, pos := _, after := _, guard := _ }) rfl (fun K9 hK9 => ?_) AllReadyH.nil
  go_simp
  refine hK9.out _ _ hS0 (fun _ => ?_)
  clear hK9 K9
  (try simp only [Act.put, List.setIfInBounds_toArray, List.set_cons_zero, List.set_cons_succ])
  refine wpAnyH_take (i := 7) (oi := { dst := some 46, op := Op.binOp BinOp.xor 92 (Operand.tmp 42) (Operand.tmp 45) 92, type := _, pos := _, after := _, guard := _ }) (v := .int .u32 (wz (xb ^^^ c1))) rfl (by kernel_rfl) (by kernel_rfl) (by kernel_rfl) (fun _ _ _ h => h) (Or.inl ⟨by rfl, fun V (hV : V.cell? ⟨w.heap.size, k, none⟩ = some (.int .u32 (wz c1))) => by go_simp⟩) hS0 ?_
  (try simp only [Act.put, List.setIfInBounds_toArray, List.set_cons_zero, List.set_cons_succ])
  refine wpAnyH_ready (rs := [8]) (by kernel_rfl) (by simp) ?_
  refine AllReadyH.cons (o := { dst := some 47, op := Op.call { callee := Callee.value (Operand.func 102), args := #[(Operand.tmp 46), Operand.const (Value.int IntKind.u64 12)], argTypes := #[92, 146] }, type := _, pos := _, after := _, guard := _ }) rfl (fun K9 hK9 => ?_) AllReadyH.nil
  go_simp
  go_at_call 102
  refine (rturned_i _ _ _ ?_ ?_).mono ?_
  · decide
  · decide
  rintro e w9 ⟨rfl, rfl⟩
  go_wp2_with fail
  refine hK9.out _ _ hS0 (fun _ => ?_)
  clear hK9 K9
  (try simp only [Act.put, List.setIfInBounds_toArray, List.set_cons_zero, List.set_cons_succ])
  refine wpAnyH_take (i := 9) (oi := { dst := some 48, op := Op.indexAddr 126 (Operand.tmp 5) (Operand.tmp 39), type := _, pos := _, after := _, guard := _ }) (v := .pointer (some ⟨w.heap.size, j, none⟩)) rfl (by kernel_rfl) (by kernel_rfl) (by kernel_rfl) (fun _ _ _ h => h) (Or.inl ⟨by rfl, fun V (hV : V.cell? ⟨w.heap.size, k, none⟩ = some (.int .u32 (wz c1))) => by go_simp⟩) hS0 ?_
  (try simp only [Act.put, List.setIfInBounds_toArray, List.set_cons_zero, List.set_cons_succ])
  refine wpAnyH_ready (rs := [10]) (by kernel_rfl) (by simp) ?_
  refine AllReadyH.cons (o := { dst := none, op := Op.store 92 (Operand.tmp 48) (Operand.tmp 47), type := _, pos := _, after := _, guard := _ }) rfl (fun K9 hK9 => ?_) AllReadyH.nil
  go_simp
  refine hK9.out _ _ (by rw [World.cell?_drew, World.cell?_setCell_other _ _ _ _ (by simp <;> omega)]; exact hS0) (fun _ => ?_)
  clear hK9 K9
  (try simp only [Act.put, List.setIfInBounds_toArray, List.set_cons_zero, List.set_cons_succ])
  refine wpAnyH_done (by kernel_rfl) ?_ _
  refine NoPanic.normal ?_
  clear hS0 hct
  obtain ⟨b1, hb1⟩ : ∃ x : W, x = rol (xb ^^^ c1) 12 := ⟨_, rfl⟩
  rw [show rol (xb ^^^ c1) 12 = b1 from hb1.symm]
  obtain ⟨V4, hV4⟩ : ∃ V, V = (V3.setCell ⟨w.heap.size, j, none⟩ (.int .u32 (wz b1))).drew := ⟨_, rfl⟩
  rw [← hV4]
  have hB3 : Blk V4 w.heap.size 126 (((((s.set i a1).set l d1).set k c1).set j b1).map wv) := by rw [hV4]; exact ((unhide HB).setw j b1).drew
  have hR3 : Blk V4 (w.heap.size + 1) 126 ((List.replicate 16 (0 : W)).map wv) := by rw [hV4]; exact ((unhide HR).other _ _ (by simp)).drew
  have hg3 : w.grownBy V4 none := by rw [hV4]; exact gb_drew (gb_setCell (unhide HG) _ _ (Or.inl (Nat.le_refl _)))
  have ci2 : V4.cell? ⟨w.heap.size, i, none⟩ = some (.int .u32 (wz a1)) := by rw [hV4, World.cell?_drew, World.cell?_setCell_other _ _ _ _ (by simp <;> omega)]; exact ci
  have fi2 : V4.frozen? ⟨w.heap.size, i, none⟩ = false := hB3.fz i
  have cj2 : V4.cell? ⟨w.heap.size, j, none⟩ = some (.int .u32 (wz b1)) := by rw [hV4, World.cell?_drew]; exact World.cell?_setCell_same' _ _ _ (by rw [cj]; rfl)
  have fj2 : V4.frozen? ⟨w.heap.size, j, none⟩ = false := hB3.fz j
  have ck2 : V4.cell? ⟨w.heap.size, k, none⟩ = some (.int .u32 (wz c1)) := by rw [hV4, World.cell?_drew, World.cell?_setCell_other _ _ _ _ (by simp <;> omega)]; exact ck
  have fk2 : V4.frozen? ⟨w.heap.size, k, none⟩ = false := hB3.fz k
  have cl2 : V4.cell? ⟨w.heap.size, l, none⟩ = some (.int .u32 (wz d1)) := by rw [hV4, World.cell?_drew, World.cell?_setCell_other _ _ _ _ (by simp <;> omega)]; exact cl
  have fl2 : V4.frozen? ⟨w.heap.size, l, none⟩ = false := hB3.fz l
  clear ci cj ck cl fi fj fk fl HB HR HG
  have ci := ci2
  have fi := fi2
  have cj := cj2
  have fj := fj2
  have ck := ck2
  have fk := fk2
  have cl := cl2
  have fl := fl2
  have HB := hide hB3
  have HR := hide hR3
  have HG := hide hg3
  have Hb1 := hide hb1
  clear ci2 cj2 ck2 cl2 fi2 fj2 fk2 fl2 hB3 hR3 hg3 hV4 hb1
  go_wp2_with fail
  refine wp_region_noPanic ?_
  refine wp_region_held_drew (S := fun V => V.cell? ⟨w.heap.size, j, none⟩ = some (.int .u32 (wz b1))) (by kernel_rfl) (show V4.drew.cell? ⟨w.heap.size, j, none⟩ = some (.int .u32 (wz b1)) from cj) (fun _ => ?_)
  have hS0 : V4.drew.cell? ⟨w.heap.size, j, none⟩ = some (.int .u32 (wz b1)) := cj
  have hct : V4.drew.cell? ⟨w.heap.size, i, none⟩ = some (.int .u32 (wz a1)) := ci
  refine wpAnyH_take (i := 0) (oi := { dst := some 49, op := Op.move (Operand.tmp 1), type := _, pos := _, after := _, guard := _ }) (v := .int .i64 (i : Int)) rfl (by kernel_rfl) (by kernel_rfl) (by kernel_rfl) (fun _ _ _ h => h) (Or.inl ⟨by rfl, fun V (hV : V.cell? ⟨w.heap.size, j, none⟩ = some (.int .u32 (wz b1))) => by go_simp⟩) hS0 ?_
  (try simp only [Act.put, List.setIfInBounds_toArray, List.set_cons_zero, List.set_cons_succ])
  refine wpAnyH_take (i := 1) (oi := { dst := some 50, op := Op.move (Operand.tmp 1), type := _, pos := _, after := _, guard := _ }) (v := .int .i64 (i : Int)) rfl (by kernel_rfl) (by kernel_rfl) (by kernel_rfl) (fun _ _ _ h => h) (Or.inl ⟨by rfl, fun V (hV : V.cell? ⟨w.heap.size, j, none⟩ = some (.int .u32 (wz b1))) => by go_simp⟩) hS0 ?_
  (try simp only [Act.put, List.setIfInBounds_toArray, List.set_cons_zero, List.set_cons_succ])
  refine wpAnyH_take (i := 2) (oi := { dst := some 51, op := Op.indexAddr 126 (Operand.tmp 5) (Operand.tmp 50), type := _, pos := _, after := _, guard := _ }) (v := .pointer (some ⟨w.heap.size, i, none⟩)) rfl (by kernel_rfl) (by kernel_rfl) (by kernel_rfl) (fun _ _ _ h => h) (Or.inl ⟨by rfl, fun V (hV : V.cell? ⟨w.heap.size, j, none⟩ = some (.int .u32 (wz b1))) => by go_simp⟩) hS0 ?_
  (try simp only [Act.put, List.setIfInBounds_toArray, List.set_cons_zero, List.set_cons_succ])
  refine wpAnyH_take (i := 4) (oi := { dst := some 53, op := Op.move (Operand.tmp 2), type := _, pos := _, after := _, guard := _ }) (v := .int .i64 (j : Int)) rfl (by kernel_rfl) (by kernel_rfl) (by kernel_rfl) (fun _ _ _ h => h) (Or.inl ⟨by rfl, fun V (hV : V.cell? ⟨w.heap.size, j, none⟩ = some (.int .u32 (wz b1))) => by go_simp⟩) hS0 ?_
  (try simp only [Act.put, List.setIfInBounds_toArray, List.set_cons_zero, List.set_cons_succ])
  refine wpAnyH_take (i := 5) (oi := { dst := some 54, op := Op.indexAddr 126 (Operand.tmp 5) (Operand.tmp 53), type := _, pos := _, after := _, guard := _ }) (v := .pointer (some ⟨w.heap.size, j, none⟩)) rfl (by kernel_rfl) (by kernel_rfl) (by kernel_rfl) (fun _ _ _ h => h) (Or.inl ⟨by rfl, fun V (hV : V.cell? ⟨w.heap.size, j, none⟩ = some (.int .u32 (wz b1))) => by go_simp⟩) hS0 ?_
  (try simp only [Act.put, List.setIfInBounds_toArray, List.set_cons_zero, List.set_cons_succ])
  refine wpAnyH_take (i := 6) (oi := { dst := some 55, op := Op.load 92 (Operand.tmp 54), type := _, pos := _, after := _, guard := _ }) (v := .int .u32 (wz b1)) rfl (by kernel_rfl) (by kernel_rfl) (by kernel_rfl) (fun _ _ _ h => h) (Or.inl ⟨by rfl, fun V (hV : V.cell? ⟨w.heap.size, j, none⟩ = some (.int .u32 (wz b1))) => by go_simp⟩) hS0 ?_
  (try simp only [Act.put, List.setIfInBounds_toArray, List.set_cons_zero, List.set_cons_succ])
  refine wpAnyH_ready (rs := [3]) (by kernel_rfl) (by simp) ?_
  refine AllReadyH.cons (o := { dst := some 52, op := Op.load 92 (Operand.tmp 51), type := _, pos := _, after := _, guard := _ }) rfl (fun K9 hK9 => ?_) AllReadyH.nil
  go_simp
  refine hK9.out _ _ hS0 (fun _ => ?_)
  clear hK9 K9
  (try simp only [Act.put, List.setIfInBounds_toArray, List.set_cons_zero, List.set_cons_succ])
  refine wpAnyH_take (i := 7) (oi := { dst := some 56, op := Op.binOp BinOp.add 92 (Operand.tmp 52) (Operand.tmp 55) 92, type := _, pos := _, after := _, guard := _ }) (v := .int .u32 (wz (a1 + b1))) rfl (by kernel_rfl) (by kernel_rfl) (by kernel_rfl) (fun _ _ _ h => h) (Or.inl ⟨by rfl, fun V (hV : V.cell? ⟨w.heap.size, j, none⟩ = some (.int .u32 (wz b1))) => by go_simp⟩) hS0 ?_
  (try simp only [Act.put, List.setIfInBounds_toArray, List.set_cons_zero, List.set_cons_succ])
  refine wpAnyH_take (i := 8) (oi := { dst := some 57, op := Op.indexAddr 126 (Operand.tmp 5) (Operand.tmp 49), type := _, pos := _, after := _, guard := _ }) (v := .pointer (some ⟨w.heap.size, i, none⟩)) rfl (by kernel_rfl) (by kernel_rfl) (by kernel_rfl) (fun _ _ _ h => h) (Or.inl ⟨by rfl, fun V (hV : V.cell? ⟨w.heap.size, j, none⟩ = some (.int .u32 (wz b1))) => by go_simp⟩) hS0 ?_
  (try simp only [Act.put, List.setIfInBounds_toArray, List.set_cons_zero, List.set_cons_succ])
  refine wpAnyH_ready (rs := [9]) (by kernel_rfl) (by simp) ?_
  refine AllReadyH.cons (o := { dst := none, op := Op.store 92 (Operand.tmp 57) (Operand.tmp 56), type := _, pos := _, after := _, guard := _ }) rfl (fun K9 hK9 => ?_) AllReadyH.nil
  go_simp
  refine hK9.out _ _ (by rw [World.cell?_drew, World.cell?_setCell_other _ _ _ _ (by simp <;> omega)]; exact hS0) (fun _ => ?_)
  clear hK9 K9
  (try simp only [Act.put, List.setIfInBounds_toArray, List.set_cons_zero, List.set_cons_succ])
  refine wpAnyH_done (by kernel_rfl) ?_ _
  refine NoPanic.normal ?_
  clear hS0 hct
  obtain ⟨a2, ha2⟩ : ∃ x : W, x = a1 + b1 := ⟨_, rfl⟩
  rw [show a1 + b1 = a2 from ha2.symm]
  obtain ⟨V5, hV5⟩ : ∃ V, V = (V4.setCell ⟨w.heap.size, i, none⟩ (.int .u32 (wz a2))).drew := ⟨_, rfl⟩
  rw [← hV5]
  have hB4 : Blk V5 w.heap.size 126 ((((((s.set i a1).set l d1).set k c1).set j b1).set i a2).map wv) := by rw [hV5]; exact ((unhide HB).setw i a2).drew
  have hR4 : Blk V5 (w.heap.size + 1) 126 ((List.replicate 16 (0 : W)).map wv) := by rw [hV5]; exact ((unhide HR).other _ _ (by simp)).drew
  have hg4 : w.grownBy V5 none := by rw [hV5]; exact gb_drew (gb_setCell (unhide HG) _ _ (Or.inl (Nat.le_refl _)))
  have ci2 : V5.cell? ⟨w.heap.size, i, none⟩ = some (.int .u32 (wz a2)) := by rw [hV5, World.cell?_drew]; exact World.cell?_setCell_same' _ _ _ (by rw [ci]; rfl)
  have fi2 : V5.frozen? ⟨w.heap.size, i, none⟩ = false := hB4.fz i
  have cj2 : V5.cell? ⟨w.heap.size, j, none⟩ = some (.int .u32 (wz b1)) := by rw [hV5, World.cell?_drew, World.cell?_setCell_other _ _ _ _ (by simp <;> omega)]; exact cj
  have fj2 : V5.frozen? ⟨w.heap.size, j, none⟩ = false := hB4.fz j
  have ck2 : V5.cell? ⟨w.heap.size, k, none⟩ = some (.int .u32 (wz c1)) := by rw [hV5, World.cell?_drew, World.cell?_setCell_other _ _ _ _ (by simp <;> omega)]; exact ck
  have fk2 : V5.frozen? ⟨w.heap.size, k, none⟩ = false := hB4.fz k
  have cl2 : V5.cell? ⟨w.heap.size, l, none⟩ = some (.int .u32 (wz d1)) := by rw [hV5, World.cell?_drew, World.cell?_setCell_other _ _ _ _ (by simp <;> omega)]; exact cl
  have fl2 : V5.frozen? ⟨w.heap.size, l, none⟩ = false := hB4.fz l
  clear ci cj ck cl fi fj fk fl HB HR HG
  have ci := ci2
  have fi := fi2
  have cj := cj2
  have fj := fj2
  have ck := ck2
  have fk := fk2
  have cl := cl2
  have fl := fl2
  have HB := hide hB4
  have HR := hide hR4
  have HG := hide hg4
  have Ha2 := hide ha2
  clear ci2 cj2 ck2 cl2 fi2 fj2 fk2 fl2 hB4 hR4 hg4 hV5 ha2
  go_wp2_with fail
  refine wp_region_noPanic ?_
  refine wp_region_held_drew (S := fun V => V.cell? ⟨w.heap.size, i, none⟩ = some (.int .u32 (wz a2))) (by kernel_rfl) (show V5.drew.cell? ⟨w.heap.size, i, none⟩ = some (.int .u32 (wz a2)) from ci) (fun _ => ?_)
  have hS0 : V5.drew.cell? ⟨w.heap.size, i, none⟩ = some (.int .u32 (wz a2)) := ci
  have hct : V5.drew.cell? ⟨w.heap.size, l, none⟩ = some (.int .u32 (wz d1)) := cl
  refine wpAnyH_take (i := 0) (oi := { dst := some 58, op := Op.move (Operand.tmp 4), type := _, pos := _, after := _, guard := _ }) (v := .int .i64 (l : Int)) rfl (by kernel_rfl) (by kernel_rfl) (by kernel_rfl) (fun _ _ _ h => h) (Or.inl ⟨by rfl, fun V (hV : V.cell? ⟨w.heap.size, i, none⟩ = some (.int .u32 (wz a2))) => by go_simp⟩) hS0 ?_
  (try simp only [Act.put, List.setIfInBounds_toArray, List.set_cons_zero, List.set_cons_succ])
  refine wpAnyH_take (i := 1) (oi := { dst := some 59, op := Op.move (Operand.tmp 4), type := _, pos := _, after := _, guard := _ }) (v := .int .i64 (l : Int)) rfl (by kernel_rfl) (by kernel_rfl) (by kernel_rfl) (fun _ _ _ h => h) (Or.inl ⟨by rfl, fun V (hV : V.cell? ⟨w.heap.size, i, none⟩ = some (.int .u32 (wz a2))) => by go_simp⟩) hS0 ?_
  (try simp only [Act.put, List.setIfInBounds_toArray, List.set_cons_zero, List.set_cons_succ])
  refine wpAnyH_take (i := 2) (oi := { dst := some 60, op := Op.indexAddr 126 (Operand.tmp 5) (Operand.tmp 59), type := _, pos := _, after := _, guard := _ }) (v := .pointer (some ⟨w.heap.size, l, none⟩)) rfl (by kernel_rfl) (by kernel_rfl) (by kernel_rfl) (fun _ _ _ h => h) (Or.inl ⟨by rfl, fun V (hV : V.cell? ⟨w.heap.size, i, none⟩ = some (.int .u32 (wz a2))) => by go_simp⟩) hS0 ?_
  (try simp only [Act.put, List.setIfInBounds_toArray, List.set_cons_zero, List.set_cons_succ])
  refine wpAnyH_take (i := 4) (oi := { dst := some 62, op := Op.move (Operand.tmp 1), type := _, pos := _, after := _, guard := _ }) (v := .int .i64 (i : Int)) rfl (by kernel_rfl) (by kernel_rfl) (by kernel_rfl) (fun _ _ _ h => h) (Or.inl ⟨by rfl, fun V (hV : V.cell? ⟨w.heap.size, i, none⟩ = some (.int .u32 (wz a2))) => by go_simp⟩) hS0 ?_
  (try simp only [Act.put, List.setIfInBounds_toArray, List.set_cons_zero, List.set_cons_succ])
  refine wpAnyH_take (i := 5) (oi := { dst := some 63, op := Op.indexAddr 126 (Operand.tmp 5) (Operand.tmp 62), type := _, pos := _, after := _, guard := _ }) (v := .pointer (some ⟨w.heap.size, i, none⟩)) rfl (by kernel_rfl) (by kernel_rfl) (by kernel_rfl) (fun _ _ _ h => h) (Or.inl ⟨by rfl, fun V (hV : V.cell? ⟨w.heap.size, i, none⟩ = some (.int .u32 (wz a2))) => by go_simp⟩) hS0 ?_
  (try simp only [Act.put, List.setIfInBounds_toArray, List.set_cons_zero, List.set_cons_succ])
  refine wpAnyH_take (i := 6) (oi := { dst := some 64, op := Op.load 92 (Operand.tmp 63), type := _, pos := _, after := _, guard := _ }) (v := .int .u32 (wz a2)) rfl (by kernel_rfl) (by kernel_rfl) (by kernel_rfl) (fun _ _ _ h => h) (Or.inl ⟨by rfl, fun V (hV : V.cell? ⟨w.heap.size, i, none⟩ = some (.int .u32 (wz a2))) => by go_simp⟩) hS0 ?_
  (try simp only [Act.put, List.setIfInBounds_toArray, List.set_cons_zero, List.set_cons_succ])
  refine wpAnyH_ready (rs := [3]) (by kernel_rfl) (by simp) ?_
  refine AllReadyH.cons (o := { dst := some 61, op := Op.load 92 (Operand.tmp 60), type := _, pos := _, after := _, guard := _ }) rfl (fun K9 hK9 => ?_) AllReadyH.nil
  go_simp
  refine hK9.out _ _ hS0 (fun _ => ?_)
  clear hK9 K9
  (try simp only [Act.put, List.setIfInBounds_toArray, List.set_cons_zero, List.set_cons_succ])
  refine wpAnyH_take (i := 7) (oi := { dst := some 65, op := Op.binOp BinOp.xor 92 (Operand.tmp 61) (Operand.tmp 64) 92, type := _, pos := _, after := _, guard := _ }) (v := .int .u32 (wz (d1 ^^^ a2))) rfl (by kernel_rfl) (by kernel_rfl) (by kernel_rfl) (fun _ _ _ h => h) (Or.inl ⟨by rfl, fun V (hV : V.cell? ⟨w.heap.size, i, none⟩ = some (.int .u32 (wz a2))) => by go_simp⟩) hS0 ?_
  (try simp only [Act.put, List.setIfInBounds_toArray, List.set_cons_zero, List.set_cons_succ])
  refine wpAnyH_ready (rs := [8]) (by kernel_rfl) (by simp) ?_
  refine AllReadyH.cons (o := { dst := some 66, op := Op.call { callee := Callee.value (Operand.func 102), args := #[(Operand.tmp 65), Operand.const (Value.int IntKind.u64 8)], argTypes := #[92, 146] }, type := _, pos := _, after := _, guard := _ }) rfl (fun K9 hK9 => ?_) AllReadyH.nil
  go_simp
  go_at_call 102
  refine (rturned_i _ _ _ ?_ ?_).mono ?_
  · decide
  · decide
  rintro e w9 ⟨rfl, rfl⟩
  go_wp2_with fail
  refine hK9.out _ _ hS0 (fun _ => ?_)
  clear hK9 K9
  (try simp only [Act.put, List.setIfInBounds_toArray, List.set_cons_zero, List.set_cons_succ])
  refine wpAnyH_take (i := 9) (oi := { dst := some 67, op := Op.indexAddr 126 (Operand.tmp 5) (Operand.tmp 58), type := _, pos := _, after := _, guard := _ }) (v := .pointer (some ⟨w.heap.size, l, none⟩)) rfl (by kernel_rfl) (by kernel_rfl) (by kernel_rfl) (fun _ _ _ h => h) (Or.inl ⟨by rfl, fun V (hV : V.cell? ⟨w.heap.size, i, none⟩ = some (.int .u32 (wz a2))) => by go_simp⟩) hS0 ?_
  (try simp only [Act.put, List.setIfInBounds_toArray, List.set_cons_zero, List.set_cons_succ])
  refine wpAnyH_ready (rs := [10]) (by kernel_rfl) (by simp) ?_
  refine AllReadyH.cons (o := { dst := none, op := Op.store 92 (Operand.tmp 67) (Operand.tmp 66), type := _, pos := _, after := _, guard := _ }) rfl (fun K9 hK9 => ?_) AllReadyH.nil
  go_simp
  refine hK9.out _ _ (by rw [World.cell?_drew, World.cell?_setCell_other _ _ _ _ (by simp <;> omega)]; exact hS0) (fun _ => ?_)
  clear hK9 K9
  (try simp only [Act.put, List.setIfInBounds_toArray, List.set_cons_zero, List.set_cons_succ])
  refine wpAnyH_done (by kernel_rfl) ?_ _
  refine NoPanic.normal ?_
  clear hS0 hct
  obtain ⟨d2, hd2⟩ : ∃ x : W, x = rol (d1 ^^^ a2) 8 := ⟨_, rfl⟩
  rw [show rol (d1 ^^^ a2) 8 = d2 from hd2.symm]
  obtain ⟨V6, hV6⟩ : ∃ V, V = (V5.setCell ⟨w.heap.size, l, none⟩ (.int .u32 (wz d2))).drew := ⟨_, rfl⟩
  rw [← hV6]
  have hB5 : Blk V6 w.heap.size 126 (((((((s.set i a1).set l d1).set k c1).set j b1).set i a2).set l d2).map wv) := by rw [hV6]; exact ((unhide HB).setw l d2).drew
  have hR5 : Blk V6 (w.heap.size + 1) 126 ((List.replicate 16 (0 : W)).map wv) := by rw [hV6]; exact ((unhide HR).other _ _ (by simp)).drew
  have hg5 : w.grownBy V6 none := by rw [hV6]; exact gb_drew (gb_setCell (unhide HG) _ _ (Or.inl (Nat.le_refl _)))
  have ci2 : V6.cell? ⟨w.heap.size, i, none⟩ = some (.int .u32 (wz a2)) := by rw [hV6, World.cell?_drew, World.cell?_setCell_other _ _ _ _ (by simp <;> omega)]; exact ci
  have fi2 : V6.frozen? ⟨w.heap.size, i, none⟩ = false := hB5.fz i
  have cj2 : V6.cell? ⟨w.heap.size, j, none⟩ = some (.int .u32 (wz b1)) := by rw [hV6, World.cell?_drew, World.cell?_setCell_other _ _ _ _ (by simp <;> omega)]; exact cj
  have fj2 : V6.frozen? ⟨w.heap.size, j, none⟩ = false := hB5.fz j
  have ck2 : V6.cell? ⟨w.heap.size, k, none⟩ = some (.int .u32 (wz c1)) := by rw [hV6, World.cell?_drew, World.cell?_setCell_other _ _ _ _ (by simp <;> omega)]; exact ck
  have fk2 : V6.frozen? ⟨w.heap.size, k, none⟩ = false := hB5.fz k
  have cl2 : V6.cell? ⟨w.heap.size, l, none⟩ = some (.int .u32 (wz d2)) := by rw [hV6, World.cell?_drew]; exact World.cell?_setCell_same' _ _ _ (by rw [cl]; rfl)
  have fl2 : V6.frozen? ⟨w.heap.size, l, none⟩ = false := hB5.fz l
  clear ci cj ck cl fi fj fk fl HB HR HG
  have ci := ci2
  have fi := fi2
  have cj := cj2
  have fj := fj2
  have ck := ck2
  have fk := fk2
  have cl := cl2
  have fl := fl2
  have HB := hide hB5
  have HR := hide hR5
  have HG := hide hg5
  have Hd2 := hide hd2
  clear ci2 cj2 ck2 cl2 fi2 fj2 fk2 fl2 hB5 hR5 hg5 hV6 hd2
  go_wp2_with fail
  refine wp_region_noPanic ?_
  refine wp_region_held_drew (S := fun V => V.cell? ⟨w.heap.size, l, none⟩ = some (.int .u32 (wz d2))) (by kernel_rfl) (show V6.drew.cell? ⟨w.heap.size, l, none⟩ = some (.int .u32 (wz d2)) from cl) (fun _ => ?_)
  have hS0 : V6.drew.cell? ⟨w.heap.size, l, none⟩ = some (.int .u32 (wz d2)) := cl
  have hct : V6.drew.cell? ⟨w.heap.size, k, none⟩ = some (.int .u32 (wz c1)) := ck
  refine wpAnyH_take (i := 0) (oi := { dst := some 68, op := Op.move (Operand.tmp 3), type := _, pos := _, after := _, guard := _ }) (v := .int .i64 (k : Int)) rfl (by kernel_rfl) (by kernel_rfl) (by kernel_rfl) (fun _ _ _ h => h) (Or.inl ⟨by rfl, fun V (hV : V.cell? ⟨w.heap.size, l, none⟩ = some (.int .u32 (wz d2))) => by go_simp⟩) hS0 ?_
  (try simp only [Act.put, List.setIfInBounds_toArray, List.set_cons_zero, List.set_cons_succ])
  refine wpAnyH_take (i := 1) (oi := { dst := some 69, op := Op.move (Operand.tmp 3), type := _, pos := _, after := _, guard := _ }) (v := .int .i64 (k : Int)) rfl (by kernel_rfl) (by kernel_rfl) (by kernel_rfl) (fun _ _ _ h => h) (Or.inl ⟨by rfl, fun V (hV : V.cell? ⟨w.heap.size, l, none⟩ = some (.int .u32 (wz d2))) => by go_simp⟩) hS0 ?_
  (try simp only [Act.put, List.setIfInBounds_toArray, List.set_cons_zero, List.set_cons_succ])
  refine wpAnyH_take (i := 2) (oi := { dst := some 70, op := Op.indexAddr 126 (Operand.tmp 5) (Operand.tmp 69), type := _, pos := _, after := _, guard := _ }) (v := .pointer (some ⟨w.heap.size, k, none⟩)) rfl (by kernel_rfl) (by kernel_rfl) (by kernel_rfl) (fun _ _ _ h => h) (Or.inl ⟨by rfl, fun V (hV : V.cell? ⟨w.heap.size, l, none⟩ = some (.int .u32 (wz d2))) => by go_simp⟩) hS0 ?_
  (try simp only [Act.put, List.setIfInBounds_toArray, List.set_cons_zero, List.set_cons_succ])
  refine wpAnyH_take (i := 4) (oi := { dst := some 72, op := Op.move (Operand.tmp 4), type := _, pos := _, after := _, guard := _ }) (v := .int .i64 (l : Int)) rfl (by kernel_rfl) (by kernel_rfl) (by kernel_rfl) (fun _ _ _ h => h) (Or.inl ⟨by rfl, fun V (hV : V.cell? ⟨w.heap.size, l, none⟩ = some (.int .u32 (wz d2))) => by go_simp⟩) hS0 ?_
  (try simp only [Act.put, List.setIfInBounds_toArray, List.set_cons_zero, List.set_cons_succ])
  refine wpAnyH_take (i := 5) (oi := { dst := some 73, op := Op.indexAddr 126 (Operand.tmp 5) (Operand.tmp 72), type := _, pos := _, after := _, guard := _ }) (v := .pointer (some ⟨w.heap.size, l, none⟩)) rfl (by kernel_rfl) (by kernel_rfl) (by kernel_rfl) (fun _ _ _ h => h) (Or.inl ⟨by rfl, fun V (hV : V.cell? ⟨w.heap.size, l, none⟩ = some (.int .u32 (wz d2))) => by go_simp⟩) hS0 ?_
  (try simp only [Act.put, List.setIfInBounds_toArray, List.set_cons_zero, List.set_cons_succ])
  refine wpAnyH_take (i := 6) (oi := { dst := some 74, op := Op.load 92 (Operand.tmp 73), type := _, pos := _, after := _, guard := _ }) (v := .int .u32 (wz d2)) rfl (by kernel_rfl) (by kernel_rfl) (by kernel_rfl) (fun _ _ _ h => h) (Or.inl ⟨by rfl, fun V (hV : V.cell? ⟨w.heap.size, l, none⟩ = some (.int .u32 (wz d2))) => by go_simp⟩) hS0 ?_
  (try simp only [Act.put, List.setIfInBounds_toArray, List.set_cons_zero, List.set_cons_succ])
  refine wpAnyH_ready (rs := [3]) (by kernel_rfl) (by simp) ?_
  refine AllReadyH.cons (o := { dst := some 71, op := Op.load 92 (Operand.tmp 70), type := _, pos := _, after := _, guard := _ }) rfl (fun K9 hK9 => ?_) AllReadyH.nil
  go_simp
  refine hK9.out _ _ hS0 (fun _ => ?_)
  clear hK9 K9
  (try simp only [Act.put, List.setIfInBounds_toArray, List.set_cons_zero, List.set_cons_succ])
  refine wpAnyH_take (i := 7) (oi := { dst := some 75, op := Op.binOp BinOp.add 92 (Operand.tmp 71) (Operand.tmp 74) 92, type := _, pos := _, after := _, guard := _ }) (v := .int .u32 (wz (c1 + d2))) rfl (by kernel_rfl) (by kernel_rfl) (by kernel_rfl) (fun _ _ _ h => h) (Or.inl ⟨by rfl, fun V (hV : V.cell? ⟨w.heap.size, l, none⟩ = some (.int .u32 (wz d2))) => by go_simp⟩) hS0 ?_
  (try simp only [Act.put, List.setIfInBounds_toArray, List.set_cons_zero, List.set_cons_succ])
  refine wpAnyH_take (i := 8) (oi := { dst := some 76, op := Op.indexAddr 126 (Operand.tmp 5) (Operand.tmp 68), type := _, pos := _, after := _, guard := _ }) (v := .pointer (some ⟨w.heap.size, k, none⟩)) rfl (by kernel_rfl) (by kernel_rfl) (by kernel_rfl) (fun _ _ _ h => h) (Or.inl ⟨by rfl, fun V (hV : V.cell? ⟨w.heap.size, l, none⟩ = some (.int .u32 (wz d2))) => by go_simp⟩) hS0 ?_
  (try simp only [Act.put, List.setIfInBounds_toArray, List.set_cons_zero, List.set_cons_succ])
  refine wpAnyH_ready (rs := [9]) (by kernel_rfl) (by simp) ?_
  refine AllReadyH.cons (o := { dst := none, op := Op.store 92 (Operand.tmp 76) (Operand.tmp 75), type := _, pos := _, after := _, guard := _ }) rfl (fun K9 hK9 => ?_) AllReadyH.nil
  go_simp
  refine hK9.out _ _ (by rw [World.cell?_drew, World.cell?_setCell_other _ _ _ _ (by simp <;> omega)]; exact hS0) (fun _ => ?_)
  clear hK9 K9
  (try simp only [Act.put, List.setIfInBounds_toArray, List.set_cons_zero, List.set_cons_succ])
  refine wpAnyH_done (by kernel_rfl) ?_ _
  refine NoPanic.normal ?_
  clear hS0 hct
  obtain ⟨c2, hc2⟩ : ∃ x : W, x = c1 + d2 := ⟨_, rfl⟩
  rw [show c1 + d2 = c2 from hc2.symm]
  obtain ⟨V7, hV7⟩ : ∃ V, V = (V6.setCell ⟨w.heap.size, k, none⟩ (.int .u32 (wz c2))).drew := ⟨_, rfl⟩
  rw [← hV7]
  have hB6 : Blk V7 w.heap.size 126 ((((((((s.set i a1).set l d1).set k c1).set j b1).set i a2).set l d2).set k c2).map wv) := by rw [hV7]; exact ((unhide HB).setw k c2).drew
  have hR6 : Blk V7 (w.heap.size + 1) 126 ((List.replicate 16 (0 : W)).map wv) := by rw [hV7]; exact ((unhide HR).other _ _ (by simp)).drew
  have hg6 : w.grownBy V7 none := by rw [hV7]; exact gb_drew (gb_setCell (unhide HG) _ _ (Or.inl (Nat.le_refl _)))
  have ci2 : V7.cell? ⟨w.heap.size, i, none⟩ = some (.int .u32 (wz a2)) := by rw [hV7, World.cell?_drew, World.cell?_setCell_other _ _ _ _ (by simp <;> omega)]; exact ci
  have fi2 : V7.frozen? ⟨w.heap.size, i, none⟩ = false := hB6.fz i
  have cj2 : V7.cell? ⟨w.heap.size, j, none⟩ = some (.int .u32 (wz b1)) := by rw [hV7, World.cell?_drew, World.cell?_setCell_other _ _ _ _ (by simp <;> omega)]; exact cj
  have fj2 : V7.frozen? ⟨w.heap.size, j, none⟩ = false := hB6.fz j
  have ck2 : V7.cell? ⟨w.heap.size, k, none⟩ = some (.int .u32 (wz c2)) := by rw [hV7, World.cell?_drew]; exact World.cell?_setCell_same' _ _ _ (by rw [ck]; rfl)
  have fk2 : V7.frozen? ⟨w.heap.size, k, none⟩ = false := hB6.fz k
  have cl2 : V7.cell? ⟨w.heap.size, l, none⟩ = some (.int .u32 (wz d2)) := by rw [hV7, World.cell?_drew, World.cell?_setCell_other _ _ _ _ (by simp <;> omega)]; exact cl
  have fl2 : V7.frozen? ⟨w.heap.size, l, none⟩ = false := hB6.fz l
  clear ci cj ck cl fi fj fk fl HB HR HG
  have ci := ci2
  have fi := fi2
  have cj := cj2
  have fj := fj2
  have ck := ck2
  have fk := fk2
  have cl := cl2
  have fl := fl2
  have HB := hide hB6
  have HR := hide hR6
  have HG := hide hg6
  have Hc2 := hide hc2
  clear ci2 cj2 ck2 cl2 fi2 fj2 fk2 fl2 hB6 hR6 hg6 hV7 hc2
  go_wp2_with fail
  refine wp_region_noPanic ?_
  refine wp_region_held_drew (S := fun V => V.cell? ⟨w.heap.size, k, none⟩ = some (.int .u32 (wz c2))) (by kernel_rfl) (show V7.drew.cell? ⟨w.heap.size, k, none⟩ = some (.int .u32 (wz c2)) from ck) (fun _ => ?_)
  have hS0 : V7.drew.cell? ⟨w.heap.size, k, none⟩ = some (.int .u32 (wz c2)) := ck
  have hct : V7.drew.cell? ⟨w.heap.size, j, none⟩ = some (.int .u32 (wz b1)) := cj
  refine wpAnyH_take (i := 0) (oi := { dst := some 77, op := Op.move (Operand.tmp 2), type := _, pos := _, after := _, guard := _ }) (v := .int .i64 (j : Int)) rfl (by kernel_rfl) (by kernel_rfl) (by kernel_rfl) (fun _ _ _ h => h) (Or.inl ⟨by rfl, fun V (hV : V.cell? ⟨w.heap.size, k, none⟩ = some (.int .u32 (wz c2))) => by go_simp⟩) hS0 ?_
  (try simp only [Act.put, List.setIfInBounds_toArray, List.set_cons_zero, List.set_cons_succ])
  refine wpAnyH_take (i := 1) (oi := { dst := some 78, op := Op.move (Operand.tmp 2), type := _, pos := _, after := _, guard := _ }) (v := .int .i64 (j : Int)) rfl (by kernel_rfl) (by kernel_rfl) (by kernel_rfl) (fun _ _ _ h => h) (Or.inl ⟨by rfl, fun V (hV : V.cell? ⟨w.heap.size, k, none⟩ = some (.int .u32 (wz c2))) => by go_simp⟩) hS0 ?_
  (try simp only [Act.put, List.setIfInBounds_toArray, List.set_cons_zero, List.set_cons_succ])
  refine wpAnyH_take (i := 2) (oi := { dst := some 79, op := Op.indexAddr 126 (Operand.tmp 5) (Operand.tmp 78), type := _, pos := _, after := _, guard := _ }) (v := .pointer (some ⟨w.heap.size, j, none⟩)) rfl (by kernel_rfl) (by kernel_rfl) (by kernel_rfl) (fun _ _ _ h => h) (Or.inl ⟨by rfl, fun V (hV : V.cell? ⟨w.heap.size, k, none⟩ = some (.int .u32 (wz c2))) => by go_simp⟩) hS0 ?_
  (try simp only [Act.put, List.setIfInBounds_toArray, List.set_cons_zero, List.set_cons_succ])
  refine wpAnyH_take (i := 4) (oi := { dst := some 81, op := Op.move (Operand.tmp 3), type := _, pos := _, after := _, guard := _ }) (v := .int .i64 (k : Int)) rfl (by kernel_rfl) (by kernel_rfl) (by kernel_rfl) (fun _ _ _ h => h) (Or.inl ⟨by rfl, fun V (hV : V.cell? ⟨w.heap.size, k, none⟩ = some (.int .u32 (wz c2))) => by go_simp⟩) hS0 ?_
  (try simp only [Act.put, List.setIfInBounds_toArray, List.set_cons_zero, List.set_cons_succ])
  refine wpAnyH_take (i := 5) (oi := { dst := some 82, op := Op.indexAddr 126 (Operand.tmp 5) (Operand.tmp 81), type := _, pos := _, after := _, guard := _ }) (v := .pointer (some ⟨w.heap.size, k, none⟩)) rfl (by kernel_rfl) (by kernel_rfl) (by kernel_rfl) (fun _ _ _ h => h) (Or.inl ⟨by rfl, fun V (hV : V.cell? ⟨w.heap.size, k, none⟩ = some (.int .u32 (wz c2))) => by go_simp⟩) hS0 ?_
  (try simp only [Act.put, List.setIfInBounds_toArray, List.set_cons_zero, List.set_cons_succ])
  refine wpAnyH_take (i := 6) (oi := { dst := some 83, op := Op.load 92 (Operand.tmp 82), type := _, pos := _, after := _, guard := _ }) (v := .int .u32 (wz c2)) rfl (by kernel_rfl) (by kernel_rfl) (by kernel_rfl) (fun _ _ _ h => h) (Or.inl ⟨by rfl, fun V (hV : V.cell? ⟨w.heap.size, k, none⟩ = some (.int .u32 (wz c2))) => by go_simp⟩) hS0 ?_
  (try simp only [Act.put, List.setIfInBounds_toArray, List.set_cons_zero, List.set_cons_succ])
  refine wpAnyH_ready (rs := [3]) (by kernel_rfl) (by simp) ?_
  refine AllReadyH.cons (o := { dst := some 80, op := Op.load 92 (Operand.tmp 79), type := _, pos := _, after := _, guard := _ }) rfl (fun K9 hK9 => ?_) AllReadyH.nil
  go_simp
  refine hK9.out _ _ hS0 (fun _ => ?_)
  clear hK9 K9
  (try simp only [Act.put, List.setIfInBounds_toArray, List.set_cons_zero, List.set_cons_succ])
  refine wpAnyH_take (i := 7) (oi := { dst := some 84, op := Op.binOp BinOp.xor 92 (Operand.tmp 80) (Operand.tmp 83) 92, type := _, pos := _, after := _, guard := _ }) (v := .int .u32 (wz (b1 ^^^ c2))) rfl (by kernel_rfl) (by kernel_rfl) (by kernel_rfl) (fun _ _ _ h => h) (Or.inl ⟨by rfl, fun V (hV : V.cell? ⟨w.heap.size, k, none⟩ = some (.int .u32 (wz c2))) => by go_simp⟩) hS0 ?_
  (try simp only [Act.put, List.setIfInBounds_toArray, List.set_cons_zero, List.set_cons_succ])
  refine wpAnyH_ready (rs := [8]) (by kernel_rfl) (by simp) ?_
  refine AllReadyH.cons (o := { dst := some 85, op := Op.call { callee := Callee.value (Operand.func 102), args := #[(Operand.tmp 84), Operand.const (Value.int IntKind.u64 7)], argTypes := #[92, 146] }, type := _, pos := _, after := _, guard := _ }) rfl (fun K9 hK9 => ?_) AllReadyH.nil
  go_simp
  go_at_call 102
  refine (rturned_i _ _ _ ?_ ?_).mono ?_
  · decide
  · decide
  rintro e w9 ⟨rfl, rfl⟩
  go_wp2_with fail
  refine hK9.out _ _ hS0 (fun _ => ?_)
  clear hK9 K9
  (try simp only [Act.put, List.setIfInBounds_toArray, List.set_cons_zero, List.set_cons_succ])
  refine wpAnyH_take (i := 9) (oi := { dst := some 86, op := Op.indexAddr 126 (Operand.tmp 5) (Operand.tmp 77), type := _, pos := _, after := _, guard := _ }) (v := .pointer (some ⟨w.heap.size, j, none⟩)) rfl (by kernel_rfl) (by kernel_rfl) (by kernel_rfl) (fun _ _ _ h => h) (Or.inl ⟨by rfl, fun V (hV : V.cell? ⟨w.heap.size, k, none⟩ = some (.int .u32 (wz c2))) => by go_simp⟩) hS0 ?_
  (try simp only [Act.put, List.setIfInBounds_toArray, List.set_cons_zero, List.set_cons_succ])
  refine wpAnyH_ready (rs := [10]) (by kernel_rfl) (by simp) ?_
  refine AllReadyH.cons (o := { dst := none, op := Op.store 92 (Operand.tmp 86) (Operand.tmp 85), type := _, pos := _, after := _, guard := _ }) rfl (fun K9 hK9 => ?_) AllReadyH.nil
  go_simp
  refine hK9.out _ _ (by rw [World.cell?_drew, World.cell?_setCell_other _ _ _ _ (by simp <;> omega)]; exact hS0) (fun _ => ?_)
  clear hK9 K9
  (try simp only [Act.put, List.setIfInBounds_toArray, List.set_cons_zero, List.set_cons_succ])
  refine wpAnyH_done (by kernel_rfl) ?_ _
  refine NoPanic.normal ?_
  clear hS0 hct
  obtain ⟨b2, hb2⟩ : ∃ x : W, x = rol (b1 ^^^ c2) 7 := ⟨_, rfl⟩
  rw [show rol (b1 ^^^ c2) 7 = b2 from hb2.symm]
  obtain ⟨V8, hV8⟩ : ∃ V, V = (V7.setCell ⟨w.heap.size, j, none⟩ (.int .u32 (wz b2))).drew := ⟨_, rfl⟩
  rw [← hV8]
  have hB7 : Blk V8 w.heap.size 126 (((((((((s.set i a1).set l d1).set k c1).set j b1).set i a2).set l d2).set k c2).set j b2).map wv) := by rw [hV8]; exact ((unhide HB).setw j b2).drew
  have hR7 : Blk V8 (w.heap.size + 1) 126 ((List.replicate 16 (0 : W)).map wv) := by rw [hV8]; exact ((unhide HR).other _ _ (by simp)).drew
  have hg7 : w.grownBy V8 none := by rw [hV8]; exact gb_drew (gb_setCell (unhide HG) _ _ (Or.inl (Nat.le_refl _)))
  have ci2 : V8.cell? ⟨w.heap.size, i, none⟩ = some (.int .u32 (wz a2)) := by rw [hV8, World.cell?_drew, World.cell?_setCell_other _ _ _ _ (by simp <;> omega)]; exact ci
  have fi2 : V8.frozen? ⟨w.heap.size, i, none⟩ = false := hB7.fz i
  have cj2 : V8.cell? ⟨w.heap.size, j, none⟩ = some (.int .u32 (wz b2)) := by rw [hV8, World.cell?_drew]; exact World.cell?_setCell_same' _ _ _ (by rw [cj]; rfl)
  have fj2 : V8.frozen? ⟨w.heap.size, j, none⟩ = false := hB7.fz j
  have ck2 : V8.cell? ⟨w.heap.size, k, none⟩ = some (.int .u32 (wz c2)) := by rw [hV8, World.cell?_drew, World.cell?_setCell_other _ _ _ _ (by simp <;> omega)]; exact ck
  have fk2 : V8.frozen? ⟨w.heap.size, k, none⟩ = false := hB7.fz k
  have cl2 : V8.cell? ⟨w.heap.size, l, none⟩ = some (.int .u32 (wz d2)) := by rw [hV8, World.cell?_drew, World.cell?_setCell_other _ _ _ _ (by simp <;> omega)]; exact cl
  have fl2 : V8.frozen? ⟨w.heap.size, l, none⟩ = false := hB7.fz l
  clear ci cj ck cl fi fj fk fl HB HR HG
  have ci := ci2
  have fi := fi2
  have cj := cj2
  have fj := fj2
  have ck := ck2
  have fk := fk2
  have cl := cl2
  have fl := fl2
  have HB := hide hB7
  have HR := hide hR7
  have HG := hide hg7
  have Hb2 := hide hb2
  clear ci2 cj2 ck2 cl2 fi2 fj2 fk2 fl2 hB7 hR7 hg7 hV8 hb2
  have e : quartL s i j k l = (((s.set i a2).set j b2).set k c2).set l d2 := by
    unfold quartL put4
    rw [← unhide HA, ← unhide HBB, ← unhide HC, ← unhide HD, unhide Hb2, unhide Hc2, unhide Hd2, unhide Ha2, unhide Hb1, unhide Hc1, unhide Hd1, unhide Ha1]
    rfl
  have hBf := unhide HB
  rw [set8 s i j k l hij hik hil hjk hjl hkl, ← e] at hBf
  have hRf := unhide HR
  have hGf := unhide HG
  have hi16 : (Tryd.prog.info? 126).map (·.size) = some 16 := by kernel_rfl
  have hsz : (((quartL s i j k l).map wv).toArray).size = 16 := by simp [quartL_length, unhide HS]
  have HSZ := hide hsz
  clear hsz e HB HR HG ci cj ck cl fi fj fk fl
  go_wp2_with (first | (refine wpList_load_row rfl 126 _ rfl w.heap.size rfl _ _ _ _ hBf Tryd.underlying126 rfl ?_ ?_; (rw [unhide HSZ]; exact hi16)) | (refine wpList_store_row rfl 126 _ _ rfl (w.heap.size + 1) _ rfl rfl _ _ hRf ?_ ?_ ?_ ?_; (rw [unhide HSZ]; exact hi16); (rw [unhide HSZ]; rfl); (exact all_oneCell_toArray (wv_one _))))
  have hS := hRf.row ((quartL s i j k l).map wv)
  have hG : w.grownBy (V8.setRow (w.heap.size + 1) ((quartL s i j k l).map wv).toArray) none := gb_row hGf _ (Or.inl (by omega))
  refine bodyPost_ret (v := .agg ((quartL s i j k l).map wv).toArray) (results_cell_row (g := w.heap.size + 1) rfl _ _ _ _ _ _ ?_ hS Tryd.underlying126 rfl ?_) rfl ⟨rfl, hG⟩
  · rfl
  · rw [unhide HSZ]; exact hi16

end Go.Proofs.YtjckdgapefaokaaDoor
