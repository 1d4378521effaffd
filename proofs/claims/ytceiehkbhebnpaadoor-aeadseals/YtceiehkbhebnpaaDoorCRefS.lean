/- What the document's answer for layer 4 (package coffretref04) reckons: turned and quarter. No condition but those that each lemma names. -/
import Derived.Test.YtceiehkbhebnpaaDoorCLaid
import Derived.BigRegion
import Derived.Test.YtceiehkbhebnpaaDoorMStr
import Derived.Deep.RegionHeld3
import Derived.Deep.DrawnRows
import Derived.Test.YtceiehkbhebnpaaDoorCKn
import Derived.Test.YtceiehkbhebnpaaDoorCStream
namespace Go.Proofs.YtceiehkbhebnpaaDoor
open Go.RowKit

theorem set8 (s : List W) (i j k l : Nat) (hij : i ≠ j) (hik : i ≠ k) (hil : i ≠ l) (hjk : j ≠ k) (hjl : j ≠ l) (hkl : k ≠ l) (a1 d1 c1 b1 a2 d2 c2 b2 : W) :
    (((((((s.set i a1).set l d1).set k c1).set j b1).set i a2).set l d2).set k c2).set j b2 = (((s.set i a2).set j b2).set k c2).set l d2 := by
  apply List.ext_getElem?
  intro m
  simp only [List.getElem?_set]
  by_cases h1 : i = m <;> by_cases h2 : j = m <;> by_cases h3 : k = m <;> by_cases h4 : l = m <;> simp [*] at * <;> omega

theorem rturned_any (w : World) (x : W) (n : Nat) (h0 : 0 < n) (h1 : n < 32) :
    Calls Tryd.prog 50 #[.int .u32 (wz x), .int .u64 (n : Int)] w fun e w' => e = .returned (.int .u32 (wz (rol x n))) ∧ w' = w := by
  go_enter Tryd.func50, Tryd.ntmps50
  go_wp2
  go_ret
  rw [w_shlm, w_shr, w_or]
  exact ⟨rfl, rfl⟩

theorem rturned_i (w : World) (x : W) (z : Int) (h0 : 0 < z) (h1 : z < 32) :
    Calls Tryd.prog 50 #[.int .u32 (wz x), .int .u64 z] w fun e w' => e = .returned (.int .u32 (wz (rol x z.toNat))) ∧ w' = w := by
  have := rturned_any w x z.toNat (by omega) (by omega)
  rw [Int.toNat_of_nonneg (by omega)] at this
  exact this

set_option maxRecDepth 100000 in
set_option maxHeartbeats 2000000 in
theorem rquarter_any (w : World) (s : List W) (hs : s.length = 16) (i j k l : Nat) (hi : i < 16) (hj : j < 16) (hk : k < 16) (hl : l < 16)
    (hij : i ≠ j) (hik : i ≠ k) (hil : i ≠ l) (hjk : j ≠ k) (hjl : j ≠ l) (hkl : k ≠ l) :
    Calls Tryd.prog 39 #[.agg (s.map wv).toArray, .int .i64 (i : Int), .int .i64 (j : Int), .int .i64 (k : Int), .int .i64 (l : Int)] w fun e w' => e = .returned (.agg ((quartL s i j k l).map wv).toArray) ∧ w.grownBy w' none := by
  obtain ⟨A, hA⟩ : ∃ A : Array Value, A = (s.map wv).toArray := ⟨_, rfl⟩
  obtain ⟨Z, hZ⟩ : ∃ A : Array Value, A = ((List.replicate 16 (0 : W)).map wv).toArray := ⟨_, rfl⟩
  have hz := zero16w
  rw [← hZ] at hz
  rw [← hA]
  obtain ⟨W1, hW1⟩ : ∃ W1, W1 = (w.alloc (.cells A 55)).alloc (.cells Z 55) := ⟨_, rfl⟩
  have hB1 : Blk W1 w.heap.size 55 (s.map wv) := by rw [hW1, hA]; exact (Blk.new w 55 (s.map wv)).alloc _
  have hR1 : Blk W1 (w.heap.size + 1) 55 ((List.replicate 16 (0 : W)).map wv) := by
    have := Blk.new (w.alloc (.cells A 55)) 55 ((List.replicate 16 (0 : W)).map wv)
    rw [World.size_alloc] at this
    rw [hW1, hZ]; exact this
  have hg1 : w.grownBy W1 none := by rw [hW1]; exact gb_alloc (gb_alloc (gb_refl _ _) _) _
  obtain ⟨B, hBe⟩ : ∃ B, B = w.heap.size := ⟨_, rfl⟩
  have ci := hB1.word i (by omega)
  have cj := hB1.word j (by omega)
  have ck := hB1.word k (by omega)
  have cl := hB1.word l (by omega)
  have fi := hB1.fz i
  have fj := hB1.fz j
  have fk := hB1.fz k
  have fl := hB1.fz l
  obtain ⟨xa, hxa⟩ : ∃ x, x = s.getD i 0 := ⟨_, rfl⟩
  obtain ⟨xb, hxb⟩ : ∃ x, x = s.getD j 0 := ⟨_, rfl⟩
  obtain ⟨xc, hxc⟩ : ∃ x, x = s.getD k 0 := ⟨_, rfl⟩
  obtain ⟨xd, hxd⟩ : ∃ x, x = s.getD l 0 := ⟨_, rfl⟩
  rw [← hxa] at ci
  rw [← hxb] at cj
  rw [← hxc] at ck
  rw [← hxd] at cl
  have i0 : (0 : Int) ≤ (i : Int) := by omega
  have i1 : (i : Int) < 16 := by omega
  have j0 : (0 : Int) ≤ (j : Int) := by omega
  have j1 : (j : Int) < 16 := by omega
  have k0 : (0 : Int) ≤ (k : Int) := by omega
  have k1 : (k : Int) < 16 := by omega
  have l0 : (0 : Int) ≤ (l : Int) := by omega
  have l1 : (l : Int) < 16 := by omega
  have hji := hij.symm
  have hki := hik.symm
  have hli := hil.symm
  have hkj := hjk.symm
  have hlj := hjl.symm
  have hlk := hkl.symm
  have hx := w_xor
  have ha := w_add
  have ham := w_addm
  have HB := hide hB1
  have HR := hide hR1
  have HG := hide hg1
  have HA := hide hxa
  have HBB := hide hxb
  have HC := hide hxc
  have HD := hide hxd
  have HS := hide hs
  have HAA := hide hA
  have HZ := hide hZ
  have HW1 := hide hW1
  clear hB1 hR1 hg1 hxa hxb hxc hxd hs hi hj hk hl hA hZ hW1 hBe
  go_enter Tryd.func39, Tryd.ntmps39
  go_wp2
  rw [← unhide HW1]
  -- STEPS
  refine wp_region_noPanic ?_
  refine wp_region_held_drew (S := fun V => V.cell? ⟨w.heap.size, j, none⟩ = some (.int .u32 (wz xb))) (by kernel_rfl) (show W1.drew.cell? ⟨w.heap.size, j, none⟩ = some (.int .u32 (wz xb)) from cj) (fun _ => ?_)
  have hS0 : W1.drew.cell? ⟨w.heap.size, j, none⟩ = some (.int .u32 (wz xb)) := cj
  have hct : W1.drew.cell? ⟨w.heap.size, i, none⟩ = some (.int .u32 (wz xa)) := ci
  refine wpAnyH_take (i := 0) (oi := { dst := some 11, op := Op.move (Operand.tmp 1), type := _, pos := _, after := _, guard := _ }) (v := .int .i64 (i : Int)) rfl (by kernel_rfl) (by kernel_rfl) (by kernel_rfl) (fun _ _ _ h => h) (Or.inl ⟨by rfl, fun V (hV : V.cell? ⟨w.heap.size, j, none⟩ = some (.int .u32 (wz xb))) => by go_simp⟩) hS0 ?_
  (try simp only [Act.put, List.setIfInBounds_toArray, List.set_cons_zero, List.set_cons_succ])
  refine wpAnyH_take (i := 1) (oi := { dst := some 12, op := Op.move (Operand.tmp 1), type := _, pos := _, after := _, guard := _ }) (v := .int .i64 (i : Int)) rfl (by kernel_rfl) (by kernel_rfl) (by kernel_rfl) (fun _ _ _ h => h) (Or.inl ⟨by rfl, fun V (hV : V.cell? ⟨w.heap.size, j, none⟩ = some (.int .u32 (wz xb))) => by go_simp⟩) hS0 ?_
  (try simp only [Act.put, List.setIfInBounds_toArray, List.set_cons_zero, List.set_cons_succ])
  refine wpAnyH_take (i := 2) (oi := { dst := some 13, op := Op.indexAddr 55 (Operand.tmp 5) (Operand.tmp 12), type := _, pos := _, after := _, guard := _ }) (v := .pointer (some ⟨w.heap.size, i, none⟩)) rfl (by kernel_rfl) (by kernel_rfl) (by kernel_rfl) (fun _ _ _ h => h) (Or.inl ⟨by rfl, fun V (hV : V.cell? ⟨w.heap.size, j, none⟩ = some (.int .u32 (wz xb))) => by go_simp⟩) hS0 ?_
  (try simp only [Act.put, List.setIfInBounds_toArray, List.set_cons_zero, List.set_cons_succ])
  refine wpAnyH_take (i := 4) (oi := { dst := some 15, op := Op.move (Operand.tmp 2), type := _, pos := _, after := _, guard := _ }) (v := .int .i64 (j : Int)) rfl (by kernel_rfl) (by kernel_rfl) (by kernel_rfl) (fun _ _ _ h => h) (Or.inl ⟨by rfl, fun V (hV : V.cell? ⟨w.heap.size, j, none⟩ = some (.int .u32 (wz xb))) => by go_simp⟩) hS0 ?_
  (try simp only [Act.put, List.setIfInBounds_toArray, List.set_cons_zero, List.set_cons_succ])
  refine wpAnyH_take (i := 5) (oi := { dst := some 16, op := Op.indexAddr 55 (Operand.tmp 5) (Operand.tmp 15), type := _, pos := _, after := _, guard := _ }) (v := .pointer (some ⟨w.heap.size, j, none⟩)) rfl (by kernel_rfl) (by kernel_rfl) (by kernel_rfl) (fun _ _ _ h => h) (Or.inl ⟨by rfl, fun V (hV : V.cell? ⟨w.heap.size, j, none⟩ = some (.int .u32 (wz xb))) => by go_simp⟩) hS0 ?_
  (try simp only [Act.put, List.setIfInBounds_toArray, List.set_cons_zero, List.set_cons_succ])
  refine wpAnyH_take (i := 6) (oi := { dst := some 17, op := Op.load 42 (Operand.tmp 16), type := _, pos := _, after := _, guard := _ }) (v := .int .u32 (wz xb)) rfl (by kernel_rfl) (by kernel_rfl) (by kernel_rfl) (fun _ _ _ h => h) (Or.inl ⟨by rfl, fun V (hV : V.cell? ⟨w.heap.size, j, none⟩ = some (.int .u32 (wz xb))) => by go_simp⟩) hS0 ?_
  (try simp only [Act.put, List.setIfInBounds_toArray, List.set_cons_zero, List.set_cons_succ])
  refine wpAnyH_ready (rs := [3]) (by kernel_rfl) (by simp) ?_
  refine AllReadyH.cons (o := { dst := some 14, op := Op.load 42 (Operand.tmp 13), type := _, pos := _, after := _, guard := _ }) rfl (fun K9 hK9 => ?_) AllReadyH.nil
  go_simp
  refine hK9.out _ _ hS0 (fun _ => ?_)
  clear hK9 K9
  (try simp only [Act.put, List.setIfInBounds_toArray, List.set_cons_zero, List.set_cons_succ])
  refine wpAnyH_take (i := 7) (oi := { dst := some 18, op := Op.binOp BinOp.add 42 (Operand.tmp 14) (Operand.tmp 17) 42, type := _, pos := _, after := _, guard := _ }) (v := .int .u32 (wz (xa + xb))) rfl (by kernel_rfl) (by kernel_rfl) (by kernel_rfl) (fun _ _ _ h => h) (Or.inl ⟨by rfl, fun V (hV : V.cell? ⟨w.heap.size, j, none⟩ = some (.int .u32 (wz xb))) => by go_simp⟩) hS0 ?_
  (try simp only [Act.put, List.setIfInBounds_toArray, List.set_cons_zero, List.set_cons_succ])
  refine wpAnyH_take (i := 8) (oi := { dst := some 19, op := Op.indexAddr 55 (Operand.tmp 5) (Operand.tmp 11), type := _, pos := _, after := _, guard := _ }) (v := .pointer (some ⟨w.heap.size, i, none⟩)) rfl (by kernel_rfl) (by kernel_rfl) (by kernel_rfl) (fun _ _ _ h => h) (Or.inl ⟨by rfl, fun V (hV : V.cell? ⟨w.heap.size, j, none⟩ = some (.int .u32 (wz xb))) => by go_simp⟩) hS0 ?_
  (try simp only [Act.put, List.setIfInBounds_toArray, List.set_cons_zero, List.set_cons_succ])
  refine wpAnyH_ready (rs := [9]) (by kernel_rfl) (by simp) ?_
  refine AllReadyH.cons (o := { dst := none, op := Op.store 42 (Operand.tmp 19) (Operand.tmp 18), type := _, pos := _, after := _, guard := _ }) rfl (fun K9 hK9 => ?_) AllReadyH.nil
  go_simp
  refine hK9.out _ _ (by rw [World.cell?_drew, World.cell?_setCell_other _ _ _ _ (by simp <;> omega)]; exact hS0) (fun _ => ?_)
  clear hK9 K9
  (try simp only [Act.put, List.setIfInBounds_toArray, List.set_cons_zero, List.set_cons_succ])
  refine wpAnyH_done (by kernel_rfl) ?_ _
  refine NoPanic.normal ?_
  clear hS0 hct
  obtain ⟨a1, ha1⟩ : ∃ x : W, x = xa + xb := ⟨_, rfl⟩
  rw [show xa + xb = a1 from ha1.symm]
  obtain ⟨V1, hV1⟩ : ∃ V, V = (W1.setCell ⟨w.heap.size, i, none⟩ (.int .u32 (wz a1))).drew := ⟨_, rfl⟩
  rw [← hV1]
  have hB0 : Blk V1 w.heap.size 55 ((s.set i a1).map wv) := by rw [hV1]; exact ((unhide HB).setw i a1).drew
  have hR0 : Blk V1 (w.heap.size + 1) 55 ((List.replicate 16 (0 : W)).map wv) := by rw [hV1]; exact ((unhide HR).other _ _ (by simp)).drew
  have hg0 : w.grownBy V1 none := by rw [hV1]; exact gb_drew (gb_setCell (unhide HG) _ _ (Or.inl (Nat.le_refl _)))
  have ci2 : V1.cell? ⟨w.heap.size, i, none⟩ = some (.int .u32 (wz a1)) := by rw [hV1, World.cell?_drew]; exact World.cell?_setCell_same' _ _ _ (by rw [ci]; rfl)
  have fi2 : V1.frozen? ⟨w.heap.size, i, none⟩ = false := hB0.fz i
  have cj2 : V1.cell? ⟨w.heap.size, j, none⟩ = some (.int .u32 (wz xb)) := by rw [hV1, World.cell?_drew, World.cell?_setCell_other _ _ _ _ (by simp <;> omega)]; exact cj
  have fj2 : V1.frozen? ⟨w.heap.size, j, none⟩ = false := hB0.fz j
  have ck2 : V1.cell? ⟨w.heap.size, k, none⟩ = some (.int .u32 (wz xc)) := by rw [hV1, World.cell?_drew, World.cell?_setCell_other _ _ _ _ (by simp <;> omega)]; exact ck
  have fk2 : V1.frozen? ⟨w.heap.size, k, none⟩ = false := hB0.fz k
  have cl2 : V1.cell? ⟨w.heap.size, l, none⟩ = some (.int .u32 (wz xd)) := by rw [hV1, World.cell?_drew, World.cell?_setCell_other _ _ _ _ (by simp <;> omega)]; exact cl
  have fl2 : V1.frozen? ⟨w.heap.size, l, none⟩ = false := hB0.fz l
  clear ci cj ck cl fi fj fk fl HB HR HG
  have ci := ci2
  have fi := fi2
  have cj := cj2
  have fj := fj2
  have ck := ck2
  have fk := fk2
  have cl := cl2
  have fl := fl2
  have HB := hide hB0
  have HR := hide hR0
  have HG := hide hg0
  have Ha1 := hide ha1
  clear ci2 cj2 ck2 cl2 fi2 fj2 fk2 fl2 hB0 hR0 hg0 hV1 ha1
  go_wp2_with fail
  refine wp_region_noPanic ?_
  refine wp_region_held_drew (S := fun V => V.cell? ⟨w.heap.size, i, none⟩ = some (.int .u32 (wz a1))) (by kernel_rfl) (show V1.drew.cell? ⟨w.heap.size, i, none⟩ = some (.int .u32 (wz a1)) from ci) (fun _ => ?_)
  have hS0 : V1.drew.cell? ⟨w.heap.size, i, none⟩ = some (.int .u32 (wz a1)) := ci
  have hct : V1.drew.cell? ⟨w.heap.size, l, none⟩ = some (.int .u32 (wz xd)) := cl
  refine wpAnyH_take (i := 0) (oi := { dst := some 20, op := Op.move (Operand.tmp 4), type := _, pos := _, after := _, guard := _ }) (v := .int .i64 (l : Int)) rfl (by kernel_rfl) (by kernel_rfl) (by kernel_rfl) (fun _ _ _ h => h) (Or.inl ⟨by rfl, fun V (hV : V.cell? ⟨w.heap.size, i, none⟩ = some (.int .u32 (wz a1))) => by go_simp⟩) hS0 ?_
  (try simp only [Act.put, List.setIfInBounds_toArray, List.set_cons_zero, List.set_cons_succ])
  refine wpAnyH_take (i := 1) (oi := { dst := some 21, op := Op.move (Operand.tmp 4), type := _, pos := _, after := _, guard := _ }) (v := .int .i64 (l : Int)) rfl (by kernel_rfl) (by kernel_rfl) (by kernel_rfl) (fun _ _ _ h => h) (Or.inl ⟨by rfl, fun V (hV : V.cell? ⟨w.heap.size, i, none⟩ = some (.int .u32 (wz a1))) => by go_simp⟩) hS0 ?_
  (try simp only [Act.put, List.setIfInBounds_toArray, List.set_cons_zero, List.set_cons_succ])
  refine wpAnyH_take (i := 2) (oi := { dst := some 22, op := Op.indexAddr 55 (Operand.tmp 5) (Operand.tmp 21), type := _, pos := _, after := _, guard := _ }) (v := .pointer (some ⟨w.heap.size, l, none⟩)) rfl (by kernel_rfl) (by kernel_rfl) (by kernel_rfl) (fun _ _ _ h => h) (Or.inl ⟨by rfl, fun V (hV : V.cell? ⟨w.heap.size, i, none⟩ = some (.int .u32 (wz a1))) => by go_simp⟩) hS0 ?_
  (try simp only [Act.put, List.setIfInBounds_toArray, List.set_cons_zero, List.set_cons_succ])
  refine wpAnyH_take (i := 4) (oi := { dst := some 24, op := Op.move (Operand.tmp 1), type := _, pos := _, after := _, guard := _ }) (v := .int .i64 (i : Int)) rfl (by kernel_rfl) (by kernel_rfl) (by kernel_rfl) (fun _ _ _ h => h) (Or.inl ⟨by rfl, fun V (hV : V.cell? ⟨w.heap.size, i, none⟩ = some (.int .u32 (wz a1))) => by go_simp⟩) hS0 ?_
  (try simp only [Act.put, List.setIfInBounds_toArray, List.set_cons_zero, List.set_cons_succ])
  refine wpAnyH_take (i := 5) (oi := { dst := some 25, op := Op.indexAddr 55 (Operand.tmp 5) (Operand.tmp 24), type := _, pos := _, after := _, guard := _ }) (v := .pointer (some ⟨w.heap.size, i, none⟩)) rfl (by kernel_rfl) (by kernel_rfl) (by kernel_rfl) (fun _ _ _ h => h) (Or.inl ⟨by rfl, fun V (hV : V.cell? ⟨w.heap.size, i, none⟩ = some (.int .u32 (wz a1))) => by go_simp⟩) hS0 ?_
  (try simp only [Act.put, List.setIfInBounds_toArray, List.set_cons_zero, List.set_cons_succ])
  refine wpAnyH_take (i := 6) (oi := { dst := some 26, op := Op.load 42 (Operand.tmp 25), type := _, pos := _, after := _, guard := _ }) (v := .int .u32 (wz a1)) rfl (by kernel_rfl) (by kernel_rfl) (by kernel_rfl) (fun _ _ _ h => h) (Or.inl ⟨by rfl, fun V (hV : V.cell? ⟨w.heap.size, i, none⟩ = some (.int .u32 (wz a1))) => by go_simp⟩) hS0 ?_
  (try simp only [Act.put, List.setIfInBounds_toArray, List.set_cons_zero, List.set_cons_succ])
  refine wpAnyH_ready (rs := [3]) (by kernel_rfl) (by simp) ?_
  refine AllReadyH.cons (o := { dst := some 23, op := Op.load 42 (Operand.tmp 22), type := _, pos := _, after := _, guard := _ }) rfl (fun K9 hK9 => ?_) AllReadyH.nil
  go_simp
  refine hK9.out _ _ hS0 (fun _ => ?_)
  clear hK9 K9
  (try simp only [Act.put, List.setIfInBounds_toArray, List.set_cons_zero, List.set_cons_succ])
  refine wpAnyH_take (i := 7) (oi := { dst := some 27, op := Op.binOp BinOp.xor 42 (Operand.tmp 23) (Operand.tmp 26) 42, type := _, pos := _, after := _, guard := _ }) (v := .int .u32 (wz (xd ^^^ a1))) rfl (by kernel_rfl) (by kernel_rfl) (by kernel_rfl) (fun _ _ _ h => h) (Or.inl ⟨by rfl, fun V (hV : V.cell? ⟨w.heap.size, i, none⟩ = some (.int .u32 (wz a1))) => by go_simp⟩) hS0 ?_
  (try simp only [Act.put, List.setIfInBounds_toArray, List.set_cons_zero, List.set_cons_succ])
  refine wpAnyH_ready (rs := [8]) (by kernel_rfl) (by simp) ?_
  refine AllReadyH.cons (o := { dst := some 28, op := Op.call { callee := Callee.value (Operand.func 50), args := #[(Operand.tmp 27), Operand.const (Value.int IntKind.u64 16)], argTypes := #[42, 39] }, type := _, pos := _, after := _, guard := _ }) rfl (fun K9 hK9 => ?_) AllReadyH.nil
  go_simp
  go_at_call 50
  refine (rturned_i _ _ _ ?_ ?_).mono ?_
  · decide
  · decide
  rintro e w9 ⟨rfl, rfl⟩
  go_wp2_with fail
  refine hK9.out _ _ hS0 (fun _ => ?_)
  clear hK9 K9
  (try simp only [Act.put, List.setIfInBounds_toArray, List.set_cons_zero, List.set_cons_succ])
  refine wpAnyH_take (i := 9) (oi := { dst := some 29, op := Op.indexAddr 55 (Operand.tmp 5) (Operand.tmp 20), type := _, pos := _, after := _, guard := _ }) (v := .pointer (some ⟨w.heap.size, l, none⟩)) rfl (by kernel_rfl) (by kernel_rfl) (by kernel_rfl) (fun _ _ _ h => h) (Or.inl ⟨by rfl, fun V (hV : V.cell? ⟨w.heap.size, i, none⟩ = some (.int .u32 (wz a1))) => by go_simp⟩) hS0 ?_
  (try simp only [Act.put, List.setIfInBounds_toArray, List.set_cons_zero, List.set_cons_succ])
  refine wpAnyH_ready (rs := [10]) (by kernel_rfl) (by simp) ?_
  refine AllReadyH.cons (o := { dst := none, op := Op.store 42 (Operand.tmp 29) (Operand.tmp 28), type := _, pos := _, after := _, guard := _ }) rfl (fun K9 hK9 => ?_) AllReadyH.nil
  go_simp
  refine hK9.out _ _ (by rw [World.cell?_drew, World.cell?_setCell_other _ _ _ _ (by simp <;> omega)]; exact hS0) (fun _ => ?_)
  clear hK9 K9
  (try simp only [Act.put, List.setIfInBounds_toArray, List.set_cons_zero, List.set_cons_succ])
  refine wpAnyH_done (by kernel_rfl) ?_ _
  refine NoPanic.normal ?_
  clear hS0 hct
  obtain ⟨d1, hd1⟩ : ∃ x : W, x = rol (xd ^^^ a1) 16 := ⟨_, rfl⟩
  rw [show rol (xd ^^^ a1) 16 = d1 from hd1.symm]
  obtain ⟨V2, hV2⟩ : ∃ V, V = (V1.setCell ⟨w.heap.size, l, none⟩ (.int .u32 (wz d1))).drew := ⟨_, rfl⟩
  rw [← hV2]
  have hB1 : Blk V2 w.heap.size 55 (((s.set i a1).set l d1).map wv) := by rw [hV2]; exact ((unhide HB).setw l d1).drew
  have hR1 : Blk V2 (w.heap.size + 1) 55 ((List.replicate 16 (0 : W)).map wv) := by rw [hV2]; exact ((unhide HR).other _ _ (by simp)).drew
  have hg1 : w.grownBy V2 none := by rw [hV2]; exact gb_drew (gb_setCell (unhide HG) _ _ (Or.inl (Nat.le_refl _)))
  have ci2 : V2.cell? ⟨w.heap.size, i, none⟩ = some (.int .u32 (wz a1)) := by rw [hV2, World.cell?_drew, World.cell?_setCell_other _ _ _ _ (by simp <;> omega)]; exact ci
  have fi2 : V2.frozen? ⟨w.heap.size, i, none⟩ = false := hB1.fz i
  have cj2 : V2.cell? ⟨w.heap.size, j, none⟩ = some (.int .u32 (wz xb)) := by rw [hV2, World.cell?_drew, World.cell?_setCell_other _ _ _ _ (by simp <;> omega)]; exact cj
  have fj2 : V2.frozen? ⟨w.heap.size, j, none⟩ = false := hB1.fz j
  have ck2 : V2.cell? ⟨w.heap.size, k, none⟩ = some (.int .u32 (wz xc)) := by rw [hV2, World.cell?_drew, World.cell?_setCell_other _ _ _ _ (by simp <;> omega)]; exact ck
  have fk2 : V2.frozen? ⟨w.heap.size, k, none⟩ = false := hB1.fz k
  have cl2 : V2.cell? ⟨w.heap.size, l, none⟩ = some (.int .u32 (wz d1)) := by rw [hV2, World.cell?_drew]; exact World.cell?_setCell_same' _ _ _ (by rw [cl]; rfl)
  have fl2 : V2.frozen? ⟨w.heap.size, l, none⟩ = false := hB1.fz l
  clear ci cj ck cl fi fj fk fl HB HR HG
  have ci := ci2
  have fi := fi2
  have cj := cj2
  have fj := fj2
  have ck := ck2
  have fk := fk2
  have cl := cl2
  have fl := fl2
  have HB := hide hB1
  have HR := hide hR1
  have HG := hide hg1
  have Hd1 := hide hd1
  clear ci2 cj2 ck2 cl2 fi2 fj2 fk2 fl2 hB1 hR1 hg1 hV2 hd1
  go_wp2_with fail
  refine wp_region_noPanic ?_
  refine wp_region_held_drew (S := fun V => V.cell? ⟨w.heap.size, l, none⟩ = some (.int .u32 (wz d1))) (by kernel_rfl) (show V2.drew.cell? ⟨w.heap.size, l, none⟩ = some (.int .u32 (wz d1)) from cl) (fun _ => ?_)
  have hS0 : V2.drew.cell? ⟨w.heap.size, l, none⟩ = some (.int .u32 (wz d1)) := cl
  have hct : V2.drew.cell? ⟨w.heap.size, k, none⟩ = some (.int .u32 (wz xc)) := ck
  refine wpAnyH_take (i := 0) (oi := { dst := some 30, op := Op.move (Operand.tmp 3), type := _, pos := _, after := _, guard := _ }) (v := .int .i64 (k : Int)) rfl (by kernel_rfl) (by kernel_rfl) (by kernel_rfl) (fun _ _ _ h => h) (Or.inl ⟨by rfl, fun V (hV : V.cell? ⟨w.heap.size, l, none⟩ = some (.int .u32 (wz d1))) => by go_simp⟩) hS0 ?_
  (try simp only [Act.put, List.setIfInBounds_toArray, List.set_cons_zero, List.set_cons_succ])
  refine wpAnyH_take (i := 1) (oi := { dst := some 31, op := Op.move (Operand.tmp 3), type := _, pos := _, after := _, guard := _ }) (v := .int .i64 (k : Int)) rfl (by kernel_rfl) (by kernel_rfl) (by kernel_rfl) (fun _ _ _ h => h) (Or.inl ⟨by rfl, fun V (hV : V.cell? ⟨w.heap.size, l, none⟩ = some (.int .u32 (wz d1))) => by go_simp⟩) hS0 ?_
  (try simp only [Act.put, List.setIfInBounds_toArray, List.set_cons_zero, List.set_cons_succ])
  refine wpAnyH_take (i := 2) (oi := { dst := some 32, op := Op.indexAddr 55 (Operand.tmp 5) (Operand.tmp 31), type := _, pos := _, after := _, guard := _ }) (v := .pointer (some ⟨w.heap.size, k, none⟩)) rfl (by kernel_rfl) (by kernel_rfl) (by kernel_rfl) (fun _ _ _ h => h) (Or.inl ⟨by rfl, fun V (hV : V.cell? ⟨w.heap.size, l, none⟩ = some (.int .u32 (wz d1))) => by go_simp⟩) hS0 ?_
  (try simp only [Act.put, List.setIfInBounds_toArray, List.set_cons_zero, List.set_cons_succ])
  refine wpAnyH_take (i := 4) (oi := { dst := some 34, op := Op.move (Operand.tmp 4), type := _, pos := _, after := _, guard := _ }) (v := .int .i64 (l : Int)) rfl (by kernel_rfl) (by kernel_rfl) (by kernel_rfl) (fun _ _ _ h => h) (Or.inl ⟨by rfl, fun V (hV : V.cell? ⟨w.heap.size, l, none⟩ = some (.int .u32 (wz d1))) => by go_simp⟩) hS0 ?_
  (try simp only [Act.put, List.setIfInBounds_toArray, List.set_cons_zero, List.set_cons_succ])
  refine wpAnyH_take (i := 5) (oi := { dst := some 35, op := Op.indexAddr 55 (Operand.tmp 5) (Operand.tmp 34), type := _, pos := _, after := _, guard := _ }) (v := .pointer (some ⟨w.heap.size, l, none⟩)) rfl (by kernel_rfl) (by kernel_rfl) (by kernel_rfl) (fun _ _ _ h => h) (Or.inl ⟨by rfl, fun V (hV : V.cell? ⟨w.heap.size, l, none⟩ = some (.int .u32 (wz d1))) => by go_simp⟩) hS0 ?_
  (try simp only [Act.put, List.setIfInBounds_toArray, List.set_cons_zero, List.set_cons_succ])
  refine wpAnyH_take (i := 6) (oi := { dst := some 36, op := Op.load 42 (Operand.tmp 35), type := _, pos := _, after := _, guard := _ }) (v := .int .u32 (wz d1)) rfl (by kernel_rfl) (by kernel_rfl) (by kernel_rfl) (fun _ _ _ h => h) (Or.inl ⟨by rfl, fun V (hV : V.cell? ⟨w.heap.size, l, none⟩ = some (.int .u32 (wz d1))) => by go_simp⟩) hS0 ?_
  (try simp only [Act.put, List.setIfInBounds_toArray, List.set_cons_zero, List.set_cons_succ])
  refine wpAnyH_ready (rs := [3]) (by kernel_rfl) (by simp) ?_
  refine AllReadyH.cons (o := { dst := some 33, op := Op.load 42 (Operand.tmp 32), type := _, pos := _, after := _, guard := _ }) rfl (fun K9 hK9 => ?_) AllReadyH.nil
  go_simp
  refine hK9.out _ _ hS0 (fun _ => ?_)
  clear hK9 K9
  (try simp only [Act.put, List.setIfInBounds_toArray, List.set_cons_zero, List.set_cons_succ])
  refine wpAnyH_take (i := 7) (oi := { dst := some 37, op := Op.binOp BinOp.add 42 (Operand.tmp 33) (Operand.tmp 36) 42, type := _, pos := _, after := _, guard := _ }) (v := .int .u32 (wz (xc + d1))) rfl (by kernel_rfl) (by kernel_rfl) (by kernel_rfl) (fun _ _ _ h => h) (Or.inl ⟨by rfl, fun V (hV : V.cell? ⟨w.heap.size, l, none⟩ = some (.int .u32 (wz d1))) => by go_simp⟩) hS0 ?_
  (try simp only [Act.put, List.setIfInBounds_toArray, List.set_cons_zero, List.set_cons_succ])
  refine wpAnyH_take (i := 8) (oi := { dst := some 38, op := Op.indexAddr 55 (Operand.tmp 5) (Operand.tmp 30), type := _, pos := _, after := _, guard := _ }) (v := .pointer (some ⟨w.heap.size, k, none⟩)) rfl (by kernel_rfl) (by kernel_rfl) (by kernel_rfl) (fun _ _ _ h => h) (Or.inl ⟨by rfl, fun V (hV : V.cell? ⟨w.heap.size, l, none⟩ = some (.int .u32 (wz d1))) => by go_simp⟩) hS0 ?_
  (try simp only [Act.put, List.setIfInBounds_toArray, List.set_cons_zero, List.set_cons_succ])
  refine wpAnyH_ready (rs := [9]) (by kernel_rfl) (by simp) ?_
  refine AllReadyH.cons (o := { dst := none, op := Op.store 42 (Operand.tmp 38) (Operand.tmp 37), type := _, pos := _, after := _, guard := _ }) rfl (fun K9 hK9 => ?_) AllReadyH.nil
  go_simp
  refine hK9.out _ _ (by rw [World.cell?_drew, World.cell?_setCell_other _ _ _ _ (by simp <;> omega)]; exact hS0) (fun _ => ?_)
  clear hK9 K9
  (try simp only [Act.put, List.setIfInBounds_toArray, List.set_cons_zero, List.set_cons_succ])
  refine wpAnyH_done (by kernel_rfl) ?_ _
  refine NoPanic.normal ?_
  clear hS0 hct
  obtain ⟨c1, hc1⟩ : ∃ x : W, x = xc + d1 := ⟨_, rfl⟩
  rw [show xc + d1 = c1 from hc1.symm]
  obtain ⟨V3, hV3⟩ : ∃ V, V = (V2.setCell ⟨w.heap.size, k, none⟩ (.int .u32 (wz c1))).drew := ⟨_, rfl⟩
  rw [← hV3]
  have hB2 : Blk V3 w.heap.size 55 ((((s.set i a1).set l d1).set k c1).map wv) := by rw [hV3]; exact ((unhide HB).setw k c1).drew
  have hR2 : Blk V3 (w.heap.size + 1) 55 ((List.replicate 16 (0 : W)).map wv) := by rw [hV3]; exact ((unhide HR).other _ _ (by simp)).drew
  have hg2 : w.grownBy V3 none := by rw [hV3]; exact gb_drew (gb_setCell (unhide HG) _ _ (Or.inl (Nat.le_refl _)))
  have ci2 : V3.cell? ⟨w.heap.size, i, none⟩ = some (.int .u32 (wz a1)) := by rw [hV3, World.cell?_drew, World.cell?_setCell_other _ _ _ _ (by simp <;> omega)]; exact ci
  have fi2 : V3.frozen? ⟨w.heap.size, i, none⟩ = false := hB2.fz i
  have cj2 : V3.cell? ⟨w.heap.size, j, none⟩ = some (.int .u32 (wz xb)) := by rw [hV3, World.cell?_drew, World.cell?_setCell_other _ _ _ _ (by simp <;> omega)]; exact cj
  have fj2 : V3.frozen? ⟨w.heap.size, j, none⟩ = false := hB2.fz j
  have ck2 : V3.cell? ⟨w.heap.size, k, none⟩ = some (.int .u32 (wz c1)) := by rw [hV3, World.cell?_drew]; exact World.cell?_setCell_same' _ _ _ (by rw [ck]; rfl)
  have fk2 : V3.frozen? ⟨w.heap.size, k, none⟩ = false := hB2.fz k
  have cl2 : V3.cell? ⟨w.heap.size, l, none⟩ = some (.int .u32 (wz d1)) := by rw [hV3, World.cell?_drew, World.cell?_setCell_other _ _ _ _ (by simp <;> omega)]; exact cl
  have fl2 : V3.frozen? ⟨w.heap.size, l, none⟩ = false := hB2.fz l
  clear ci cj ck cl fi fj fk fl HB HR HG
  have ci := ci2
  have fi := fi2
  have cj := cj2
  have fj := fj2
  have ck := ck2
  have fk := fk2
  have cl := cl2
  have fl := fl2
  have HB := hide hB2
  have HR := hide hR2
  have HG := hide hg2
  have Hc1 := hide hc1
  clear ci2 cj2 ck2 cl2 fi2 fj2 fk2 fl2 hB2 hR2 hg2 hV3 hc1
  go_wp2_with fail
  refine wp_region_noPanic ?_
  refine wp_region_held_drew (S := fun V => V.cell? ⟨w.heap.size, k, none⟩ = some (.int .u32 (wz c1))) (by kernel_rfl) (show V3.drew.cell? ⟨w.heap.size, k, none⟩ = some (.int .u32 (wz c1)) from ck) (fun _ => ?_)
  have hS0 : V3.drew.cell? ⟨w.heap.size, k, none⟩ = some (.int .u32 (wz c1)) := ck
  have hct : V3.drew.cell? ⟨w.heap.size, j, none⟩ = some (.int .u32 (wz xb)) := cj
  refine wpAnyH_take (i := 0) (oi := { dst := some 39, op := Op.move (Operand.tmp 2), type := _, pos := _, after := _, guard := _ }) (v := .int .i64 (j : Int)) rfl (by kernel_rfl) (by kernel_rfl) (by kernel_rfl) (fun _ _ _ h => h) (Or.inl ⟨by rfl, fun V (hV : V.cell? ⟨w.heap.size, k, none⟩ = some (.int .u32 (wz c1))) => by go_simp⟩) hS0 ?_
  (try simp only [Act.put, List.setIfInBounds_toArray, List.set_cons_zero, List.set_cons_succ])
  refine wpAnyH_take (i := 1) (oi := { dst := some 40, op := Op.move (Operand.tmp 2), type := _, pos := _, after := _, guard := _ }) (v := .int .i64 (j : Int)) rfl (by kernel_rfl) (by kernel_rfl) (by kernel_rfl) (fun _ _ _ h => h) (Or.inl ⟨by rfl, fun V (hV : V.cell? ⟨w.heap.size, k, none⟩ = some (.int .u32 (wz c1))) => by go_simp⟩) hS0 ?_
  (try simp only [Act.put, List.setIfInBounds_toArray, List.set_cons_zero, List.set_cons_succ])
  refine wpAnyH_take (i := 2) (oi := { dst := some 41, op := Op.indexAddr 55 (Operand.tmp 5) (Operand.tmp 40), type := _, pos := _, after := _, guard := _ }) (v := .pointer (some ⟨w.heap.size, j, none⟩)) rfl (by kernel_rfl) (by kernel_rfl) (by kernel_rfl) (fun _ _ _ h => h) (Or.inl ⟨by rfl, fun V (hV : V.cell? ⟨w.heap.size, k, none⟩ = some (.int .u32 (wz c1))) => by go_simp⟩) hS0 ?_
  (try simp only [Act.put, List.setIfInBounds_toArray, List.set_cons_zero, List.set_cons_succ])
  refine wpAnyH_take (i := 4) (oi := { dst := some 43, op := Op.move (Operand.tmp 3), type := _, pos := _, after := _, guard := _ }) (v := .int .i64 (k : Int)) rfl (by kernel_rfl) (by kernel_rfl) (by kernel_rfl) (fun _ _ _ h => h) (Or.inl ⟨by rfl, fun V (hV : V.cell? ⟨w.heap.size, k, none⟩ = some (.int .u32 (wz c1))) => by go_simp⟩) hS0 ?_
  (try simp only [Act.put, List.setIfInBounds_toArray, List.set_cons_zero, List.set_cons_succ])
  refine wpAnyH_take (i := 5) (oi := { dst := some 44, op := Op.indexAddr 55 (Operand.tmp 5) (Operand.tmp 43), type := _, pos := _, after := _, guard := _ }) (v := .pointer (some ⟨w.heap.size, k, none⟩)) rfl (by kernel_rfl) (by kernel_rfl) (by kernel_rfl) (fun _ _ _ h => h) (Or.inl ⟨by rfl, fun V (hV : V.cell? ⟨w.heap.size, k, none⟩ = some (.int .u32 (wz c1))) => by go_simp⟩) hS0 ?_
  (try simp only [Act.put, List.setIfInBounds_toArray, List.set_cons_zero, List.set_cons_succ])
  refine wpAnyH_take (i := 6) (oi := { dst := some 45, op := Op.load 42 (Operand.tmp 44), type := _, pos := _, after := _, guard := _ }) (v := .int .u32 (wz c1)) rfl (by kernel_rfl) (by kernel_rfl) (by kernel_rfl) (fun _ _ _ h => h) (Or.inl ⟨by rfl, fun V (hV : V.cell? ⟨w.heap.size, k, none⟩ = some (.int .u32 (wz c1))) => by go_simp⟩) hS0 ?_
  (try simp only [Act.put, List.setIfInBounds_toArray, List.set_cons_zero, List.set_cons_succ])
  refine wpAnyH_ready (rs := [3]) (by kernel_rfl) (by simp) ?_
  refine AllReadyH.cons (o := { dst := some 42, op := Op.load 42 (Operand.tmp 41), type := _, pos := _, after := _, guard := _ }) rfl (fun K9 hK9 => ?_) AllReadyH.nil
  go_simp
  refine hK9.out _ _ hS0 (fun _ => ?_)
  clear hK9 K9
  (try simp only [Act.put, List.setIfInBounds_toArray, List.set_cons_zero, List.set_cons_succ])
  refine wpAnyH_take (i := 7) (oi := { dst := some 46, op := Op.binOp BinOp.xor 42 (Operand.tmp 42) (Operand.tmp 45) 42, type := _, pos := _, after := _, guard := _ }) (v := .int .u32 (wz (xb ^^^ c1))) rfl (by kernel_rfl) (by kernel_rfl) (by kernel_rfl) (fun _ _ _ h => h) (Or.inl ⟨by rfl, fun V (hV : V.cell? ⟨w.heap.size, k, none⟩ = some (.int .u32 (wz c1))) => by go_simp⟩) hS0 ?_
  (try simp only [Act.put, List.setIfInBounds_toArray, List.set_cons_zero, List.set_cons_succ])
  refine wpAnyH_ready (rs := [8]) (by kernel_rfl) (by simp) ?_
  refine AllReadyH.cons (o := { dst := some 47, op := Op.call { callee := Callee.value (Operand.func 50), args := #[(Operand.tmp 46), Operand.const (Value.int IntKind.u64 12)], argTypes := #[42, 39] }, type := _, pos := _, after := _, guard := _ }) rfl (fun K9 hK9 => ?_) AllReadyH.nil
  go_simp
  go_at_call 50
  refine (rturned_i _ _ _ ?_ ?_).mono ?_
  · decide
  · decide
  rintro e w9 ⟨rfl, rfl⟩
  go_wp2_with fail
  refine hK9.out _ _ hS0 (fun _ => ?_)
  clear hK9 K9
  (try simp only [Act.put, List.setIfInBounds_toArray, List.set_cons_zero, List.set_cons_succ])
  refine wpAnyH_take (i := 9) (oi := { dst := some 48, op := Op.indexAddr 55 (Operand.tmp 5) (Operand.tmp 39), type := _, pos := _, after := _, guard := _ }) (v := .pointer (some ⟨w.heap.size, j, none⟩)) rfl (by kernel_rfl) (by kernel_rfl) (by kernel_rfl) (fun _ _ _ h => h) (Or.inl ⟨by rfl, fun V (hV : V.cell? ⟨w.heap.size, k, none⟩ = some (.int .u32 (wz c1))) => by go_simp⟩) hS0 ?_
  (try simp only [Act.put, List.setIfInBounds_toArray, List.set_cons_zero, List.set_cons_succ])
  refine wpAnyH_ready (rs := [10]) (by kernel_rfl) (by simp) ?_
  refine AllReadyH.cons (o := { dst := none, op := Op.store 42 (Operand.tmp 48) (Operand.tmp 47), type := _, pos := _, after := _, guard := _ }) rfl (fun K9 hK9 => ?_) AllReadyH.nil
  go_simp
  refine hK9.out _ _ (by rw [World.cell?_drew, World.cell?_setCell_other _ _ _ _ (by simp <;> omega)]; exact hS0) (fun _ => ?_)
  clear hK9 K9
  (try simp only [Act.put, List.setIfInBounds_toArray, List.set_cons_zero, List.set_cons_succ])
  refine wpAnyH_done (by kernel_rfl) ?_ _
  refine NoPanic.normal ?_
  clear hS0 hct
  obtain ⟨b1, hb1⟩ : ∃ x : W, x = rol (xb ^^^ c1) 12 := ⟨_, rfl⟩
  rw [show rol (xb ^^^ c1) 12 = b1 from hb1.symm]
  obtain ⟨V4, hV4⟩ : ∃ V, V = (V3.setCell ⟨w.heap.size, j, none⟩ (.int .u32 (wz b1))).drew := ⟨_, rfl⟩
  rw [← hV4]
  have hB3 : Blk V4 w.heap.size 55 (((((s.set i a1).set l d1).set k c1).set j b1).map wv) := by rw [hV4]; exact ((unhide HB).setw j b1).drew
  have hR3 : Blk V4 (w.heap.size + 1) 55 ((List.replicate 16 (0 : W)).map wv) := by rw [hV4]; exact ((unhide HR).other _ _ (by simp)).drew
  have hg3 : w.grownBy V4 none := by rw [hV4]; exact gb_drew (gb_setCell (unhide HG) _ _ (Or.inl (Nat.le_refl _)))
  have ci2 : V4.cell? ⟨w.heap.size, i, none⟩ = some (.int .u32 (wz a1)) := by rw [hV4, World.cell?_drew, World.cell?_setCell_other _ _ _ _ (by simp <;> omega)]; exact ci
  have fi2 : V4.frozen? ⟨w.heap.size, i, none⟩ = false := hB3.fz i
  have cj2 : V4.cell? ⟨w.heap.size, j, none⟩ = some (.int .u32 (wz b1)) := by rw [hV4, World.cell?_drew]; exact World.cell?_setCell_same' _ _ _ (by rw [cj]; rfl)
  have fj2 : V4.frozen? ⟨w.heap.size, j, none⟩ = false := hB3.fz j
  have ck2 : V4.cell? ⟨w.heap.size, k, none⟩ = some (.int .u32 (wz c1)) := by rw [hV4, World.cell?_drew, World.cell?_setCell_other _ _ _ _ (by simp <;> omega)]; exact ck
  have fk2 : V4.frozen? ⟨w.heap.size, k, none⟩ = false := hB3.fz k
  have cl2 : V4.cell? ⟨w.heap.size, l, none⟩ = some (.int .u32 (wz d1)) := by rw [hV4, World.cell?_drew, World.cell?_setCell_other _ _ _ _ (by simp <;> omega)]; exact cl
  have fl2 : V4.frozen? ⟨w.heap.size, l, none⟩ = false := hB3.fz l
  clear ci cj ck cl fi fj fk fl HB HR HG
  have ci := ci2
  have fi := fi2
  have cj := cj2
  have fj := fj2
  have ck := ck2
  have fk := fk2
  have cl := cl2
  have fl := fl2
  have HB := hide hB3
  have HR := hide hR3
  have HG := hide hg3
  have Hb1 := hide hb1
  clear ci2 cj2 ck2 cl2 fi2 fj2 fk2 fl2 hB3 hR3 hg3 hV4 hb1
  go_wp2_with fail
  refine wp_region_noPanic ?_
  refine wp_region_held_drew (S := fun V => V.cell? ⟨w.heap.size, j, none⟩ = some (.int .u32 (wz b1))) (by kernel_rfl) (show V4.drew.cell? ⟨w.heap.size, j, none⟩ = some (.int .u32 (wz b1)) from cj) (fun _ => ?_)
  have hS0 : V4.drew.cell? ⟨w.heap.size, j, none⟩ = some (.int .u32 (wz b1)) := cj
  have hct : V4.drew.cell? ⟨w.heap.size, i, none⟩ = some (.int .u32 (wz a1)) := ci
  refine wpAnyH_take (i := 0) (oi := { dst := some 49, op := Op.move (Operand.tmp 1), type := _, pos := _, after := _, guard := _ }) (v := .int .i64 (i : Int)) rfl (by kernel_rfl) (by kernel_rfl) (by kernel_rfl) (fun _ _ _ h => h) (Or.inl ⟨by rfl, fun V (hV : V.cell? ⟨w.heap.size, j, none⟩ = some (.int .u32 (wz b1))) => by go_simp⟩) hS0 ?_
  (try simp only [Act.put, List.setIfInBounds_toArray, List.set_cons_zero, List.set_cons_succ])
  refine wpAnyH_take (i := 1) (oi := { dst := some 50, op := Op.move (Operand.tmp 1), type := _, pos := _, after := _, guard := _ }) (v := .int .i64 (i : Int)) rfl (by kernel_rfl) (by kernel_rfl) (by kernel_rfl) (fun _ _ _ h => h) (Or.inl ⟨by rfl, fun V (hV : V.cell? ⟨w.heap.size, j, none⟩ = some (.int .u32 (wz b1))) => by go_simp⟩) hS0 ?_
  (try simp only [Act.put, List.setIfInBounds_toArray, List.set_cons_zero, List.set_cons_succ])
  refine wpAnyH_take (i := 2) (oi := { dst := some 51, op := Op.indexAddr 55 (Operand.tmp 5) (Operand.tmp 50), type := _, pos := _, after := _, guard := _ }) (v := .pointer (some ⟨w.heap.size, i, none⟩)) rfl (by kernel_rfl) (by kernel_rfl) (by kernel_rfl) (fun _ _ _ h => h) (Or.inl ⟨by rfl, fun V (hV : V.cell? ⟨w.heap.size, j, none⟩ = some (.int .u32 (wz b1))) => by go_simp⟩) hS0 ?_
  (try simp only [Act.put, List.setIfInBounds_toArray, List.set_cons_zero, List.set_cons_succ])
  refine wpAnyH_take (i := 4) (oi := { dst := some 53, op := Op.move (Operand.tmp 2), type := _, pos := _, after := _, guard := _ }) (v := .int .i64 (j : Int)) rfl (by kernel_rfl) (by kernel_rfl) (by kernel_rfl) (fun _ _ _ h => h) (Or.inl ⟨by rfl, fun V (hV : V.cell? ⟨w.heap.size, j, none⟩ = some (.int .u32 (wz b1))) => by go_simp⟩) hS0 ?_
  (try simp only [Act.put, List.setIfInBounds_toArray, List.set_cons_zero, List.set_cons_succ])
  refine wpAnyH_take (i := 5) (oi := { dst := some 54, op := Op.indexAddr 55 (Operand.tmp 5) (Operand.tmp 53), type := _, pos := _, after := _, guard := _ }) (v := .pointer (some ⟨w.heap.size, j, none⟩)) rfl (by kernel_rfl) (by kernel_rfl) (by kernel_rfl) (fun _ _ _ h => h) (Or.inl ⟨by rfl, fun V (hV : V.cell? ⟨w.heap.size, j, none⟩ = some (.int .u32 (wz b1))) => by go_simp⟩) hS0 ?_
  (try simp only [Act.put, List.setIfInBounds_toArray, List.set_cons_zero, List.set_cons_succ])
  refine wpAnyH_take (i := 6) (oi := { dst := some 55, op := Op.load 42 (Operand.tmp 54), type := _, pos := _, after := _, guard := _ }) (v := .int .u32 (wz b1)) rfl (by kernel_rfl) (by kernel_rfl) (by kernel_rfl) (fun _ _ _ h => h) (Or.inl ⟨by rfl, fun V (hV : V.cell? ⟨w.heap.size, j, none⟩ = some (.int .u32 (wz b1))) => by go_simp⟩) hS0 ?_
  (try simp only [Act.put, List.setIfInBounds_toArray, List.set_cons_zero, List.set_cons_succ])
  refine wpAnyH_ready (rs := [3]) (by kernel_rfl) (by simp) ?_
  refine AllReadyH.cons (o := { dst := some 52, op := Op.load 42 (Operand.tmp 51), type := _, pos := _, after := _, guard := _ }) rfl (fun K9 hK9 => ?_) AllReadyH.nil
  go_simp
  refine hK9.out _ _ hS0 (fun _ => ?_)
  clear hK9 K9
  (try simp only [Act.put, List.setIfInBounds_toArray, List.set_cons_zero, List.set_cons_succ])
  refine wpAnyH_take (i := 7) (oi := { dst := some 56, op := Op.binOp BinOp.add 42 (Operand.tmp 52) (Operand.tmp 55) 42, type := _, pos := _, after := _, guard := _ }) (v := .int .u32 (wz (a1 + b1))) rfl (by kernel_rfl) (by kernel_rfl) (by kernel_rfl) (fun _ _ _ h => h) (Or.inl ⟨by rfl, fun V (hV : V.cell? ⟨w.heap.size, j, none⟩ = some (.int .u32 (wz b1))) => by go_simp⟩) hS0 ?_
  (try simp only [Act.put, List.setIfInBounds_toArray, List.set_cons_zero, List.set_cons_succ])
  refine wpAnyH_take (i := 8) (oi := { dst := some 57, op := Op.indexAddr 55 (Operand.tmp 5) (Operand.tmp 49), type := _, pos := _, after := _, guard := _ }) (v := .pointer (some ⟨w.heap.size, i, none⟩)) rfl (by kernel_rfl) (by kernel_rfl) (by kernel_rfl) (fun _ _ _ h => h) (Or.inl ⟨by rfl, fun V (hV : V.cell? ⟨w.heap.size, j, none⟩ = some (.int .u32 (wz b1))) => by go_simp⟩) hS0 ?_
  (try simp only [Act.put, List.setIfInBounds_toArray, List.set_cons_zero, List.set_cons_succ])
  refine wpAnyH_ready (rs := [9]) (by kernel_rfl) (by simp) ?_
  refine AllReadyH.cons (o := { dst := none, op := Op.store 42 (Operand.tmp 57) (Operand.tmp 56), type := _, pos := _, after := _, guard := _ }) rfl (fun K9 hK9 => ?_) AllReadyH.nil
  go_simp
  refine hK9.out _ _ (by rw [World.cell?_drew, World.cell?_setCell_other _ _ _ _ (by simp <;> omega)]; exact hS0) (fun _ => ?_)
  clear hK9 K9
  (try simp only [Act.put, List.setIfInBounds_toArray, List.set_cons_zero, List.set_cons_succ])
  refine wpAnyH_done (by kernel_rfl) ?_ _
  refine NoPanic.normal ?_
  clear hS0 hct
  obtain ⟨a2, ha2⟩ : ∃ x : W, x = a1 + b1 := ⟨_, rfl⟩
  rw [show a1 + b1 = a2 from ha2.symm]
  obtain ⟨V5, hV5⟩ : ∃ V, V = (V4.setCell ⟨w.heap.size, i, none⟩ (.int .u32 (wz a2))).drew := ⟨_, rfl⟩
  rw [← hV5]
  have hB4 : Blk V5 w.heap.size 55 ((((((s.set i a1).set l d1).set k c1).set j b1).set i a2).map wv) := by rw [hV5]; exact ((unhide HB).setw i a2).drew
  have hR4 : Blk V5 (w.heap.size + 1) 55 ((List.replicate 16 (0 : W)).map wv) := by rw [hV5]; exact ((unhide HR).other _ _ (by simp)).drew
  have hg4 : w.grownBy V5 none := by rw [hV5]; exact gb_drew (gb_setCell (unhide HG) _ _ (Or.inl (Nat.le_refl _)))
  have ci2 : V5.cell? ⟨w.heap.size, i, none⟩ = some (.int .u32 (wz a2)) := by rw [hV5, World.cell?_drew]; exact World.cell?_setCell_same' _ _ _ (by rw [ci]; rfl)
  have fi2 : V5.frozen? ⟨w.heap.size, i, none⟩ = false := hB4.fz i
  have cj2 : V5.cell? ⟨w.heap.size, j, none⟩ = some (.int .u32 (wz b1)) := by rw [hV5, World.cell?_drew, World.cell?_setCell_other _ _ _ _ (by simp <;> omega)]; exact cj
  have fj2 : V5.frozen? ⟨w.heap.size, j, none⟩ = false := hB4.fz j
  have ck2 : V5.cell? ⟨w.heap.size, k, none⟩ = some (.int .u32 (wz c1)) := by rw [hV5, World.cell?_drew, World.cell?_setCell_other _ _ _ _ (by simp <;> omega)]; exact ck
  have fk2 : V5.frozen? ⟨w.heap.size, k, none⟩ = false := hB4.fz k
  have cl2 : V5.cell? ⟨w.heap.size, l, none⟩ = some (.int .u32 (wz d1)) := by rw [hV5, World.cell?_drew, World.cell?_setCell_other _ _ _ _ (by simp <;> omega)]; exact cl
  have fl2 : V5.frozen? ⟨w.heap.size, l, none⟩ = false := hB4.fz l
  clear ci cj ck cl fi fj fk fl HB HR HG
  have ci := ci2
  have fi := fi2
  have cj := cj2
  have fj := fj2
  have ck := ck2
  have fk := fk2
  have cl := cl2
  have fl := fl2
  have HB := hide hB4
  have HR := hide hR4
  have HG := hide hg4
  have Ha2 := hide ha2
  clear ci2 cj2 ck2 cl2 fi2 fj2 fk2 fl2 hB4 hR4 hg4 hV5 ha2
  go_wp2_with fail
  refine wp_region_noPanic ?_
  refine wp_region_held_drew (S := fun V => V.cell? ⟨w.heap.size, i, none⟩ = some (.int .u32 (wz a2))) (by kernel_rfl) (show V5.drew.cell? ⟨w.heap.size, i, none⟩ = some (.int .u32 (wz a2)) from ci) (fun _ => ?_)
  have hS0 : V5.drew.cell? ⟨w.heap.size, i, none⟩ = some (.int .u32 (wz a2)) := ci
  have hct : V5.drew.cell? ⟨w.heap.size, l, none⟩ = some (.int .u32 (wz d1)) := cl
  refine wpAnyH_take (i := 0) (oi := { dst := some 58, op := Op.move (Operand.tmp 4), type := _, pos := _, after := _, guard := _ }) (v := .int .i64 (l : Int)) rfl (by kernel_rfl) (by kernel_rfl) (by kernel_rfl) (fun _ _ _ h => h) (Or.inl ⟨by rfl, fun V (hV : V.cell? ⟨w.heap.size, i, none⟩ = some (.int .u32 (wz a2))) => by go_simp⟩) hS0 ?_
  (try simp only [Act.put, List.setIfInBounds_toArray, List.set_cons_zero, List.set_cons_succ])
  refine wpAnyH_take (i := 1) (oi := { dst := some 59, op := Op.move (Operand.tmp 4), type := _, pos := _, after := _, guard := _ }) (v := .int .i64 (l : Int)) rfl (by kernel_rfl) (by kernel_rfl) (by kernel_rfl) (fun _ _ _ h => h) (Or.inl ⟨by rfl, fun V (hV : V.cell? ⟨w.heap.size, i, none⟩ = some (.int .u32 (wz a2))) => by go_simp⟩) hS0 ?_
  (try simp only [Act.put, List.setIfInBounds_toArray, List.set_cons_zero, List.set_cons_succ])
  refine wpAnyH_take (i := 2) (oi := { dst := some 60, op := Op.indexAddr 55 (Operand.tmp 5) (Operand.tmp 59), type := _, pos := _, after := _, guard := _ }) (v := .pointer (some ⟨w.heap.size, l, none⟩)) rfl (by kernel_rfl) (by kernel_rfl) (by kernel_rfl) (fun _ _ _ h => h) (Or.inl ⟨by rfl, fun V (hV : V.cell? ⟨w.heap.size, i, none⟩ = some (.int .u32 (wz a2))) => by go_simp⟩) hS0 ?_
  (try simp only [Act.put, List.setIfInBounds_toArray, List.set_cons_zero, List.set_cons_succ])
  refine wpAnyH_take (i := 4) (oi := { dst := some 62, op := Op.move (Operand.tmp 1), type := _, pos := _, after := _, guard := _ }) (v := .int .i64 (i : Int)) rfl (by kernel_rfl) (by kernel_rfl) (by kernel_rfl) (fun _ _ _ h => h) (Or.inl ⟨by rfl, fun V (hV : V.cell? ⟨w.heap.size, i, none⟩ = some (.int .u32 (wz a2))) => by go_simp⟩) hS0 ?_
  (try simp only [Act.put, List.setIfInBounds_toArray, List.set_cons_zero, List.set_cons_succ])
  refine wpAnyH_take (i := 5) (oi := { dst := some 63, op := Op.indexAddr 55 (Operand.tmp 5) (Operand.tmp 62), type := _, pos := _, after := _, guard := _ }) (v := .pointer (some ⟨w.heap.size, i, none⟩)) rfl (by kernel_rfl) (by kernel_rfl) (by kernel_rfl) (fun _ _ _ h => h) (Or.inl ⟨by rfl, fun V (hV : V.cell? ⟨w.heap.size, i, none⟩ = some (.int .u32 (wz a2))) => by go_simp⟩) hS0 ?_
  (try simp only [Act.put, List.setIfInBounds_toArray, List.set_cons_zero, List.set_cons_succ])
  refine wpAnyH_take (i := 6) (oi := { dst := some 64, op := Op.load 42 (Operand.tmp 63), type := _, pos := _, after := _, guard := _ }) (v := .int .u32 (wz a2)) rfl (by kernel_rfl) (by kernel_rfl) (by kernel_rfl) (fun _ _ _ h => h) (Or.inl ⟨by rfl, fun V (hV : V.cell? ⟨w.heap.size, i, none⟩ = some (.int .u32 (wz a2))) => by go_simp⟩) hS0 ?_
  (try simp only [Act.put, List.setIfInBounds_toArray, List.set_cons_zero, List.set_cons_succ])
  refine wpAnyH_ready (rs := [3]) (by kernel_rfl) (by simp) ?_
  refine AllReadyH.cons (o := { dst := some 61, op := Op.load 42 (Operand.tmp 60), type := _, pos := _, after := _, guard := _ }) rfl (fun K9 hK9 => ?_) AllReadyH.nil
  go_simp
  refine hK9.out _ _ hS0 (fun _ => ?_)
  clear hK9 K9
  (try simp only [Act.put, List.setIfInBounds_toArray, List.set_cons_zero, List.set_cons_succ])
  refine wpAnyH_take (i := 7) (oi := { dst := some 65, op := Op.binOp BinOp.xor 42 (Operand.tmp 61) (Operand.tmp 64) 42, type := _, pos := _, after := _, guard := _ }) (v := .int .u32 (wz (d1 ^^^ a2))) rfl (by kernel_rfl) (by kernel_rfl) (by kernel_rfl) (fun _ _ _ h => h) (Or.inl ⟨by rfl, fun V (hV : V.cell? ⟨w.heap.size, i, none⟩ = some (.int .u32 (wz a2))) => by go_simp⟩) hS0 ?_
  (try simp only [Act.put, List.setIfInBounds_toArray, List.set_cons_zero, List.set_cons_succ])
  refine wpAnyH_ready (rs := [8]) (by kernel_rfl) (by simp) ?_
  refine AllReadyH.cons (o := { dst := some 66, op := Op.call { callee := Callee.value (Operand.func 50), args := #[(Operand.tmp 65), Operand.const (Value.int IntKind.u64 8)], argTypes := #[42, 39] }, type := _, pos := _, after := _, guard := _ }) rfl (fun K9 hK9 => ?_) AllReadyH.nil
  go_simp
  go_at_call 50
  refine (rturned_i _ _ _ ?_ ?_).mono ?_
  · decide
  · decide
  rintro e w9 ⟨rfl, rfl⟩
  go_wp2_with fail
  refine hK9.out _ _ hS0 (fun _ => ?_)
  clear hK9 K9
  (try simp only [Act.put, List.setIfInBounds_toArray, List.set_cons_zero, List.set_cons_succ])
  refine wpAnyH_take (i := 9) (oi := { dst := some 67, op := Op.indexAddr 55 (Operand.tmp 5) (Operand.tmp 58), type := _, pos := _, after := _, guard := _ }) (v := .pointer (some ⟨w.heap.size, l, none⟩)) rfl (by kernel_rfl) (by kernel_rfl) (by kernel_rfl) (fun _ _ _ h => h) (Or.inl ⟨by rfl, fun V (hV : V.cell? ⟨w.heap.size, i, none⟩ = some (.int .u32 (wz a2))) => by go_simp⟩) hS0 ?_
  (try simp only [Act.put, List.setIfInBounds_toArray, List.set_cons_zero, List.set_cons_succ])
  refine wpAnyH_ready (rs := [10]) (by kernel_rfl) (by simp) ?_
  refine AllReadyH.cons (o := { dst := none, op := Op.store 42 (Operand.tmp 67) (Operand.tmp 66), type := _, pos := _, after := _, guard := _ }) rfl (fun K9 hK9 => ?_) AllReadyH.nil
  go_simp
  refine hK9.out _ _ (by rw [World.cell?_drew, World.cell?_setCell_other _ _ _ _ (by simp <;> omega)]; exact hS0) (fun _ => ?_)
  clear hK9 K9
  (try simp only [Act.put, List.setIfInBounds_toArray, List.set_cons_zero, List.set_cons_succ])
  refine wpAnyH_done (by kernel_rfl) ?_ _
  refine NoPanic.normal ?_
  clear hS0 hct
  obtain ⟨d2, hd2⟩ : ∃ x : W, x = rol (d1 ^^^ a2) 8 := ⟨_, rfl⟩
  rw [show rol (d1 ^^^ a2) 8 = d2 from hd2.symm]
  obtain ⟨V6, hV6⟩ : ∃ V, V = (V5.setCell ⟨w.heap.size, l, none⟩ (.int .u32 (wz d2))).drew := ⟨_, rfl⟩
  rw [← hV6]
  have hB5 : Blk V6 w.heap.size 55 (((((((s.set i a1).set l d1).set k c1).set j b1).set i a2).set l d2).map wv) := by rw [hV6]; exact ((unhide HB).setw l d2).drew
  have hR5 : Blk V6 (w.heap.size + 1) 55 ((List.replicate 16 (0 : W)).map wv) := by rw [hV6]; exact ((unhide HR).other _ _ (by simp)).drew
  have hg5 : w.grownBy V6 none := by rw [hV6]; exact gb_drew (gb_setCell (unhide HG) _ _ (Or.inl (Nat.le_refl _)))
  have ci2 : V6.cell? ⟨w.heap.size, i, none⟩ = some (.int .u32 (wz a2)) := by rw [hV6, World.cell?_drew, World.cell?_setCell_other _ _ _ _ (by simp <;> omega)]; exact ci
  have fi2 : V6.frozen? ⟨w.heap.size, i, none⟩ = false := hB5.fz i
  have cj2 : V6.cell? ⟨w.heap.size, j, none⟩ = some (.int .u32 (wz b1)) := by rw [hV6, World.cell?_drew, World.cell?_setCell_other _ _ _ _ (by simp <;> omega)]; exact cj
  have fj2 : V6.frozen? ⟨w.heap.size, j, none⟩ = false := hB5.fz j
  have ck2 : V6.cell? ⟨w.heap.size, k, none⟩ = some (.int .u32 (wz c1)) := by rw [hV6, World.cell?_drew, World.cell?_setCell_other _ _ _ _ (by simp <;> omega)]; exact ck
  have fk2 : V6.frozen? ⟨w.heap.size, k, none⟩ = false := hB5.fz k
  have cl2 : V6.cell? ⟨w.heap.size, l, none⟩ = some (.int .u32 (wz d2)) := by rw [hV6, World.cell?_drew]; exact World.cell?_setCell_same' _ _ _ (by rw [cl]; rfl)
  have fl2 : V6.frozen? ⟨w.heap.size, l, none⟩ = false := hB5.fz l
  clear ci cj ck cl fi fj fk fl HB HR HG
  have ci := ci2
  have fi := fi2
  have cj := cj2
  have fj := fj2
  have ck := ck2
  have fk := fk2
  have cl := cl2
  have fl := fl2
  have HB := hide hB5
  have HR := hide hR5
  have HG := hide hg5
  have Hd2 := hide hd2
  clear ci2 cj2 ck2 cl2 fi2 fj2 fk2 fl2 hB5 hR5 hg5 hV6 hd2
  go_wp2_with fail
  refine wp_region_noPanic ?_
  refine wp_region_held_drew (S := fun V => V.cell? ⟨w.heap.size, l, none⟩ = some (.int .u32 (wz d2))) (by kernel_rfl) (show V6.drew.cell? ⟨w.heap.size, l, none⟩ = some (.int .u32 (wz d2)) from cl) (fun _ => ?_)
  have hS0 : V6.drew.cell? ⟨w.heap.size, l, none⟩ = some (.int .u32 (wz d2)) := cl
  have hct : V6.drew.cell? ⟨w.heap.size, k, none⟩ = some (.int .u32 (wz c1)) := ck
  refine wpAnyH_take (i := 0) (oi := { dst := some 68, op := Op.move (Operand.tmp 3), type := _, pos := _, after := _, guard := _ }) (v := .int .i64 (k : Int)) rfl (by kernel_rfl) (by kernel_rfl) (by kernel_rfl) (fun _ _ _ h => h) (Or.inl ⟨by rfl, fun V (hV : V.cell? ⟨w.heap.size, l, none⟩ = some (.int .u32 (wz d2))) => by go_simp⟩) hS0 ?_
  (try simp only [Act.put, List.setIfInBounds_toArray, List.set_cons_zero, List.set_cons_succ])
  refine wpAnyH_take (i := 1) (oi := { dst := some 69, op := Op.move (Operand.tmp 3), type := _, pos := _, after := _, guard := _ }) (v := .int .i64 (k : Int)) rfl (by kernel_rfl) (by kernel_rfl) (by kernel_rfl) (fun _ _ _ h => h) (Or.inl ⟨by rfl, fun V (hV : V.cell? ⟨w.heap.size, l, none⟩ = some (.int .u32 (wz d2))) => by go_simp⟩) hS0 ?_
  (try simp only [Act.put, List.setIfInBounds_toArray, List.set_cons_zero, List.set_cons_succ])
  refine wpAnyH_take (i := 2) (oi := { dst := some 70, op := Op.indexAddr 55 (Operand.tmp 5) (Operand.tmp 69), type := _, pos := _, after := _, guard := _ }) (v := .pointer (some ⟨w.heap.size, k, none⟩)) rfl (by kernel_rfl) (by kernel_rfl) (by kernel_rfl) (fun _ _ _ h => h) (Or.inl ⟨by rfl, fun V (hV : V.cell? ⟨w.heap.size, l, none⟩ = some (.int .u32 (wz d2))) => by go_simp⟩) hS0 ?_
  (try simp only [Act.put, List.setIfInBounds_toArray, List.set_cons_zero, List.set_cons_succ])
  refine wpAnyH_take (i := 4) (oi := { dst := some 72, op := Op.move (Operand.tmp 4), type := _, pos := _, after := _, guard := _ }) (v := .int .i64 (l : Int)) rfl (by kernel_rfl) (by kernel_rfl) (by kernel_rfl) (fun _ _ _ h => h) (Or.inl ⟨by rfl, fun V (hV : V.cell? ⟨w.heap.size, l, none⟩ = some (.int .u32 (wz d2))) => by go_simp⟩) hS0 ?_
  (try simp only [Act.put, List.setIfInBounds_toArray, List.set_cons_zero, List.set_cons_succ])
  refine wpAnyH_take (i := 5) (oi := { dst := some 73, op := Op.indexAddr 55 (Operand.tmp 5) (Operand.tmp 72), type := _, pos := _, after := _, guard := _ }) (v := .pointer (some ⟨w.heap.size, l, none⟩)) rfl (by kernel_rfl) (by kernel_rfl) (by kernel_rfl) (fun _ _ _ h => h) (Or.inl ⟨by rfl, fun V (hV : V.cell? ⟨w.heap.size, l, none⟩ = some (.int .u32 (wz d2))) => by go_simp⟩) hS0 ?_
  (try simp only [Act.put, List.setIfInBounds_toArray, List.set_cons_zero, List.set_cons_succ])
  refine wpAnyH_take (i := 6) (oi := { dst := some 74, op := Op.load 42 (Operand.tmp 73), type := _, pos := _, after := _, guard := _ }) (v := .int .u32 (wz d2)) rfl (by kernel_rfl) (by kernel_rfl) (by kernel_rfl) (fun _ _ _ h => h) (Or.inl ⟨by rfl, fun V (hV : V.cell? ⟨w.heap.size, l, none⟩ = some (.int .u32 (wz d2))) => by go_simp⟩) hS0 ?_
  (try simp only [Act.put, List.setIfInBounds_toArray, List.set_cons_zero, List.set_cons_succ])
  refine wpAnyH_ready (rs := [3]) (by kernel_rfl) (by simp) ?_
  refine AllReadyH.cons (o := { dst := some 71, op := Op.load 42 (Operand.tmp 70), type := _, pos := _, after := _, guard := _ }) rfl (fun K9 hK9 => ?_) AllReadyH.nil
  go_simp
  refine hK9.out _ _ hS0 (fun _ => ?_)
  clear hK9 K9
  (try simp only [Act.put, List.setIfInBounds_toArray, List.set_cons_zero, List.set_cons_succ])
  refine wpAnyH_take (i := 7) (oi := { dst := some 75, op := Op.binOp BinOp.add 42 (Operand.tmp 71) (Operand.tmp 74) 42, type := _, pos := _, after := _, guard := _ }) (v := .int .u32 (wz (c1 + d2))) rfl (by kernel_rfl) (by kernel_rfl) (by kernel_rfl) (fun _ _ _ h => h) (Or.inl ⟨by rfl, fun V (hV : V.cell? ⟨w.heap.size, l, none⟩ = some (.int .u32 (wz d2))) => by go_simp⟩) hS0 ?_
  (try simp only [Act.put, List.setIfInBounds_toArray, List.set_cons_zero, List.set_cons_succ])
  refine wpAnyH_take (i := 8) (oi := { dst := some 76, op := Op.indexAddr 55 (Operand.tmp 5) (Operand.tmp 68), type := _, pos := _, after := _, guard := _ }) (v := .pointer (some ⟨w.heap.size, k, none⟩)) rfl (by kernel_rfl) (by kernel_rfl) (by kernel_rfl) (fun _ _ _ h => h) (Or.inl ⟨by rfl, fun V (hV : V.cell? ⟨w.heap.size, l, none⟩ = some (.int .u32 (wz d2))) => by go_simp⟩) hS0 ?_
  (try simp only [Act.put, List.setIfInBounds_toArray, List.set_cons_zero, List.set_cons_succ])
  refine wpAnyH_ready (rs := [9]) (by kernel_rfl) (by simp) ?_
  refine AllReadyH.cons (o := { dst := none, op := Op.store 42 (Operand.tmp 76) (Operand.tmp 75), type := _, pos := _, after := _, guard := _ }) rfl (fun K9 hK9 => ?_) AllReadyH.nil
  go_simp
  refine hK9.out _ _ (by rw [World.cell?_drew, World.cell?_setCell_other _ _ _ _ (by simp <;> omega)]; exact hS0) (fun _ => ?_)
  clear hK9 K9
  (try simp only [Act.put, List.setIfInBounds_toArray, List.set_cons_zero, List.set_cons_succ])
  refine wpAnyH_done (by kernel_rfl) ?_ _
  refine NoPanic.normal ?_
  clear hS0 hct
  obtain ⟨c2, hc2⟩ : ∃ x : W, x = c1 + d2 := ⟨_, rfl⟩
  rw [show c1 + d2 = c2 from hc2.symm]
  obtain ⟨V7, hV7⟩ : ∃ V, V = (V6.setCell ⟨w.heap.size, k, none⟩ (.int .u32 (wz c2))).drew := ⟨_, rfl⟩
  rw [← hV7]
  have hB6 : Blk V7 w.heap.size 55 ((((((((s.set i a1).set l d1).set k c1).set j b1).set i a2).set l d2).set k c2).map wv) := by rw [hV7]; exact ((unhide HB).setw k c2).drew
  have hR6 : Blk V7 (w.heap.size + 1) 55 ((List.replicate 16 (0 : W)).map wv) := by rw [hV7]; exact ((unhide HR).other _ _ (by simp)).drew
  have hg6 : w.grownBy V7 none := by rw [hV7]; exact gb_drew (gb_setCell (unhide HG) _ _ (Or.inl (Nat.le_refl _)))
  have ci2 : V7.cell? ⟨w.heap.size, i, none⟩ = some (.int .u32 (wz a2)) := by rw [hV7, World.cell?_drew, World.cell?_setCell_other _ _ _ _ (by simp <;> omega)]; exact ci
  have fi2 : V7.frozen? ⟨w.heap.size, i, none⟩ = false := hB6.fz i
  have cj2 : V7.cell? ⟨w.heap.size, j, none⟩ = some (.int .u32 (wz b1)) := by rw [hV7, World.cell?_drew, World.cell?_setCell_other _ _ _ _ (by simp <;> omega)]; exact cj
  have fj2 : V7.frozen? ⟨w.heap.size, j, none⟩ = false := hB6.fz j
  have ck2 : V7.cell? ⟨w.heap.size, k, none⟩ = some (.int .u32 (wz c2)) := by rw [hV7, World.cell?_drew]; exact World.cell?_setCell_same' _ _ _ (by rw [ck]; rfl)
  have fk2 : V7.frozen? ⟨w.heap.size, k, none⟩ = false := hB6.fz k
  have cl2 : V7.cell? ⟨w.heap.size, l, none⟩ = some (.int .u32 (wz d2)) := by rw [hV7, World.cell?_drew, World.cell?_setCell_other _ _ _ _ (by simp <;> omega)]; exact cl
  have fl2 : V7.frozen? ⟨w.heap.size, l, none⟩ = false := hB6.fz l
  clear ci cj ck cl fi fj fk fl HB HR HG
  have ci := ci2
  have fi := fi2
  have cj := cj2
  have fj := fj2
  have ck := ck2
  have fk := fk2
  have cl := cl2
  have fl := fl2
  have HB := hide hB6
  have HR := hide hR6
  have HG := hide hg6
  have Hc2 := hide hc2
  clear ci2 cj2 ck2 cl2 fi2 fj2 fk2 fl2 hB6 hR6 hg6 hV7 hc2
  go_wp2_with fail
  refine wp_region_noPanic ?_
  refine wp_region_held_drew (S := fun V => V.cell? ⟨w.heap.size, k, none⟩ = some (.int .u32 (wz c2))) (by kernel_rfl) (show V7.drew.cell? ⟨w.heap.size, k, none⟩ = some (.int .u32 (wz c2)) from ck) (fun _ => ?_)
  have hS0 : V7.drew.cell? ⟨w.heap.size, k, none⟩ = some (.int .u32 (wz c2)) := ck
  have hct : V7.drew.cell? ⟨w.heap.size, j, none⟩ = some (.int .u32 (wz b1)) := cj
  refine wpAnyH_take (i := 0) (oi := { dst := some 77, op := Op.move (Operand.tmp 2), type := _, pos := _, after := _, guard := _ }) (v := .int .i64 (j : Int)) rfl (by kernel_rfl) (by kernel_rfl) (by kernel_rfl) (fun _ _ _ h => h) (Or.inl ⟨by rfl, fun V (hV : V.cell? ⟨w.heap.size, k, none⟩ = some (.int .u32 (wz c2))) => by go_simp⟩) hS0 ?_
  (try simp only [Act.put, List.setIfInBounds_toArray, List.set_cons_zero, List.set_cons_succ])
  refine wpAnyH_take (i := 1) (oi := { dst := some 78, op := Op.move (Operand.tmp 2), type := _, pos := _, after := _, guard := _ }) (v := .int .i64 (j : Int)) rfl (by kernel_rfl) (by kernel_rfl) (by kernel_rfl) (fun _ _ _ h => h) (Or.inl ⟨by rfl, fun V (hV : V.cell? ⟨w.heap.size, k, none⟩ = some (.int .u32 (wz c2))) => by go_simp⟩) hS0 ?_
  (try simp only [Act.put, List.setIfInBounds_toArray, List.set_cons_zero, List.set_cons_succ])
  refine wpAnyH_take (i := 2) (oi := { dst := some 79, op := Op.indexAddr 55 (Operand.tmp 5) (Operand.tmp 78), type := _, pos := _, after := _, guard := _ }) (v := .pointer (some ⟨w.heap.size, j, none⟩)) rfl (by kernel_rfl) (by kernel_rfl) (by kernel_rfl) (fun _ _ _ h => h) (Or.inl ⟨by rfl, fun V (hV : V.cell? ⟨w.heap.size, k, none⟩ = some (.int .u32 (wz c2))) => by go_simp⟩) hS0 ?_
  (try simp only [Act.put, List.setIfInBounds_toArray, List.set_cons_zero, List.set_cons_succ])
  refine wpAnyH_take (i := 4) (oi := { dst := some 81, op := Op.move (Operand.tmp 3), type := _, pos := _, after := _, guard := _ }) (v := .int .i64 (k : Int)) rfl (by kernel_rfl) (by kernel_rfl) (by kernel_rfl) (fun _ _ _ h => h) (Or.inl ⟨by rfl, fun V (hV : V.cell? ⟨w.heap.size, k, none⟩ = some (.int .u32 (wz c2))) => by go_simp⟩) hS0 ?_
  (try simp only [Act.put, List.setIfInBounds_toArray, List.set_cons_zero, List.set_cons_succ])
  refine wpAnyH_take (i := 5) (oi := { dst := some 82, op := Op.indexAddr 55 (Operand.tmp 5) (Operand.tmp 81), type := _, pos := _, after := _, guard := _ }) (v := .pointer (some ⟨w.heap.size, k, none⟩)) rfl (by kernel_rfl) (by kernel_rfl) (by kernel_rfl) (fun _ _ _ h => h) (Or.inl ⟨by rfl, fun V (hV : V.cell? ⟨w.heap.size, k, none⟩ = some (.int .u32 (wz c2))) => by go_simp⟩) hS0 ?_
  (try simp only [Act.put, List.setIfInBounds_toArray, List.set_cons_zero, List.set_cons_succ])
  refine wpAnyH_take (i := 6) (oi := { dst := some 83, op := Op.load 42 (Operand.tmp 82), type := _, pos := _, after := _, guard := _ }) (v := .int .u32 (wz c2)) rfl (by kernel_rfl) (by kernel_rfl) (by kernel_rfl) (fun _ _ _ h => h) (Or.inl ⟨by rfl, fun V (hV : V.cell? ⟨w.heap.size, k, none⟩ = some (.int .u32 (wz c2))) => by go_simp⟩) hS0 ?_
  (try simp only [Act.put, List.setIfInBounds_toArray, List.set_cons_zero, List.set_cons_succ])
  refine wpAnyH_ready (rs := [3]) (by kernel_rfl) (by simp) ?_
  refine AllReadyH.cons (o := { dst := some 80, op := Op.load 42 (Operand.tmp 79), type := _, pos := _, after := _, guard := _ }) rfl (fun K9 hK9 => ?_) AllReadyH.nil
  go_simp
  refine hK9.out _ _ hS0 (fun _ => ?_)
  clear hK9 K9
  (try simp only [Act.put, List.setIfInBounds_toArray, List.set_cons_zero, List.set_cons_succ])
  refine wpAnyH_take (i := 7) (oi := { dst := some 84, op := Op.binOp BinOp.xor 42 (Operand.tmp 80) (Operand.tmp 83) 42, type := _, pos := _, after := _, guard := _ }) (v := .int .u32 (wz (b1 ^^^ c2))) rfl (by kernel_rfl) (by kernel_rfl) (by kernel_rfl) (fun _ _ _ h => h) (Or.inl ⟨by rfl, fun V (hV : V.cell? ⟨w.heap.size, k, none⟩ = some (.int .u32 (wz c2))) => by go_simp⟩) hS0 ?_
  (try simp only [Act.put, List.setIfInBounds_toArray, List.set_cons_zero, List.set_cons_succ])
  refine wpAnyH_ready (rs := [8]) (by kernel_rfl) (by simp) ?_
  refine AllReadyH.cons (o := { dst := some 85, op := Op.call { callee := Callee.value (Operand.func 50), args := #[(Operand.tmp 84), Operand.const (Value.int IntKind.u64 7)], argTypes := #[42, 39] }, type := _, pos := _, after := _, guard := _ }) rfl (fun K9 hK9 => ?_) AllReadyH.nil
  go_simp
  go_at_call 50
  refine (rturned_i _ _ _ ?_ ?_).mono ?_
  · decide
  · decide
  rintro e w9 ⟨rfl, rfl⟩
  go_wp2_with fail
  refine hK9.out _ _ hS0 (fun _ => ?_)
  clear hK9 K9
  (try simp only [Act.put, List.setIfInBounds_toArray, List.set_cons_zero, List.set_cons_succ])
  refine wpAnyH_take (i := 9) (oi := { dst := some 86, op := Op.indexAddr 55 (Operand.tmp 5) (Operand.tmp 77), type := _, pos := _, after := _, guard := _ }) (v := .pointer (some ⟨w.heap.size, j, none⟩)) rfl (by kernel_rfl) (by kernel_rfl) (by kernel_rfl) (fun _ _ _ h => h) (Or.inl ⟨by rfl, fun V (hV : V.cell? ⟨w.heap.size, k, none⟩ = some (.int .u32 (wz c2))) => by go_simp⟩) hS0 ?_
  (try simp only [Act.put, List.setIfInBounds_toArray, List.set_cons_zero, List.set_cons_succ])
  refine wpAnyH_ready (rs := [10]) (by kernel_rfl) (by simp) ?_
  refine AllReadyH.cons (o := { dst := none, op := Op.store 42 (Operand.tmp 86) (Operand.tmp 85), type := _, pos := _, after := _, guard := _ }) rfl (fun K9 hK9 => ?_) AllReadyH.nil
  go_simp
  refine hK9.out _ _ (by rw [World.cell?_drew, World.cell?_setCell_other _ _ _ _ (by simp <;> omega)]; exact hS0) (fun _ => ?_)
  clear hK9 K9
  (try simp only [Act.put, List.setIfInBounds_toArray, List.set_cons_zero, List.set_cons_succ])
  refine wpAnyH_done (by kernel_rfl) ?_ _
  refine NoPanic.normal ?_
  clear hS0 hct
  obtain ⟨b2, hb2⟩ : ∃ x : W, x = rol (b1 ^^^ c2) 7 := ⟨_, rfl⟩
  rw [show rol (b1 ^^^ c2) 7 = b2 from hb2.symm]
  obtain ⟨V8, hV8⟩ : ∃ V, V = (V7.setCell ⟨w.heap.size, j, none⟩ (.int .u32 (wz b2))).drew := ⟨_, rfl⟩
  rw [← hV8]
  have hB7 : Blk V8 w.heap.size 55 (((((((((s.set i a1).set l d1).set k c1).set j b1).set i a2).set l d2).set k c2).set j b2).map wv) := by rw [hV8]; exact ((unhide HB).setw j b2).drew
  have hR7 : Blk V8 (w.heap.size + 1) 55 ((List.replicate 16 (0 : W)).map wv) := by rw [hV8]; exact ((unhide HR).other _ _ (by simp)).drew
  have hg7 : w.grownBy V8 none := by rw [hV8]; exact gb_drew (gb_setCell (unhide HG) _ _ (Or.inl (Nat.le_refl _)))
  have ci2 : V8.cell? ⟨w.heap.size, i, none⟩ = some (.int .u32 (wz a2)) := by rw [hV8, World.cell?_drew, World.cell?_setCell_other _ _ _ _ (by simp <;> omega)]; exact ci
  have fi2 : V8.frozen? ⟨w.heap.size, i, none⟩ = false := hB7.fz i
  have cj2 : V8.cell? ⟨w.heap.size, j, none⟩ = some (.int .u32 (wz b2)) := by rw [hV8, World.cell?_drew]; exact World.cell?_setCell_same' _ _ _ (by rw [cj]; rfl)
  have fj2 : V8.frozen? ⟨w.heap.size, j, none⟩ = false := hB7.fz j
  have ck2 : V8.cell? ⟨w.heap.size, k, none⟩ = some (.int .u32 (wz c2)) := by rw [hV8, World.cell?_drew, World.cell?_setCell_other _ _ _ _ (by simp <;> omega)]; exact ck
  have fk2 : V8.frozen? ⟨w.heap.size, k, none⟩ = false := hB7.fz k
  have cl2 : V8.cell? ⟨w.heap.size, l, none⟩ = some (.int .u32 (wz d2)) := by rw [hV8, World.cell?_drew, World.cell?_setCell_other _ _ _ _ (by simp <;> omega)]; exact cl
  have fl2 : V8.frozen? ⟨w.heap.size, l, none⟩ = false := hB7.fz l
  clear ci cj ck cl fi fj fk fl HB HR HG
  have ci := ci2
  have fi := fi2
  have cj := cj2
  have fj := fj2
  have ck := ck2
  have fk := fk2
  have cl := cl2
  have fl := fl2
  have HB := hide hB7
  have HR := hide hR7
  have HG := hide hg7
  have Hb2 := hide hb2
  clear ci2 cj2 ck2 cl2 fi2 fj2 fk2 fl2 hB7 hR7 hg7 hV8 hb2
  have e : quartL s i j k l = (((s.set i a2).set j b2).set k c2).set l d2 := by
    unfold quartL put4
    rw [← unhide HA, ← unhide HBB, ← unhide HC, ← unhide HD, unhide Hb2, unhide Hc2, unhide Hd2, unhide Ha2, unhide Hb1, unhide Hc1, unhide Hd1, unhide Ha1]
    rfl
  have hBf := unhide HB
  rw [set8 s i j k l hij hik hil hjk hjl hkl, ← e] at hBf
  have hRf := unhide HR
  have hGf := unhide HG
  have hi16 : (Tryd.prog.info? 55).map (·.size) = some 16 := by kernel_rfl
  have hsz : (((quartL s i j k l).map wv).toArray).size = 16 := by simp [quartL_length, unhide HS]
  have HSZ := hide hsz
  clear hsz e HB HR HG ci cj ck cl fi fj fk fl
  go_wp2_with (first | (refine wpList_load_row rfl 55 _ rfl w.heap.size rfl _ _ _ _ hBf Tryd.underlying55 rfl ?_ ?_; (rw [unhide HSZ]; exact hi16)) | (refine wpList_store_row rfl 55 _ _ rfl (w.heap.size + 1) _ rfl rfl _ _ hRf ?_ ?_ ?_ ?_; (rw [unhide HSZ]; exact hi16); (rw [unhide HSZ]; rfl); (exact all_oneCell_toArray (wv_one _))))
  have hS := hRf.row ((quartL s i j k l).map wv)
  have hG : w.grownBy (V8.setRow (w.heap.size + 1) ((quartL s i j k l).map wv).toArray) none := gb_row hGf _ (Or.inl (by omega))
  refine bodyPost_ret (v := .agg ((quartL s i j k l).map wv).toArray) (results_cell_row (g := w.heap.size + 1) rfl _ _ _ _ _ _ ?_ hS Tryd.underlying55 rfl ?_) rfl ⟨rfl, hG⟩
  · rfl
  · rw [unhide HSZ]; exact hi16

end Go.Proofs.YtceiehkbhebnpaaDoor

/- What the document's answer for layer 4 (package coffretref04) reckons of four bytes of a string (word). Of a string that has them. -/
namespace Go.Proofs.YtceiehkbhebnpaaDoor
open Go.RowKit

set_option maxRecDepth 100000 in
set_option maxHeartbeats 2000000 in
theorem rword_any (w : World) (l : List UInt8) (i : Nat) (hi : 4 * i + 3 < l.length) (hl : l.length ≤ 1000) :
    Calls Tryd.prog 38 #[.string (str l), .int .i64 (i : Int)] w fun e w' => e = .returned (.int .u32 (wz (leAt l i))) ∧ w.grownBy w' none := by
  have hn : ∀ j p, j < 4 → p = 4 * i + j → ∃ n : Nat, n < 256 ∧ n = (l.getD (4 * i + j) 0).toNat ∧ (0 : Int) ≤ (p : Int) ∧ (p : Int) < ((str l).size : Int) ∧ (∀ h, ((str l)[p]'h).toNat = n) := by
    intro j p hj hp
    subst hp
    have hq : 4 * i + j < l.length := by omega
    refine ⟨_, (l.getD (4 * i + j) 0).toNat_lt, rfl, by omega, by rw [str_size]; omega, fun h => ?_⟩
    have e : (str l)[4 * i + j]'h = l[4 * i + j] := rfl
    rw [e]
    first | (simp [List.getD, hq]; done) | (simp [List.getD, hq]; rfl)
  obtain ⟨p0, hp0⟩ : ∃ p : Nat, p = 4 * i := ⟨_, rfl⟩
  obtain ⟨p1, hp1⟩ : ∃ p : Nat, p = 4 * i + 1 := ⟨_, rfl⟩
  obtain ⟨p2, hp2⟩ : ∃ p : Nat, p = 4 * i + 2 := ⟨_, rfl⟩
  obtain ⟨p3, hp3⟩ : ∃ p : Nat, p = 4 * i + 3 := ⟨_, rfl⟩
  obtain ⟨n0, hn0, e0, la0, lb0, hi0⟩ := hn 0 p0 (by omega) (by omega)
  obtain ⟨n1, hn1, e1, la1, lb1, hi1⟩ := hn 1 p1 (by omega) (by omega)
  obtain ⟨n2, hn2, e2, la2, lb2, hi2⟩ := hn 2 p2 (by omega) (by omega)
  obtain ⟨n3, hn3, e3, la3, lb3, hi3⟩ := hn 3 p3 (by omega) (by omega)
  rw [Nat.add_zero] at e0
  clear hn
  have hw0 : IntKind.i64.wrap (p0 : Int) = (p0 : Int) := by rw [IntKind.wrap_i64]; omega
  have hm0 : 4 * (i : Int) = (p0 : Int) := by omega
  have hw1 : IntKind.i64.wrap ((p0 : Int) + 1) = (p1 : Int) := by rw [IntKind.wrap_i64]; omega
  have hw2 : IntKind.i64.wrap ((p0 : Int) + 2) = (p2 : Int) := by rw [IntKind.wrap_i64]; omega
  have hw3 : IntKind.i64.wrap ((p0 : Int) + 3) = (p3 : Int) := by rw [IntKind.wrap_i64]; omega
  have hx : (n0 : Int) + (n1 : Int) * 256 + (n2 : Int) * 65536 + (n3 : Int) * 16777216 = wz (leAt l i) := by
    unfold leAt
    rw [wz_leOf, ← e0, ← e1, ← e2, ← e3]
    omega
  have c0 : IntKind.u32.wrap (n0 : Int) = (n0 : Int) := by rw [IntKind.wrap_u32]; omega
  have c1 : IntKind.u32.wrap (n1 : Int) = (n1 : Int) := by rw [IntKind.wrap_u32]; omega
  have c2 : IntKind.u32.wrap (n2 : Int) = (n2 : Int) := by rw [IntKind.wrap_u32]; omega
  have c3 : IntKind.u32.wrap (n3 : Int) = (n3 : Int) := by rw [IntKind.wrap_u32]; omega
  have s1 : IntKind.u32.wrap ((n1 : Int) * 256) = (n1 : Int) * 256 := by rw [IntKind.wrap_u32]; omega
  have s2 : IntKind.u32.wrap ((n2 : Int) * 65536) = (n2 : Int) * 65536 := by rw [IntKind.wrap_u32]; omega
  have s3 : IntKind.u32.wrap ((n3 : Int) * 16777216) = (n3 : Int) * 16777216 := by rw [IntKind.wrap_u32]; omega
  have a1 : IntKind.u32.wrap ((n0 : Int) + (n1 : Int) * 256) = (n0 : Int) + (n1 : Int) * 256 := by rw [IntKind.wrap_u32]; omega
  have a2 : IntKind.u32.wrap ((n0 : Int) + (n1 : Int) * 256 + (n2 : Int) * 65536) = (n0 : Int) + (n1 : Int) * 256 + (n2 : Int) * 65536 := by rw [IntKind.wrap_u32]; omega
  have a3 : IntKind.u32.wrap ((n0 : Int) + (n1 : Int) * 256 + (n2 : Int) * 65536 + (n3 : Int) * 16777216) = (n0 : Int) + (n1 : Int) * 256 + (n2 : Int) * 65536 + (n3 : Int) * 16777216 := by rw [IntKind.wrap_u32]; omega
  have HX := hide hx
  clear hx e0 e1 e2 e3 hp0 hp1 hp2 hp3 hi hl
  go_enter Tryd.func38, Tryd.ntmps38
  go_wp2
  refine wp_region_held_drew (S := fun V => True) (by kernel_rfl) trivial (fun _ => ?_)
  refine wpAnyH_take (i := 0) (oi := { dst := some 5, op := Op.move (Operand.tmp 0), type := _, pos := _, after := _, guard := _ }) (v := .string (str l)) rfl (by kernel_rfl) (by kernel_rfl) (by kernel_rfl) (fun _ _ _ h => h) (Or.inl ⟨by rfl, fun V (hV : True) => by go_simp⟩) trivial ?_
  (try simp only [Act.put, List.setIfInBounds_toArray, List.set_cons_zero, List.set_cons_succ])
  refine wpAnyH_take (i := 1) (oi := { dst := some 6, op := Op.move (Operand.tmp 1), type := _, pos := _, after := _, guard := _ }) (v := .int .i64 (i : Int)) rfl (by kernel_rfl) (by kernel_rfl) (by kernel_rfl) (fun _ _ _ h => h) (Or.inl ⟨by rfl, fun V (hV : True) => by go_simp⟩) trivial ?_
  (try simp only [Act.put, List.setIfInBounds_toArray, List.set_cons_zero, List.set_cons_succ])
  refine wpAnyH_take (i := 2) (oi := { dst := some 7, op := Op.binOp BinOp.mul 3 (Operand.const (Value.int IntKind.i64 4)) (Operand.tmp 6) 3, type := _, pos := _, after := _, guard := _ }) (v := .int .i64 (p0 : Int)) rfl (by kernel_rfl) (by kernel_rfl) (by kernel_rfl) (fun _ _ _ h => h) (Or.inl ⟨by rfl, fun V (hV : True) => by go_simp⟩) trivial ?_
  (try simp only [Act.put, List.setIfInBounds_toArray, List.set_cons_zero, List.set_cons_succ])
  refine wpAnyH_take (i := 3) (oi := { dst := some 8, op := Op.index 9 (Operand.tmp 5) (Operand.tmp 7), type := _, pos := _, after := _, guard := _ }) (v := .int .u8 (n0 : Int)) rfl (by kernel_rfl) (by kernel_rfl) (by kernel_rfl) (fun _ _ _ h => h) (Or.inl ⟨by rfl, fun V (hV : True) => by go_simp⟩) trivial ?_
  (try simp only [Act.put, List.setIfInBounds_toArray, List.set_cons_zero, List.set_cons_succ])
  refine wpAnyH_take (i := 4) (oi := { dst := some 9, op := Op.convert 5 42 (Operand.tmp 8), type := _, pos := _, after := _, guard := _ }) (v := .int .u32 (n0 : Int)) rfl (by kernel_rfl) (by kernel_rfl) (by kernel_rfl) (fun _ _ _ h => h) (Or.inl ⟨by rfl, fun V (hV : True) => by go_simp⟩) trivial ?_
  (try simp only [Act.put, List.setIfInBounds_toArray, List.set_cons_zero, List.set_cons_succ])
  refine wpAnyH_take (i := 5) (oi := { dst := some 10, op := Op.move (Operand.tmp 0), type := _, pos := _, after := _, guard := _ }) (v := .string (str l)) rfl (by kernel_rfl) (by kernel_rfl) (by kernel_rfl) (fun _ _ _ h => h) (Or.inl ⟨by rfl, fun V (hV : True) => by go_simp⟩) trivial ?_
  (try simp only [Act.put, List.setIfInBounds_toArray, List.set_cons_zero, List.set_cons_succ])
  refine wpAnyH_take (i := 6) (oi := { dst := some 11, op := Op.move (Operand.tmp 1), type := _, pos := _, after := _, guard := _ }) (v := .int .i64 (i : Int)) rfl (by kernel_rfl) (by kernel_rfl) (by kernel_rfl) (fun _ _ _ h => h) (Or.inl ⟨by rfl, fun V (hV : True) => by go_simp⟩) trivial ?_
  (try simp only [Act.put, List.setIfInBounds_toArray, List.set_cons_zero, List.set_cons_succ])
  refine wpAnyH_take (i := 7) (oi := { dst := some 12, op := Op.binOp BinOp.mul 3 (Operand.const (Value.int IntKind.i64 4)) (Operand.tmp 11) 3, type := _, pos := _, after := _, guard := _ }) (v := .int .i64 (p0 : Int)) rfl (by kernel_rfl) (by kernel_rfl) (by kernel_rfl) (fun _ _ _ h => h) (Or.inl ⟨by rfl, fun V (hV : True) => by go_simp⟩) trivial ?_
  (try simp only [Act.put, List.setIfInBounds_toArray, List.set_cons_zero, List.set_cons_succ])
  refine wpAnyH_take (i := 8) (oi := { dst := some 13, op := Op.binOp BinOp.add 3 (Operand.tmp 12) (Operand.const (Value.int IntKind.i64 1)) 3, type := _, pos := _, after := _, guard := _ }) (v := .int .i64 (p1 : Int)) rfl (by kernel_rfl) (by kernel_rfl) (by kernel_rfl) (fun _ _ _ h => h) (Or.inl ⟨by rfl, fun V (hV : True) => by go_simp⟩) trivial ?_
  (try simp only [Act.put, List.setIfInBounds_toArray, List.set_cons_zero, List.set_cons_succ])
  refine wpAnyH_take (i := 9) (oi := { dst := some 14, op := Op.index 9 (Operand.tmp 10) (Operand.tmp 13), type := _, pos := _, after := _, guard := _ }) (v := .int .u8 (n1 : Int)) rfl (by kernel_rfl) (by kernel_rfl) (by kernel_rfl) (fun _ _ _ h => h) (Or.inl ⟨by rfl, fun V (hV : True) => by go_simp⟩) trivial ?_
  (try simp only [Act.put, List.setIfInBounds_toArray, List.set_cons_zero, List.set_cons_succ])
  refine wpAnyH_take (i := 10) (oi := { dst := some 15, op := Op.convert 5 42 (Operand.tmp 14), type := _, pos := _, after := _, guard := _ }) (v := .int .u32 (n1 : Int)) rfl (by kernel_rfl) (by kernel_rfl) (by kernel_rfl) (fun _ _ _ h => h) (Or.inl ⟨by rfl, fun V (hV : True) => by go_simp⟩) trivial ?_
  (try simp only [Act.put, List.setIfInBounds_toArray, List.set_cons_zero, List.set_cons_succ])
  refine wpAnyH_take (i := 11) (oi := { dst := some 16, op := Op.binOp BinOp.shl 42 (Operand.tmp 15) (Operand.const (Value.int IntKind.u64 8)) 39, type := _, pos := _, after := _, guard := _ }) (v := .int .u32 ((n1 : Int) * 256)) rfl (by kernel_rfl) (by kernel_rfl) (by kernel_rfl) (fun _ _ _ h => h) (Or.inl ⟨by rfl, fun V (hV : True) => by go_simp⟩) trivial ?_
  (try simp only [Act.put, List.setIfInBounds_toArray, List.set_cons_zero, List.set_cons_succ])
  refine wpAnyH_take (i := 12) (oi := { dst := some 17, op := Op.binOp BinOp.add 42 (Operand.tmp 9) (Operand.tmp 16) 42, type := _, pos := _, after := _, guard := _ }) (v := .int .u32 ((n0 : Int) + (n1 : Int) * 256)) rfl (by kernel_rfl) (by kernel_rfl) (by kernel_rfl) (fun _ _ _ h => h) (Or.inl ⟨by rfl, fun V (hV : True) => by go_simp⟩) trivial ?_
  (try simp only [Act.put, List.setIfInBounds_toArray, List.set_cons_zero, List.set_cons_succ])
  refine wpAnyH_take (i := 13) (oi := { dst := some 18, op := Op.move (Operand.tmp 0), type := _, pos := _, after := _, guard := _ }) (v := .string (str l)) rfl (by kernel_rfl) (by kernel_rfl) (by kernel_rfl) (fun _ _ _ h => h) (Or.inl ⟨by rfl, fun V (hV : True) => by go_simp⟩) trivial ?_
  (try simp only [Act.put, List.setIfInBounds_toArray, List.set_cons_zero, List.set_cons_succ])
  refine wpAnyH_take (i := 14) (oi := { dst := some 19, op := Op.move (Operand.tmp 1), type := _, pos := _, after := _, guard := _ }) (v := .int .i64 (i : Int)) rfl (by kernel_rfl) (by kernel_rfl) (by kernel_rfl) (fun _ _ _ h => h) (Or.inl ⟨by rfl, fun V (hV : True) => by go_simp⟩) trivial ?_
  (try simp only [Act.put, List.setIfInBounds_toArray, List.set_cons_zero, List.set_cons_succ])
  refine wpAnyH_take (i := 15) (oi := { dst := some 20, op := Op.binOp BinOp.mul 3 (Operand.const (Value.int IntKind.i64 4)) (Operand.tmp 19) 3, type := _, pos := _, after := _, guard := _ }) (v := .int .i64 (p0 : Int)) rfl (by kernel_rfl) (by kernel_rfl) (by kernel_rfl) (fun _ _ _ h => h) (Or.inl ⟨by rfl, fun V (hV : True) => by go_simp⟩) trivial ?_
  (try simp only [Act.put, List.setIfInBounds_toArray, List.set_cons_zero, List.set_cons_succ])
  refine wpAnyH_take (i := 16) (oi := { dst := some 21, op := Op.binOp BinOp.add 3 (Operand.tmp 20) (Operand.const (Value.int IntKind.i64 2)) 3, type := _, pos := _, after := _, guard := _ }) (v := .int .i64 (p2 : Int)) rfl (by kernel_rfl) (by kernel_rfl) (by kernel_rfl) (fun _ _ _ h => h) (Or.inl ⟨by rfl, fun V (hV : True) => by go_simp⟩) trivial ?_
  (try simp only [Act.put, List.setIfInBounds_toArray, List.set_cons_zero, List.set_cons_succ])
  refine wpAnyH_take (i := 17) (oi := { dst := some 22, op := Op.index 9 (Operand.tmp 18) (Operand.tmp 21), type := _, pos := _, after := _, guard := _ }) (v := .int .u8 (n2 : Int)) rfl (by kernel_rfl) (by kernel_rfl) (by kernel_rfl) (fun _ _ _ h => h) (Or.inl ⟨by rfl, fun V (hV : True) => by go_simp⟩) trivial ?_
  (try simp only [Act.put, List.setIfInBounds_toArray, List.set_cons_zero, List.set_cons_succ])
  refine wpAnyH_take (i := 18) (oi := { dst := some 23, op := Op.convert 5 42 (Operand.tmp 22), type := _, pos := _, after := _, guard := _ }) (v := .int .u32 (n2 : Int)) rfl (by kernel_rfl) (by kernel_rfl) (by kernel_rfl) (fun _ _ _ h => h) (Or.inl ⟨by rfl, fun V (hV : True) => by go_simp⟩) trivial ?_
  (try simp only [Act.put, List.setIfInBounds_toArray, List.set_cons_zero, List.set_cons_succ])
  refine wpAnyH_take (i := 19) (oi := { dst := some 24, op := Op.binOp BinOp.shl 42 (Operand.tmp 23) (Operand.const (Value.int IntKind.u64 16)) 39, type := _, pos := _, after := _, guard := _ }) (v := .int .u32 ((n2 : Int) * 65536)) rfl (by kernel_rfl) (by kernel_rfl) (by kernel_rfl) (fun _ _ _ h => h) (Or.inl ⟨by rfl, fun V (hV : True) => by go_simp⟩) trivial ?_
  (try simp only [Act.put, List.setIfInBounds_toArray, List.set_cons_zero, List.set_cons_succ])
  refine wpAnyH_take (i := 20) (oi := { dst := some 25, op := Op.binOp BinOp.add 42 (Operand.tmp 17) (Operand.tmp 24) 42, type := _, pos := _, after := _, guard := _ }) (v := .int .u32 ((n0 : Int) + (n1 : Int) * 256 + (n2 : Int) * 65536)) rfl (by kernel_rfl) (by kernel_rfl) (by kernel_rfl) (fun _ _ _ h => h) (Or.inl ⟨by rfl, fun V (hV : True) => by go_simp⟩) trivial ?_
  (try simp only [Act.put, List.setIfInBounds_toArray, List.set_cons_zero, List.set_cons_succ])
  refine wpAnyH_take (i := 21) (oi := { dst := some 26, op := Op.move (Operand.tmp 0), type := _, pos := _, after := _, guard := _ }) (v := .string (str l)) rfl (by kernel_rfl) (by kernel_rfl) (by kernel_rfl) (fun _ _ _ h => h) (Or.inl ⟨by rfl, fun V (hV : True) => by go_simp⟩) trivial ?_
  (try simp only [Act.put, List.setIfInBounds_toArray, List.set_cons_zero, List.set_cons_succ])
  refine wpAnyH_take (i := 22) (oi := { dst := some 27, op := Op.move (Operand.tmp 1), type := _, pos := _, after := _, guard := _ }) (v := .int .i64 (i : Int)) rfl (by kernel_rfl) (by kernel_rfl) (by kernel_rfl) (fun _ _ _ h => h) (Or.inl ⟨by rfl, fun V (hV : True) => by go_simp⟩) trivial ?_
  (try simp only [Act.put, List.setIfInBounds_toArray, List.set_cons_zero, List.set_cons_succ])
  refine wpAnyH_take (i := 23) (oi := { dst := some 28, op := Op.binOp BinOp.mul 3 (Operand.const (Value.int IntKind.i64 4)) (Operand.tmp 27) 3, type := _, pos := _, after := _, guard := _ }) (v := .int .i64 (p0 : Int)) rfl (by kernel_rfl) (by kernel_rfl) (by kernel_rfl) (fun _ _ _ h => h) (Or.inl ⟨by rfl, fun V (hV : True) => by go_simp⟩) trivial ?_
  (try simp only [Act.put, List.setIfInBounds_toArray, List.set_cons_zero, List.set_cons_succ])
  refine wpAnyH_take (i := 24) (oi := { dst := some 29, op := Op.binOp BinOp.add 3 (Operand.tmp 28) (Operand.const (Value.int IntKind.i64 3)) 3, type := _, pos := _, after := _, guard := _ }) (v := .int .i64 (p3 : Int)) rfl (by kernel_rfl) (by kernel_rfl) (by kernel_rfl) (fun _ _ _ h => h) (Or.inl ⟨by rfl, fun V (hV : True) => by go_simp⟩) trivial ?_
  (try simp only [Act.put, List.setIfInBounds_toArray, List.set_cons_zero, List.set_cons_succ])
  refine wpAnyH_take (i := 25) (oi := { dst := some 30, op := Op.index 9 (Operand.tmp 26) (Operand.tmp 29), type := _, pos := _, after := _, guard := _ }) (v := .int .u8 (n3 : Int)) rfl (by kernel_rfl) (by kernel_rfl) (by kernel_rfl) (fun _ _ _ h => h) (Or.inl ⟨by rfl, fun V (hV : True) => by go_simp⟩) trivial ?_
  (try simp only [Act.put, List.setIfInBounds_toArray, List.set_cons_zero, List.set_cons_succ])
  refine wpAnyH_take (i := 26) (oi := { dst := some 31, op := Op.convert 5 42 (Operand.tmp 30), type := _, pos := _, after := _, guard := _ }) (v := .int .u32 (n3 : Int)) rfl (by kernel_rfl) (by kernel_rfl) (by kernel_rfl) (fun _ _ _ h => h) (Or.inl ⟨by rfl, fun V (hV : True) => by go_simp⟩) trivial ?_
  (try simp only [Act.put, List.setIfInBounds_toArray, List.set_cons_zero, List.set_cons_succ])
  refine wpAnyH_take (i := 27) (oi := { dst := some 32, op := Op.binOp BinOp.shl 42 (Operand.tmp 31) (Operand.const (Value.int IntKind.u64 24)) 39, type := _, pos := _, after := _, guard := _ }) (v := .int .u32 ((n3 : Int) * 16777216)) rfl (by kernel_rfl) (by kernel_rfl) (by kernel_rfl) (fun _ _ _ h => h) (Or.inl ⟨by rfl, fun V (hV : True) => by go_simp⟩) trivial ?_
  (try simp only [Act.put, List.setIfInBounds_toArray, List.set_cons_zero, List.set_cons_succ])
  refine wpAnyH_take (i := 28) (oi := { dst := some 33, op := Op.binOp BinOp.add 42 (Operand.tmp 25) (Operand.tmp 32) 42, type := _, pos := _, after := _, guard := _ }) (v := .int .u32 ((n0 : Int) + (n1 : Int) * 256 + (n2 : Int) * 65536 + (n3 : Int) * 16777216)) rfl (by kernel_rfl) (by kernel_rfl) (by kernel_rfl) (fun _ _ _ h => h) (Or.inl ⟨by rfl, fun V (hV : True) => by go_simp⟩) trivial ?_
  (try simp only [Act.put, List.setIfInBounds_toArray, List.set_cons_zero, List.set_cons_succ])
  refine wpAnyH_take (i := 29) (oi := { dst := some 4, op := Op.assign (Operand.tmp 33), type := _, pos := _, after := _, guard := _ }) (v := .int .u32 ((n0 : Int) + (n1 : Int) * 256 + (n2 : Int) * 65536 + (n3 : Int) * 16777216)) rfl (by kernel_rfl) (by kernel_rfl) (by kernel_rfl) (fun _ _ _ h => h) (Or.inl ⟨by rfl, fun V (hV : True) => by go_simp⟩) trivial ?_
  (try simp only [Act.put, List.setIfInBounds_toArray, List.set_cons_zero, List.set_cons_succ])
  refine wpAnyH_done (by kernel_rfl) ?_ _
  go_wp2
  go_ret
  rw [unhide HX]
  exact ⟨rfl, gb_drew (gb_refl _ _)⟩

end Go.Proofs.YtceiehkbhebnpaaDoor

/- What the document's answer for layer 4 (package coffretref04) gives as a block (Block): THE BLOCK. Of a key of 32 bytes and a nonce of 12. -/
namespace Go.Proofs.YtceiehkbhebnpaaDoor
open Go.RowKit
attribute [local go_sem ↓] Go.wp_at_zero Go.wp_at_succ

set_option maxRecDepth 100000 in
set_option maxHeartbeats 8000000 in
theorem rblock4_any (w : World) (k n : List UInt8) (c : W) (hk : k.length = 32) (hn : n.length = 12) :
    Calls Tryd.prog 23 #[.string (str k), .string (str n), .int .u32 (wz c)] w fun e w' => e = .returned (.agg ((blockL k n c).map bv).toArray) ∧ w.grownBy w' none := by
  have hi16 : (Tryd.prog.info? 55).map (·.size) = some 16 := by kernel_rfl
  have hi64 : (Tryd.prog.info? 44).map (·.size) = some 64 := by kernel_rfl
  obtain ⟨Y64, hY64⟩ : ∃ A : Array Value, A = ((List.replicate 64 (0 : UInt8)).map bv).toArray := ⟨_, rfl⟩
  have hy := zero64b
  rw [← hY64] at hy
  obtain ⟨Y16, hY16⟩ : ∃ A : Array Value, A = ((List.replicate 16 (0 : W)).map wv).toArray := ⟨_, rfl⟩
  obtain ⟨F, hF⟩ : ∃ F, F = firstL k n c := ⟨_, rfl⟩
  have hFl : F.length = 16 := by rw [hF]; exact firstL_length _ _ _
  obtain ⟨W1, hW1⟩ : ∃ W1, W1 = (w.alloc (.cells Y64 44)).alloc (.cells #[.int .u32 1634760805, .int .u32 857760878, .int .u32 2036477234, .int .u32 1797285236, .int .u32 0, .int .u32 0, .int .u32 0, .int .u32 0, .int .u32 0, .int .u32 0, .int .u32 0, .int .u32 0, .int .u32 0, .int .u32 0, .int .u32 0, .int .u32 0] 55) := ⟨_, rfl⟩
  have hg : w.grownBy W1 none := by rw [hW1]; exact gb_alloc (gb_alloc (gb_refl _ _) _) _
  have hB1 : Blk W1 (w.heap.size + 1) 55 ((F.take (4 + 0) ++ List.replicate (16 - (4 + 0)) 0).map wv) := by
    have := Blk.new (w.alloc (.cells Y64 44)) 55 ((Fw ++ List.replicate 12 0).map wv)
    rw [World.size_alloc] at this
    rw [hF, show (firstL k n c).take (4 + 0) = Fw from rfl, hW1]
    exact this
  have hR1 : Blk W1 w.heap.size 44 ((List.replicate 64 (0 : UInt8)).map bv) := by rw [hW1, hY64]; exact (Blk.new w 44 _).alloc _
  have HB := hide hB1
  have HR := hide hR1
  have HK := hide hk
  have HN := hide hn
  have HF := hide hF
  have HFL := hide hFl
  have HY64 := hide hY64
  have HY16 := hide hY16
  have HW1 := hide hW1
  clear hB1 hR1 hk hn hF hFl hY64 hY16 hW1
  go_enter Tryd.func23, Tryd.ntmps23
  go_wp2
  rw [← unhide HW1]
  go_loopw [8] (fun i wr => ∃ r : Nat, r ≤ 8 ∧ i = .int .i64 r ∧ Blk wr (w.heap.size + 1) 55 ((F.take (4 + r) ++ List.replicate (16 - (4 + r)) 0).map wv) ∧ Blk wr w.heap.size 44 ((List.replicate 64 (0 : UInt8)).map bv) ∧ w.grownBy wr none) (fun i _ => 8 - (intOf i).toNat)
  case atStart => exact ⟨0, Nat.zero_le _, rfl, unhide HB, unhide HR, hg⟩
  case round =>
    clear HB HR hg
    obtain ⟨r, hr, rfl, hB, hR, hg⟩ := hrel
    by_cases hlt : r < 8
    · have hwo := rword_any wr k r (by rw [unhide HK]; omega) (by rw [unhide HK]; omega)
      obtain ⟨x, hx⟩ : ∃ x, x = leAt k r := ⟨_, rfl⟩
      rw [← hx] at hwo
      obtain ⟨q, hq⟩ : ∃ q : Nat, q = 4 + r := ⟨_, rfl⟩
      rw [← hq] at hB
      have hq1 : (r : Int) < 8 := by omega
      have hw4 : IntKind.i64.wrap (4 + (r : Int)) = (q : Int) := by rw [IntKind.wrap_i64]; omega
      have b0 : (0 : Int) ≤ (q : Int) := by omega
      have b1 : (q : Int) < 16 := by omega
      have HX := hide hx
      have HQQ := hide hq
      have HB := hide hB
      have HR := hide hR
      clear hx hB hR hq
      go_wp2_with fail
      refine hwo.mono ?_
      rintro e w2 ⟨rfl, g2⟩
      have hB := (unhide HB).kept g2 (by simp)
      have hg2 := gb_trans hg g2 (fun _ e => by cases e)
      have hqq := unhide HQQ
      have hcs : (w2.cell? ⟨w.heap.size + 1, q, none⟩).isSome = true ∧ w2.frozen? ⟨w.heap.size + 1, q, none⟩ = false := by
        have := hB.there q 1 (by simp [unhide HFL]; omega) 0 (by omega)
        simpa using this
      obtain ⟨hcs, hcf⟩ := hcs
      obtain ⟨ov, hcs⟩ := Option.isSome_iff_exists.1 hcs
      have HB2 := hide hB
      have HQ3 := hide hqq
      clear hB hqq
      go_wp2
      go_roundw
      case rel =>
        have hS := (unhide HB2).set q (wv x)
        rw [unhide HF, first_step k n c q (by have := unhide HQ3; omega) x (by rw [unhide HQ3, firstL_key k n c r hlt, unhide HX]), ← unhide HF] at hS
        rw [unhide HQ3, show 4 + r + 1 = 4 + (r + 1) by omega] at hS
        rw [unhide HQ3]
        exact ⟨r + 1, by omega, by go_num, hS, ((unhide HR).kept g2 (by simp)).other _ _ (by simp <;> omega), gb_setCell hg2 _ _ (Or.inl (by simp <;> omega))⟩
      case measure => simp [intOf]; omega
    · obtain rfl : r = 8 := by omega
      rw [show ((8 : Nat) : Int) = 8 from rfl]
      rw [show 4 + 8 = 12 from rfl] at hB
      have hcs : (wr.cell? ⟨w.heap.size + 1, 12, none⟩).isSome = true ∧ wr.frozen? ⟨w.heap.size + 1, 12, none⟩ = false := by
        have := hB.there 12 1 (by simp [unhide HFL]) 0 (by omega)
        simpa using this
      obtain ⟨hcs, hcf⟩ := hcs
      obtain ⟨ov, hcs⟩ := Option.isSome_iff_exists.1 hcs
      have hS := hB.set 12 (wv c)
      rw [unhide HF, first_step k n c 12 (by omega) c (firstL_count k n c), ← unhide HF] at hS
      have hR2 := hR.other ⟨w.heap.size + 1, 12, none⟩ (wv c) (by simp)
      have hg2 : w.grownBy (wr.setCell ⟨w.heap.size + 1, 12, none⟩ (wv c)) none := gb_setCell hg _ _ (Or.inl (by simp))
      have HB := hide hS
      have HR := hide hR2
      clear hB hR hS hR2 hg
      have hg := hg2
      clear hg2
      go_wp2
      clear hcs hcf
      go_loopw [9] (fun i wr => ∃ r : Nat, r ≤ 3 ∧ i = .int .i64 r ∧ Blk wr (w.heap.size + 1) 55 ((F.take (13 + r) ++ List.replicate (16 - (13 + r)) 0).map wv) ∧ Blk wr w.heap.size 44 ((List.replicate 64 (0 : UInt8)).map bv) ∧ w.grownBy wr none) (fun i _ => 3 - (intOf i).toNat)
      case atStart => exact ⟨0, Nat.zero_le _, rfl, unhide HB, unhide HR, hg⟩
      case round =>
        clear HB HR hg
        obtain ⟨r, hr, rfl, hB, hR, hg⟩ := hrel
        by_cases hlt : r < 3
        · have hwo := rword_any wr n r (by rw [unhide HN]; omega) (by rw [unhide HN]; omega)
          obtain ⟨x, hx⟩ : ∃ x, x = leAt n r := ⟨_, rfl⟩
          rw [← hx] at hwo
          obtain ⟨q, hq⟩ : ∃ q : Nat, q = 13 + r := ⟨_, rfl⟩
          rw [← hq] at hB
          have hq1 : (r : Int) < 3 := by omega
          have hw4 : IntKind.i64.wrap (13 + (r : Int)) = (q : Int) := by rw [IntKind.wrap_i64]; omega
          have b0 : (0 : Int) ≤ (q : Int) := by omega
          have b1 : (q : Int) < 16 := by omega
          have HX := hide hx
          have HQQ := hide hq
          have HB := hide hB
          have HR := hide hR
          clear hx hB hR hq
          go_wp2_with fail
          refine hwo.mono ?_
          rintro e w2 ⟨rfl, g2⟩
          have hB := (unhide HB).kept g2 (by simp)
          have hg2 := gb_trans hg g2 (fun _ e => by cases e)
          have hqq := unhide HQQ
          have hcs : (w2.cell? ⟨w.heap.size + 1, q, none⟩).isSome = true ∧ w2.frozen? ⟨w.heap.size + 1, q, none⟩ = false := by
            have := hB.there q 1 (by simp [unhide HFL]; omega) 0 (by omega)
            simpa using this
          obtain ⟨hcs, hcf⟩ := hcs
          obtain ⟨ov, hcs⟩ := Option.isSome_iff_exists.1 hcs
          have HB2 := hide hB
          have HQ3 := hide hqq
          clear hB hqq
          go_wp2
          go_roundw
          case rel =>
            have hS := (unhide HB2).set q (wv x)
            rw [unhide HF, first_step k n c q (by have := unhide HQ3; omega) x (by rw [unhide HQ3, firstL_nonce k n c r hlt, unhide HX]), ← unhide HF] at hS
            rw [unhide HQ3, show 13 + r + 1 = 13 + (r + 1) by omega] at hS
            rw [unhide HQ3]
            exact ⟨r + 1, by omega, by go_num, hS, ((unhide HR).kept g2 (by simp)).other _ _ (by simp <;> omega), gb_setCell hg2 _ _ (Or.inl (by simp <;> omega))⟩
          case measure => simp [intOf]; omega
        · obtain rfl : r = 3 := by omega
          rw [show ((3 : Nat) : Int) = 3 from rfl]
          have hF16 : (F.take (13 + 3) ++ List.replicate (16 - (13 + 3)) 0) = F := by
            rw [show 13 + 3 = 16 from rfl, Nat.sub_self, List.replicate_zero, List.append_nil, List.take_of_length_le (by rw [unhide HFL]; exact Nat.le_refl _)]
          rw [hF16] at hB
          have hsz : ((F.map wv).toArray).size = 16 := by simp [unhide HFL]
          obtain ⟨W5, hW5⟩ : ∃ W5, W5 = (wr.alloc (.cells Y16 55)).setRow wr.heap.size (F.map wv).toArray := ⟨_, rfl⟩
          have hN4 : Blk (wr.alloc (.cells Y16 55)) wr.heap.size 55 ((List.replicate 16 (0 : W)).map wv) := by
            rw [unhide HY16]; exact Blk.new wr 55 _
          have hQ5 : Blk W5 wr.heap.size 55 (F.map wv) := by rw [hW5]; exact hN4.row _
          have hlt5 := hB.lt
          have hT5 : Blk W5 (w.heap.size + 1) 55 (F.map wv) := by rw [hW5]; exact (hB.alloc _).row_other _ _ (by omega)
          have hO5 : Blk W5 w.heap.size 44 ((List.replicate 64 (0 : UInt8)).map bv) := by rw [hW5]; exact (hR.alloc _).row_other _ _ (by omega)
          have hG5 : w.grownBy W5 none := by rw [hW5]; exact gb_row (gb_alloc hg _) _ (Or.inl (by omega))
          have hy16 := zero16w
          rw [← unhide HY16] at hy16
          have HSZ := hide hsz
          have HB5 := hide hB
          have HN4 := hide hN4
          have HW5 := hide hW5
          have HQ5 := hide hQ5
          have HT5 := hide hT5
          have HO5 := hide hO5
          clear hsz hB hR hN4 hW5 hQ5 hT5 hO5 hF16
          go_wp2_with (first
            | (refine wpList_load_row rfl 55 _ rfl (w.heap.size + 1) rfl _ _ _ _ (unhide HB5) Tryd.underlying55 rfl ?_ ?_; (rw [unhide HSZ]; exact hi16))
            | (refine wpList_store_row rfl 55 _ _ rfl wr.heap.size _ rfl rfl _ _ (unhide HN4) ?_ ?_ ?_ ?_; (rw [unhide HSZ]; exact hi16); (rw [unhide HSZ]; rfl); (exact all_oneCell_toArray (wv_one _)); rw [← unhide HW5]))
          obtain ⟨NV, hNV⟩ : ∃ N, N = wr.heap.size := ⟨_, rfl⟩
          have hQ5 := unhide HQ5
          rw [← hNV] at hQ5 hlt5 ⊢
          clear hNV HN4 HW5 HQ5 HB5 hg
          go_loopw [11] (fun i wr => ∃ r : Nat, r ≤ 10 ∧ i = .int .i64 r ∧ Blk wr NV 55 ((turnsL r F).map wv) ∧ Blk wr (w.heap.size + 1) 55 (F.map wv) ∧ Blk wr w.heap.size 44 ((List.replicate 64 (0 : UInt8)).map bv) ∧ w.grownBy wr none) (fun i _ => 10 - (intOf i).toNat)
          case atStart => exact ⟨0, Nat.zero_le _, rfl, hQ5, unhide HT5, unhide HO5, hG5⟩
          case round =>
            clear hQ5 HT5 HO5 hG5
            obtain ⟨r, hr, rfl, hQ, hT, hO, hG⟩ := hrel
            by_cases hlt : r < 10
            · have hq1 : (r : Int) < 10 := by omega
              obtain ⟨s0, hse0⟩ : ∃ s, s = turnsL r F := ⟨_, rfl⟩
              rw [← hse0] at hQ
              have hs0 : s0.length = 16 := by rw [hse0, turnsL_length]; exact unhide HFL
              have HE0 := hide hse0
              clear hse0
              obtain ⟨U0, hU0⟩ : ∃ U, U = wr := ⟨_, rfl⟩
              rw [← hU0] at hQ hT hO hG ⊢
              have hQ0 := hQ
              have hT0 := hT
              have hO0 := hO
              have hG0 := hG
              clear hQ hT hO hG hU0
              have rq0 := rquarter_any U0 s0 hs0 0 4 8 12 (by omega) (by omega) (by omega) (by omega) (by omega) (by omega) (by omega) (by omega) (by omega) (by omega)
              obtain ⟨s1, hse1⟩ : ∃ s, s = quartL s0 0 4 8 12 := ⟨_, rfl⟩
              rw [← hse1] at rq0
              have hs1 : s1.length = 16 := by rw [hse1, quartL_length]; exact hs0
              have hsz0 : ((s0.map wv).toArray).size = 16 := by simp [hs0]
              have hsz1 : ((s1.map wv).toArray).size = 16 := by simp [hs1]
              have HZ0 := hide hsz0
              have HY1 := hide hsz1
              have HE1 := hide hse1
              have HQB0 := hide hQ0
              clear hsz0 hsz1 hse1 hQ0
              go_wp2_with (refine wpList_load_row rfl 55 _ rfl NV rfl _ _ _ _ (unhide HQB0) Tryd.underlying55 rfl ?_ ?_; (rw [unhide HZ0]; exact hi16))
              refine rq0.mono ?_
              rintro e w9 ⟨rfl, g9⟩
              have hQk := (unhide HQB0).kept g9 (by simp)
              obtain ⟨U1, hU1⟩ : ∃ U, U = w9.setRow NV (s1.map wv).toArray := ⟨_, rfl⟩
              have hQ1 : Blk U1 NV 55 (s1.map wv) := by rw [hU1]; exact hQk.row _
              have hT1 : Blk U1 (w.heap.size + 1) 55 (F.map wv) := by rw [hU1]; exact (hT0.kept g9 (by simp)).row_other _ _ (by omega)
              have hO1 : Blk U1 w.heap.size 44 ((List.replicate 64 (0 : UInt8)).map bv) := by rw [hU1]; exact (hO0.kept g9 (by simp)).row_other _ _ (by omega)
              have hG1 : w.grownBy U1 none := by rw [hU1]; exact gb_row (gb_trans hG0 g9 (fun _ e => by cases e)) _ (Or.inl (by omega))
              have HQK0 := hide hQk
              have HU1 := hide hU1
              clear hQk hU1 rq0 hT0 hO0 hG0
              have rq1 := rquarter_any U1 s1 hs1 1 5 9 13 (by omega) (by omega) (by omega) (by omega) (by omega) (by omega) (by omega) (by omega) (by omega) (by omega)
              obtain ⟨s2, hse2⟩ : ∃ s, s = quartL s1 1 5 9 13 := ⟨_, rfl⟩
              rw [← hse2] at rq1
              have hs2 : s2.length = 16 := by rw [hse2, quartL_length]; exact hs1
              have hsz1 : ((s1.map wv).toArray).size = 16 := by simp [hs1]
              have hsz2 : ((s2.map wv).toArray).size = 16 := by simp [hs2]
              have HZ1 := hide hsz1
              have HY2 := hide hsz2
              have HE2 := hide hse2
              have HQB1 := hide hQ1
              clear hsz1 hsz2 hse2 hQ1
              go_wp2_with (first | (refine wpList_store_row rfl 55 _ _ rfl NV _ rfl rfl _ _ (unhide HQK0) ?_ ?_ ?_ ?_; (rw [unhide HY1]; exact hi16); (rw [unhide HY1, unhide HZ0]); (exact all_oneCell_toArray (wv_one _)); rw [← unhide HU1]) | (refine wpList_load_row rfl 55 _ rfl NV rfl _ _ _ _ (unhide HQB1) Tryd.underlying55 rfl ?_ ?_; (rw [unhide HZ1]; exact hi16)))
              refine rq1.mono ?_
              rintro e w9 ⟨rfl, g9⟩
              have hQk := (unhide HQB1).kept g9 (by simp)
              obtain ⟨U2, hU2⟩ : ∃ U, U = w9.setRow NV (s2.map wv).toArray := ⟨_, rfl⟩
              have hQ2 : Blk U2 NV 55 (s2.map wv) := by rw [hU2]; exact hQk.row _
              have hT2 : Blk U2 (w.heap.size + 1) 55 (F.map wv) := by rw [hU2]; exact (hT1.kept g9 (by simp)).row_other _ _ (by omega)
              have hO2 : Blk U2 w.heap.size 44 ((List.replicate 64 (0 : UInt8)).map bv) := by rw [hU2]; exact (hO1.kept g9 (by simp)).row_other _ _ (by omega)
              have hG2 : w.grownBy U2 none := by rw [hU2]; exact gb_row (gb_trans hG1 g9 (fun _ e => by cases e)) _ (Or.inl (by omega))
              have HQK1 := hide hQk
              have HU2 := hide hU2
              clear hQk hU2 rq1 hT1 hO1 hG1
              have rq2 := rquarter_any U2 s2 hs2 2 6 10 14 (by omega) (by omega) (by omega) (by omega) (by omega) (by omega) (by omega) (by omega) (by omega) (by omega)
              obtain ⟨s3, hse3⟩ : ∃ s, s = quartL s2 2 6 10 14 := ⟨_, rfl⟩
              rw [← hse3] at rq2
              have hs3 : s3.length = 16 := by rw [hse3, quartL_length]; exact hs2
              have hsz2 : ((s2.map wv).toArray).size = 16 := by simp [hs2]
              have hsz3 : ((s3.map wv).toArray).size = 16 := by simp [hs3]
              have HZ2 := hide hsz2
              have HY3 := hide hsz3
              have HE3 := hide hse3
              have HQB2 := hide hQ2
              clear hsz2 hsz3 hse3 hQ2
              go_wp2_with (first | (refine wpList_store_row rfl 55 _ _ rfl NV _ rfl rfl _ _ (unhide HQK1) ?_ ?_ ?_ ?_; (rw [unhide HY2]; exact hi16); (rw [unhide HY2, unhide HZ1]); (exact all_oneCell_toArray (wv_one _)); rw [← unhide HU2]) | (refine wpList_load_row rfl 55 _ rfl NV rfl _ _ _ _ (unhide HQB2) Tryd.underlying55 rfl ?_ ?_; (rw [unhide HZ2]; exact hi16)))
              refine rq2.mono ?_
              rintro e w9 ⟨rfl, g9⟩
              have hQk := (unhide HQB2).kept g9 (by simp)
              obtain ⟨U3, hU3⟩ : ∃ U, U = w9.setRow NV (s3.map wv).toArray := ⟨_, rfl⟩
              have hQ3 : Blk U3 NV 55 (s3.map wv) := by rw [hU3]; exact hQk.row _
              have hT3 : Blk U3 (w.heap.size + 1) 55 (F.map wv) := by rw [hU3]; exact (hT2.kept g9 (by simp)).row_other _ _ (by omega)
              have hO3 : Blk U3 w.heap.size 44 ((List.replicate 64 (0 : UInt8)).map bv) := by rw [hU3]; exact (hO2.kept g9 (by simp)).row_other _ _ (by omega)
              have hG3 : w.grownBy U3 none := by rw [hU3]; exact gb_row (gb_trans hG2 g9 (fun _ e => by cases e)) _ (Or.inl (by omega))
              have HQK2 := hide hQk
              have HU3 := hide hU3
              clear hQk hU3 rq2 hT2 hO2 hG2
              have rq3 := rquarter_any U3 s3 hs3 3 7 11 15 (by omega) (by omega) (by omega) (by omega) (by omega) (by omega) (by omega) (by omega) (by omega) (by omega)
              obtain ⟨s4, hse4⟩ : ∃ s, s = quartL s3 3 7 11 15 := ⟨_, rfl⟩
              rw [← hse4] at rq3
              have hs4 : s4.length = 16 := by rw [hse4, quartL_length]; exact hs3
              have hsz3 : ((s3.map wv).toArray).size = 16 := by simp [hs3]
              have hsz4 : ((s4.map wv).toArray).size = 16 := by simp [hs4]
              have HZ3 := hide hsz3
              have HY4 := hide hsz4
              have HE4 := hide hse4
              have HQB3 := hide hQ3
              clear hsz3 hsz4 hse4 hQ3
              go_wp2_with (first | (refine wpList_store_row rfl 55 _ _ rfl NV _ rfl rfl _ _ (unhide HQK2) ?_ ?_ ?_ ?_; (rw [unhide HY3]; exact hi16); (rw [unhide HY3, unhide HZ2]); (exact all_oneCell_toArray (wv_one _)); rw [← unhide HU3]) | (refine wpList_load_row rfl 55 _ rfl NV rfl _ _ _ _ (unhide HQB3) Tryd.underlying55 rfl ?_ ?_; (rw [unhide HZ3]; exact hi16)))
              refine rq3.mono ?_
              rintro e w9 ⟨rfl, g9⟩
              have hQk := (unhide HQB3).kept g9 (by simp)
              obtain ⟨U4, hU4⟩ : ∃ U, U = w9.setRow NV (s4.map wv).toArray := ⟨_, rfl⟩
              have hQ4 : Blk U4 NV 55 (s4.map wv) := by rw [hU4]; exact hQk.row _
              have hT4 : Blk U4 (w.heap.size + 1) 55 (F.map wv) := by rw [hU4]; exact (hT3.kept g9 (by simp)).row_other _ _ (by omega)
              have hO4 : Blk U4 w.heap.size 44 ((List.replicate 64 (0 : UInt8)).map bv) := by rw [hU4]; exact (hO3.kept g9 (by simp)).row_other _ _ (by omega)
              have hG4 : w.grownBy U4 none := by rw [hU4]; exact gb_row (gb_trans hG3 g9 (fun _ e => by cases e)) _ (Or.inl (by omega))
              have HQK3 := hide hQk
              have HU4 := hide hU4
              clear hQk hU4 rq3 hT3 hO3 hG3
              have rq4 := rquarter_any U4 s4 hs4 0 5 10 15 (by omega) (by omega) (by omega) (by omega) (by omega) (by omega) (by omega) (by omega) (by omega) (by omega)
              obtain ⟨s5, hse5⟩ : ∃ s, s = quartL s4 0 5 10 15 := ⟨_, rfl⟩
              rw [← hse5] at rq4
              have hs5 : s5.length = 16 := by rw [hse5, quartL_length]; exact hs4
              have hsz4 : ((s4.map wv).toArray).size = 16 := by simp [hs4]
              have hsz5 : ((s5.map wv).toArray).size = 16 := by simp [hs5]
              have HZ4 := hide hsz4
              have HY5 := hide hsz5
              have HE5 := hide hse5
              have HQB4 := hide hQ4
              clear hsz4 hsz5 hse5 hQ4
              go_wp2_with (first | (refine wpList_store_row rfl 55 _ _ rfl NV _ rfl rfl _ _ (unhide HQK3) ?_ ?_ ?_ ?_; (rw [unhide HY4]; exact hi16); (rw [unhide HY4, unhide HZ3]); (exact all_oneCell_toArray (wv_one _)); rw [← unhide HU4]) | (refine wpList_load_row rfl 55 _ rfl NV rfl _ _ _ _ (unhide HQB4) Tryd.underlying55 rfl ?_ ?_; (rw [unhide HZ4]; exact hi16)))
              refine rq4.mono ?_
              rintro e w9 ⟨rfl, g9⟩
              have hQk := (unhide HQB4).kept g9 (by simp)
              obtain ⟨U5, hU5⟩ : ∃ U, U = w9.setRow NV (s5.map wv).toArray := ⟨_, rfl⟩
              have hQ5 : Blk U5 NV 55 (s5.map wv) := by rw [hU5]; exact hQk.row _
              have hT5 : Blk U5 (w.heap.size + 1) 55 (F.map wv) := by rw [hU5]; exact (hT4.kept g9 (by simp)).row_other _ _ (by omega)
              have hO5 : Blk U5 w.heap.size 44 ((List.replicate 64 (0 : UInt8)).map bv) := by rw [hU5]; exact (hO4.kept g9 (by simp)).row_other _ _ (by omega)
              have hG5 : w.grownBy U5 none := by rw [hU5]; exact gb_row (gb_trans hG4 g9 (fun _ e => by cases e)) _ (Or.inl (by omega))
              have HQK4 := hide hQk
              have HU5 := hide hU5
              clear hQk hU5 rq4 hT4 hO4 hG4
              have rq5 := rquarter_any U5 s5 hs5 1 6 11 12 (by omega) (by omega) (by omega) (by omega) (by omega) (by omega) (by omega) (by omega) (by omega) (by omega)
              obtain ⟨s6, hse6⟩ : ∃ s, s = quartL s5 1 6 11 12 := ⟨_, rfl⟩
              rw [← hse6] at rq5
              have hs6 : s6.length = 16 := by rw [hse6, quartL_length]; exact hs5
              have hsz5 : ((s5.map wv).toArray).size = 16 := by simp [hs5]
              have hsz6 : ((s6.map wv).toArray).size = 16 := by simp [hs6]
              have HZ5 := hide hsz5
              have HY6 := hide hsz6
              have HE6 := hide hse6
              have HQB5 := hide hQ5
              clear hsz5 hsz6 hse6 hQ5
              go_wp2_with (first | (refine wpList_store_row rfl 55 _ _ rfl NV _ rfl rfl _ _ (unhide HQK4) ?_ ?_ ?_ ?_; (rw [unhide HY5]; exact hi16); (rw [unhide HY5, unhide HZ4]); (exact all_oneCell_toArray (wv_one _)); rw [← unhide HU5]) | (refine wpList_load_row rfl 55 _ rfl NV rfl _ _ _ _ (unhide HQB5) Tryd.underlying55 rfl ?_ ?_; (rw [unhide HZ5]; exact hi16)))
              refine rq5.mono ?_
              rintro e w9 ⟨rfl, g9⟩
              have hQk := (unhide HQB5).kept g9 (by simp)
              obtain ⟨U6, hU6⟩ : ∃ U, U = w9.setRow NV (s6.map wv).toArray := ⟨_, rfl⟩
              have hQ6 : Blk U6 NV 55 (s6.map wv) := by rw [hU6]; exact hQk.row _
              have hT6 : Blk U6 (w.heap.size + 1) 55 (F.map wv) := by rw [hU6]; exact (hT5.kept g9 (by simp)).row_other _ _ (by omega)
              have hO6 : Blk U6 w.heap.size 44 ((List.replicate 64 (0 : UInt8)).map bv) := by rw [hU6]; exact (hO5.kept g9 (by simp)).row_other _ _ (by omega)
              have hG6 : w.grownBy U6 none := by rw [hU6]; exact gb_row (gb_trans hG5 g9 (fun _ e => by cases e)) _ (Or.inl (by omega))
              have HQK5 := hide hQk
              have HU6 := hide hU6
              clear hQk hU6 rq5 hT5 hO5 hG5
              have rq6 := rquarter_any U6 s6 hs6 2 7 8 13 (by omega) (by omega) (by omega) (by omega) (by omega) (by omega) (by omega) (by omega) (by omega) (by omega)
              obtain ⟨s7, hse7⟩ : ∃ s, s = quartL s6 2 7 8 13 := ⟨_, rfl⟩
              rw [← hse7] at rq6
              have hs7 : s7.length = 16 := by rw [hse7, quartL_length]; exact hs6
              have hsz6 : ((s6.map wv).toArray).size = 16 := by simp [hs6]
              have hsz7 : ((s7.map wv).toArray).size = 16 := by simp [hs7]
              have HZ6 := hide hsz6
              have HY7 := hide hsz7
              have HE7 := hide hse7
              have HQB6 := hide hQ6
              clear hsz6 hsz7 hse7 hQ6
              go_wp2_with (first | (refine wpList_store_row rfl 55 _ _ rfl NV _ rfl rfl _ _ (unhide HQK5) ?_ ?_ ?_ ?_; (rw [unhide HY6]; exact hi16); (rw [unhide HY6, unhide HZ5]); (exact all_oneCell_toArray (wv_one _)); rw [← unhide HU6]) | (refine wpList_load_row rfl 55 _ rfl NV rfl _ _ _ _ (unhide HQB6) Tryd.underlying55 rfl ?_ ?_; (rw [unhide HZ6]; exact hi16)))
              refine rq6.mono ?_
              rintro e w9 ⟨rfl, g9⟩
              have hQk := (unhide HQB6).kept g9 (by simp)
              obtain ⟨U7, hU7⟩ : ∃ U, U = w9.setRow NV (s7.map wv).toArray := ⟨_, rfl⟩
              have hQ7 : Blk U7 NV 55 (s7.map wv) := by rw [hU7]; exact hQk.row _
              have hT7 : Blk U7 (w.heap.size + 1) 55 (F.map wv) := by rw [hU7]; exact (hT6.kept g9 (by simp)).row_other _ _ (by omega)
              have hO7 : Blk U7 w.heap.size 44 ((List.replicate 64 (0 : UInt8)).map bv) := by rw [hU7]; exact (hO6.kept g9 (by simp)).row_other _ _ (by omega)
              have hG7 : w.grownBy U7 none := by rw [hU7]; exact gb_row (gb_trans hG6 g9 (fun _ e => by cases e)) _ (Or.inl (by omega))
              have HQK6 := hide hQk
              have HU7 := hide hU7
              clear hQk hU7 rq6 hT6 hO6 hG6
              have rq7 := rquarter_any U7 s7 hs7 3 4 9 14 (by omega) (by omega) (by omega) (by omega) (by omega) (by omega) (by omega) (by omega) (by omega) (by omega)
              obtain ⟨s8, hse8⟩ : ∃ s, s = quartL s7 3 4 9 14 := ⟨_, rfl⟩
              rw [← hse8] at rq7
              have hs8 : s8.length = 16 := by rw [hse8, quartL_length]; exact hs7
              have hsz7 : ((s7.map wv).toArray).size = 16 := by simp [hs7]
              have hsz8 : ((s8.map wv).toArray).size = 16 := by simp [hs8]
              have HZ7 := hide hsz7
              have HY8 := hide hsz8
              have HE8 := hide hse8
              have HQB7 := hide hQ7
              clear hsz7 hsz8 hse8 hQ7
              go_wp2_with (first | (refine wpList_store_row rfl 55 _ _ rfl NV _ rfl rfl _ _ (unhide HQK6) ?_ ?_ ?_ ?_; (rw [unhide HY7]; exact hi16); (rw [unhide HY7, unhide HZ6]); (exact all_oneCell_toArray (wv_one _)); rw [← unhide HU7]) | (refine wpList_load_row rfl 55 _ rfl NV rfl _ _ _ _ (unhide HQB7) Tryd.underlying55 rfl ?_ ?_; (rw [unhide HZ7]; exact hi16)))
              refine rq7.mono ?_
              rintro e w9 ⟨rfl, g9⟩
              have hQk := (unhide HQB7).kept g9 (by simp)
              obtain ⟨U8, hU8⟩ : ∃ U, U = w9.setRow NV (s8.map wv).toArray := ⟨_, rfl⟩
              have hQ8 : Blk U8 NV 55 (s8.map wv) := by rw [hU8]; exact hQk.row _
              have hT8 : Blk U8 (w.heap.size + 1) 55 (F.map wv) := by rw [hU8]; exact (hT7.kept g9 (by simp)).row_other _ _ (by omega)
              have hO8 : Blk U8 w.heap.size 44 ((List.replicate 64 (0 : UInt8)).map bv) := by rw [hU8]; exact (hO7.kept g9 (by simp)).row_other _ _ (by omega)
              have hG8 : w.grownBy U8 none := by rw [hU8]; exact gb_row (gb_trans hG7 g9 (fun _ e => by cases e)) _ (Or.inl (by omega))
              have HQK7 := hide hQk
              have HU8 := hide hU8
              clear hQk hU8 rq7 hT7 hO7 hG7
              go_wp2_with (refine wpList_store_row rfl 55 _ _ rfl NV _ rfl rfl _ _ (unhide HQK7) ?_ ?_ ?_ ?_; (rw [unhide HY8]; exact hi16); (rw [unhide HY8, unhide HZ7]); (exact all_oneCell_toArray (wv_one _)); rw [← unhide HU8])
              go_roundw
              case rel =>
                have e : turnsL (r + 1) F = s8 := by
                  show turnL (turnsL r F) = s8
                  unfold turnL
                  rw [← unhide HE0, ← unhide HE1, ← unhide HE2, ← unhide HE3, ← unhide HE4, ← unhide HE5, ← unhide HE6, ← unhide HE7, ← unhide HE8]
                exact ⟨r + 1, by omega, by go_num, by rw [e]; exact hQ8, hT8, hO8, hG8⟩
              case measure => simp [intOf]; omega
            · obtain rfl : r = 10 := by omega
              rw [show ((10 : Nat) : Int) = 10 from rfl]
              obtain ⟨T, hTe⟩ : ∃ T, T = turnsL 10 F := ⟨_, rfl⟩
              rw [← hTe] at hQ
              have hTl : T.length = 16 := by rw [hTe, turnsL_length]; exact unhide HFL
              obtain ⟨bw, hbw⟩ : ∃ bw, bw = List.zipWith (· + ·) T F := ⟨_, rfl⟩
              have hbl : bw.length = 16 := by rw [hbw]; simp [hTl, unhide HFL]
              obtain ⟨xs, hxs⟩ : ∃ xs, xs = leBytes bw := ⟨_, rfl⟩
              have hxl : xs.length = 64 := by rw [hxs, leBytes_length, hbl]
              have hfin : xs = blockL k n c := by rw [hxs, hbw, hTe, unhide HF]; rfl
              have hgs := hG.size
              obtain ⟨W6, hW6⟩ : ∃ W6, W6 = wr.alloc (.cells Y64 44) := ⟨_, rfl⟩
              have hQ6 : Blk W6 NV 55 (T.map wv) := by rw [hW6]; exact hQ.alloc _
              have hT6 : Blk W6 (w.heap.size + 1) 55 (F.map wv) := by rw [hW6]; exact hT.alloc _
              have hO6 : Blk W6 w.heap.size 44 ((List.replicate 64 (0 : UInt8)).map bv) := by rw [hW6]; exact hO.alloc _
              have hX6 : Blk W6 wr.heap.size 44 ((xs.take 0 ++ List.replicate (64 - 0) 0).map bv) := by
                rw [hW6, unhide HY64]; exact Blk.new wr 44 _
              have hg6 : w.grownBy W6 none := by rw [hW6]; exact gb_alloc hG _
              have hnv := hQ.lt
              have HQ6 := hide hQ6
              have HT6 := hide hT6
              have HO6 := hide hO6
              have HX6 := hide hX6
              have HTL := hide hTl
              have HBW := hide hbw
              have HBL := hide hbl
              have HXS := hide hxs
              have HXL := hide hxl
              have HFIN := hide hfin
              have HW6 := hide hW6
              clear hQ hT hO hQ6 hT6 hO6 hX6 hTe hTl hbw hbl hxs hxl hfin hgs hW6 hG
              go_wp2
              rw [← unhide HW6]
              obtain ⟨N12, hN12⟩ : ∃ N, N = wr.heap.size := ⟨_, rfl⟩
              have hX6 := unhide HX6
              rw [← hN12] at hX6 hnv ⊢
              clear HW6 hN12 HX6
              go_loopw [13] (fun i wr => ∃ r : Nat, r ≤ 64 ∧ i = .int .i64 r ∧ Blk wr N12 44 ((xs.take r ++ List.replicate (64 - r) 0).map bv) ∧ Blk wr NV 55 (T.map wv) ∧ Blk wr (w.heap.size + 1) 55 (F.map wv) ∧ Blk wr w.heap.size 44 ((List.replicate 64 (0 : UInt8)).map bv) ∧ w.grownBy wr none) (fun i _ => 64 - (intOf i).toNat)
              case atStart => exact ⟨0, Nat.zero_le _, rfl, hX6, unhide HQ6, unhide HT6, unhide HO6, hg6⟩
              case round =>
                clear hX6 HQ6 HT6 HO6 hg6 hlt hr
                obtain ⟨r, hr, rfl, hX, hQ, hT, hO, hG⟩ := hrel
                by_cases hlt : r < 64
                · obtain ⟨q, hq⟩ : ∃ q : Nat, q = r / 4 := ⟨_, rfl⟩
                  obtain ⟨m, hm⟩ : ∃ m : Nat, m = r % 4 := ⟨_, rfl⟩
                  obtain ⟨e8, he8⟩ : ∃ e : Nat, e = 8 * m := ⟨_, rfl⟩
                  obtain ⟨x, hx⟩ : ∃ x, x = T.getD q 0 := ⟨_, rfl⟩
                  obtain ⟨f, hf⟩ : ∃ f, f = F.getD q 0 := ⟨_, rfl⟩
                  obtain ⟨z, hz⟩ : ∃ z, z = x + f := ⟨_, rfl⟩
                  have cx := hQ.word q (by rw [unhide HTL]; omega)
                  have cf := hT.word q (by rw [unhide HFL]; omega)
                  rw [← hx] at cx
                  rw [← hf] at cf
                  have hzb : z = bw.getD q 0 := by
                    have h1 : q < T.length := by rw [unhide HTL]; omega
                    have h2 : q < F.length := by rw [unhide HFL]; omega
                    have h3 : q < (List.zipWith (· + ·) T F).length := by simp; omega
                    rw [hz, hx, hf, unhide HBW, List.getD, List.getElem?_eq_getElem h1, List.getD, List.getElem?_eq_getElem h2, List.getD, List.getElem?_eq_getElem h3, Option.getD_some, Option.getD_some, Option.getD_some, List.getElem_zipWith]
                  have hbyte : Value.int .u8 (wz z / 2 ^ e8 % 256) = bv (xs.getD r 0) := by
                    rw [unhide HXS, leBytes_get bw r (by rw [unhide HBL]; omega), ← hq, ← hzb, ← hm, ← he8]
                    unfold bv wz
                    rw [UInt8.toNat_ofNat']
                    congr 1
                  have hcs : (wr.cell? ⟨N12, r, none⟩).isSome = true ∧ wr.frozen? ⟨N12, r, none⟩ = false := by
                    have := hX.there r 1 (by simp [unhide HXL]; omega) 0 (by omega)
                    simpa using this
                  obtain ⟨hcs, hcf⟩ := hcs
                  obtain ⟨ov, hcs⟩ := Option.isSome_iff_exists.1 hcs
                  have hcs : wr.drew.cell? ⟨N12, r, none⟩ = some ov := hcs
                  have hcf : wr.drew.frozen? ⟨N12, r, none⟩ = false := hcf
                  have hS0 : wr.drew.cell? ⟨NV, q, none⟩ = some (.int .u32 (wz x)) ∧ wr.drew.cell? ⟨w.heap.size + 1, q, none⟩ = some (.int .u32 (wz f)) := ⟨cx, cf⟩
                  have hS1 : (wr.setCell ⟨N12, r, none⟩ (.int .u8 (wz z / 2 ^ e8 % 256))).drew.cell? ⟨NV, q, none⟩ = some (.int .u32 (wz x)) ∧ (wr.setCell ⟨N12, r, none⟩ (.int .u8 (wz z / 2 ^ e8 % 256))).drew.cell? ⟨w.heap.size + 1, q, none⟩ = some (.int .u32 (wz f)) := by
                    constructor
                    · rw [World.cell?_drew, World.cell?_setCell_other _ _ _ _ (by simp <;> omega)]; exact cx
                    · rw [World.cell?_drew, World.cell?_setCell_other _ _ _ _ (by simp <;> omega)]; exact cf
                  have hX2 : Blk (wr.setCell ⟨N12, r, none⟩ (.int .u8 (wz z / 2 ^ e8 % 256))).drew N12 44 ((xs.take (r + 1) ++ List.replicate (64 - (r + 1)) 0).map bv) := by
                    have := hX.set r (bv (xs.getD r 0))
                    rw [fill_bv xs 64 r (by rw [unhide HXL]; exact hlt) hlt] at this
                    rw [hbyte]
                    exact this.drew
                  have hQ2 : Blk (wr.setCell ⟨N12, r, none⟩ (.int .u8 (wz z / 2 ^ e8 % 256))).drew NV 55 (T.map wv) := (hQ.other _ _ (by simp <;> omega)).drew
                  have hT2 : Blk (wr.setCell ⟨N12, r, none⟩ (.int .u8 (wz z / 2 ^ e8 % 256))).drew (w.heap.size + 1) 55 (F.map wv) := (hT.other _ _ (by simp <;> omega)).drew
                  have hO2 : Blk (wr.setCell ⟨N12, r, none⟩ (.int .u8 (wz z / 2 ^ e8 % 256))).drew w.heap.size 44 ((List.replicate 64 (0 : UInt8)).map bv) := (hO.other _ _ (by simp <;> omega)).drew
                  have hG2 : w.grownBy (wr.setCell ⟨N12, r, none⟩ (.int .u8 (wz z / 2 ^ e8 % 256))).drew none := gb_drew (gb_setCell hG _ _ (Or.inl (by simp <;> omega)))
                  have d1 : (r : Int) / 4 = (q : Int) := by omega
                  have d2 : Int.tdiv (r : Int) 4 = (q : Int) := by rw [Int.tdiv_eq_ediv_of_nonneg (by omega)]; omega
                  have d3 : IntKind.i64.wrap (q : Int) = (q : Int) := by rw [IntKind.wrap_i64]; omega
                  have d4 : (r : Int) % 4 = (m : Int) := by omega
                  have d5 : Int.tmod (r : Int) 4 = (m : Int) := by rw [Int.tmod_eq_emod_of_nonneg (by omega)]; omega
                  have d6 : 8 * (m : Int) = (e8 : Int) := by omega
                  have d7 : IntKind.i64.wrap (e8 : Int) = (e8 : Int) := by rw [IntKind.wrap_i64]; omega
                  have d8 : IntKind.u64.wrap (e8 : Int) = (e8 : Int) := by rw [IntKind.wrap_u64]; omega
                  have d9 : (e8 : Int) < 32 := by omega
                  have d10 : IntKind.u8.wrap (wz z / 2 ^ e8) = wz z / 2 ^ e8 % 256 := by rw [IntKind.wrap_u8]
                  have q0 : (0 : Int) ≤ (q : Int) := by omega
                  have q1 : (q : Int) < 16 := by omega
                  have r0 : (0 : Int) ≤ (r : Int) := by omega
                  have r1 : (r : Int) < 64 := by omega
                  have ha : IntKind.u32.wrap (wz x + wz f) = wz z := by rw [hz]; exact w_add x f
                  have ham : (wz x + wz f) % 4294967296 = wz z := by rw [hz]; exact w_addm x f
                  have HX2 := hide hX2
                  have HQ2 := hide hQ2
                  have HT2 := hide hT2
                  have HO2 := hide hO2
                  have HG2 := hide hG2
                  clear hX hQ hT hO hG hq hm he8 hx hf hz hzb hbyte hX2 hQ2 hT2 hO2 hG2 cx cf
                  go_wp2
          
                  refine wp_region_noPanic ?_
                  refine wp_region_held_drew (S := fun V => V.cell? ⟨NV, q, none⟩ = some (.int .u32 (wz x)) ∧ V.cell? ⟨w.heap.size + 1, q, none⟩ = some (.int .u32 (wz f))) (by kernel_rfl) hS0 (fun _ => ?_)
                  refine wpAnyH_take (i := 0) (oi := { dst := some 62, op := Op.move (Operand.tmp 13), type := _, pos := _, after := _, guard := _ }) (v := .int .i64 (r : Int)) rfl (by kernel_rfl) (by kernel_rfl) (by kernel_rfl) (fun _ _ _ h => h) (Or.inl ⟨by rfl, fun V (hV : V.cell? ⟨NV, q, none⟩ = some (.int .u32 (wz x)) ∧ V.cell? ⟨w.heap.size + 1, q, none⟩ = some (.int .u32 (wz f))) => by go_simp⟩) hS0 ?_
                  (try simp only [Act.put, List.setIfInBounds_toArray, List.set_cons_zero, List.set_cons_succ])
                  refine wpAnyH_take (i := 1) (oi := { dst := some 63, op := Op.move (Operand.tmp 13), type := _, pos := _, after := _, guard := _ }) (v := .int .i64 (r : Int)) rfl (by kernel_rfl) (by kernel_rfl) (by kernel_rfl) (fun _ _ _ h => h) (Or.inl ⟨by rfl, fun V (hV : V.cell? ⟨NV, q, none⟩ = some (.int .u32 (wz x)) ∧ V.cell? ⟨w.heap.size + 1, q, none⟩ = some (.int .u32 (wz f))) => by go_simp⟩) hS0 ?_
                  (try simp only [Act.put, List.setIfInBounds_toArray, List.set_cons_zero, List.set_cons_succ])
                  refine wpAnyH_take (i := 2) (oi := { dst := some 64, op := Op.binOp BinOp.quo 3 (Operand.tmp 63) (Operand.const (Value.int IntKind.i64 4)) 3, type := _, pos := _, after := _, guard := _ }) (v := .int .i64 (q : Int)) rfl (by kernel_rfl) (by kernel_rfl) (by kernel_rfl) (fun _ _ _ h => h) (Or.inl ⟨by rfl, fun V (hV : V.cell? ⟨NV, q, none⟩ = some (.int .u32 (wz x)) ∧ V.cell? ⟨w.heap.size + 1, q, none⟩ = some (.int .u32 (wz f))) => by go_simp⟩) hS0 ?_
                  (try simp only [Act.put, List.setIfInBounds_toArray, List.set_cons_zero, List.set_cons_succ])
                  refine wpAnyH_take (i := 3) (oi := { dst := some 65, op := Op.indexAddr 55 (Operand.tmp 10) (Operand.tmp 64), type := _, pos := _, after := _, guard := _ }) (v := .pointer (some ⟨NV, q, none⟩)) rfl (by kernel_rfl) (by kernel_rfl) (by kernel_rfl) (fun _ _ _ h => h) (Or.inl ⟨by rfl, fun V (hV : V.cell? ⟨NV, q, none⟩ = some (.int .u32 (wz x)) ∧ V.cell? ⟨w.heap.size + 1, q, none⟩ = some (.int .u32 (wz f))) => by go_simp⟩) hS0 ?_
                  (try simp only [Act.put, List.setIfInBounds_toArray, List.set_cons_zero, List.set_cons_succ])
                  refine wpAnyH_take (i := 4) (oi := { dst := some 66, op := Op.load 42 (Operand.tmp 65), type := _, pos := _, after := _, guard := _ }) (v := .int .u32 (wz x)) rfl (by kernel_rfl) (by kernel_rfl) (by kernel_rfl) (fun _ _ _ h => h) (Or.inl ⟨by rfl, fun V (hV : V.cell? ⟨NV, q, none⟩ = some (.int .u32 (wz x)) ∧ V.cell? ⟨w.heap.size + 1, q, none⟩ = some (.int .u32 (wz f))) => by (have hv1 := hV.1; have hv2 := hV.2; go_simp)⟩) hS0 ?_
                  (try simp only [Act.put, List.setIfInBounds_toArray, List.set_cons_zero, List.set_cons_succ])
                  refine wpAnyH_take (i := 5) (oi := { dst := some 67, op := Op.move (Operand.tmp 13), type := _, pos := _, after := _, guard := _ }) (v := .int .i64 (r : Int)) rfl (by kernel_rfl) (by kernel_rfl) (by kernel_rfl) (fun _ _ _ h => h) (Or.inl ⟨by rfl, fun V (hV : V.cell? ⟨NV, q, none⟩ = some (.int .u32 (wz x)) ∧ V.cell? ⟨w.heap.size + 1, q, none⟩ = some (.int .u32 (wz f))) => by go_simp⟩) hS0 ?_
                  (try simp only [Act.put, List.setIfInBounds_toArray, List.set_cons_zero, List.set_cons_succ])
                  refine wpAnyH_take (i := 6) (oi := { dst := some 68, op := Op.binOp BinOp.quo 3 (Operand.tmp 67) (Operand.const (Value.int IntKind.i64 4)) 3, type := _, pos := _, after := _, guard := _ }) (v := .int .i64 (q : Int)) rfl (by kernel_rfl) (by kernel_rfl) (by kernel_rfl) (fun _ _ _ h => h) (Or.inl ⟨by rfl, fun V (hV : V.cell? ⟨NV, q, none⟩ = some (.int .u32 (wz x)) ∧ V.cell? ⟨w.heap.size + 1, q, none⟩ = some (.int .u32 (wz f))) => by go_simp⟩) hS0 ?_
                  (try simp only [Act.put, List.setIfInBounds_toArray, List.set_cons_zero, List.set_cons_succ])
                  refine wpAnyH_take (i := 7) (oi := { dst := some 69, op := Op.indexAddr 55 (Operand.tmp 7) (Operand.tmp 68), type := _, pos := _, after := _, guard := _ }) (v := .pointer (some ⟨w.heap.size + 1, q, none⟩)) rfl (by kernel_rfl) (by kernel_rfl) (by kernel_rfl) (fun _ _ _ h => h) (Or.inl ⟨by rfl, fun V (hV : V.cell? ⟨NV, q, none⟩ = some (.int .u32 (wz x)) ∧ V.cell? ⟨w.heap.size + 1, q, none⟩ = some (.int .u32 (wz f))) => by go_simp⟩) hS0 ?_
                  (try simp only [Act.put, List.setIfInBounds_toArray, List.set_cons_zero, List.set_cons_succ])
                  refine wpAnyH_take (i := 8) (oi := { dst := some 70, op := Op.load 42 (Operand.tmp 69), type := _, pos := _, after := _, guard := _ }) (v := .int .u32 (wz f)) rfl (by kernel_rfl) (by kernel_rfl) (by kernel_rfl) (fun _ _ _ h => h) (Or.inl ⟨by rfl, fun V (hV : V.cell? ⟨NV, q, none⟩ = some (.int .u32 (wz x)) ∧ V.cell? ⟨w.heap.size + 1, q, none⟩ = some (.int .u32 (wz f))) => by (have hv1 := hV.1; have hv2 := hV.2; go_simp)⟩) hS0 ?_
                  (try simp only [Act.put, List.setIfInBounds_toArray, List.set_cons_zero, List.set_cons_succ])
                  refine wpAnyH_take (i := 9) (oi := { dst := some 71, op := Op.binOp BinOp.add 42 (Operand.tmp 66) (Operand.tmp 70) 42, type := _, pos := _, after := _, guard := _ }) (v := .int .u32 (wz z)) rfl (by kernel_rfl) (by kernel_rfl) (by kernel_rfl) (fun _ _ _ h => h) (Or.inl ⟨by rfl, fun V (hV : V.cell? ⟨NV, q, none⟩ = some (.int .u32 (wz x)) ∧ V.cell? ⟨w.heap.size + 1, q, none⟩ = some (.int .u32 (wz f))) => by go_simp⟩) hS0 ?_
                  (try simp only [Act.put, List.setIfInBounds_toArray, List.set_cons_zero, List.set_cons_succ])
                  refine wpAnyH_take (i := 10) (oi := { dst := some 72, op := Op.move (Operand.tmp 13), type := _, pos := _, after := _, guard := _ }) (v := .int .i64 (r : Int)) rfl (by kernel_rfl) (by kernel_rfl) (by kernel_rfl) (fun _ _ _ h => h) (Or.inl ⟨by rfl, fun V (hV : V.cell? ⟨NV, q, none⟩ = some (.int .u32 (wz x)) ∧ V.cell? ⟨w.heap.size + 1, q, none⟩ = some (.int .u32 (wz f))) => by go_simp⟩) hS0 ?_
                  (try simp only [Act.put, List.setIfInBounds_toArray, List.set_cons_zero, List.set_cons_succ])
                  refine wpAnyH_take (i := 11) (oi := { dst := some 73, op := Op.binOp BinOp.rem 3 (Operand.tmp 72) (Operand.const (Value.int IntKind.i64 4)) 3, type := _, pos := _, after := _, guard := _ }) (v := .int .i64 (m : Int)) rfl (by kernel_rfl) (by kernel_rfl) (by kernel_rfl) (fun _ _ _ h => h) (Or.inl ⟨by rfl, fun V (hV : V.cell? ⟨NV, q, none⟩ = some (.int .u32 (wz x)) ∧ V.cell? ⟨w.heap.size + 1, q, none⟩ = some (.int .u32 (wz f))) => by go_simp⟩) hS0 ?_
                  (try simp only [Act.put, List.setIfInBounds_toArray, List.set_cons_zero, List.set_cons_succ])
                  refine wpAnyH_take (i := 12) (oi := { dst := some 74, op := Op.binOp BinOp.mul 3 (Operand.const (Value.int IntKind.i64 8)) (Operand.tmp 73) 3, type := _, pos := _, after := _, guard := _ }) (v := .int .i64 (e8 : Int)) rfl (by kernel_rfl) (by kernel_rfl) (by kernel_rfl) (fun _ _ _ h => h) (Or.inl ⟨by rfl, fun V (hV : V.cell? ⟨NV, q, none⟩ = some (.int .u32 (wz x)) ∧ V.cell? ⟨w.heap.size + 1, q, none⟩ = some (.int .u32 (wz f))) => by go_simp⟩) hS0 ?_
                  (try simp only [Act.put, List.setIfInBounds_toArray, List.set_cons_zero, List.set_cons_succ])
                  refine wpAnyH_take (i := 13) (oi := { dst := some 75, op := Op.convert 3 39 (Operand.tmp 74), type := _, pos := _, after := _, guard := _ }) (v := .int .u64 (e8 : Int)) rfl (by kernel_rfl) (by kernel_rfl) (by kernel_rfl) (fun _ _ _ h => h) (Or.inl ⟨by rfl, fun V (hV : V.cell? ⟨NV, q, none⟩ = some (.int .u32 (wz x)) ∧ V.cell? ⟨w.heap.size + 1, q, none⟩ = some (.int .u32 (wz f))) => by go_simp⟩) hS0 ?_
                  (try simp only [Act.put, List.setIfInBounds_toArray, List.set_cons_zero, List.set_cons_succ])
                  refine wpAnyH_take (i := 14) (oi := { dst := some 76, op := Op.binOp BinOp.shr 42 (Operand.tmp 71) (Operand.tmp 75) 39, type := _, pos := _, after := _, guard := _ }) (v := .int .u32 (wz z / 2 ^ e8)) rfl (by kernel_rfl) (by kernel_rfl) (by kernel_rfl) (fun _ _ _ h => h) (Or.inl ⟨by rfl, fun V (hV : V.cell? ⟨NV, q, none⟩ = some (.int .u32 (wz x)) ∧ V.cell? ⟨w.heap.size + 1, q, none⟩ = some (.int .u32 (wz f))) => by go_simp⟩) hS0 ?_
                  (try simp only [Act.put, List.setIfInBounds_toArray, List.set_cons_zero, List.set_cons_succ])
                  refine wpAnyH_take (i := 15) (oi := { dst := some 77, op := Op.convert 42 5 (Operand.tmp 76), type := _, pos := _, after := _, guard := _ }) (v := .int .u8 (wz z / 2 ^ e8 % 256)) rfl (by kernel_rfl) (by kernel_rfl) (by kernel_rfl) (fun _ _ _ h => h) (Or.inl ⟨by rfl, fun V (hV : V.cell? ⟨NV, q, none⟩ = some (.int .u32 (wz x)) ∧ V.cell? ⟨w.heap.size + 1, q, none⟩ = some (.int .u32 (wz f))) => by go_simp⟩) hS0 ?_
                  (try simp only [Act.put, List.setIfInBounds_toArray, List.set_cons_zero, List.set_cons_succ])
                  refine wpAnyH_take (i := 16) (oi := { dst := some 78, op := Op.indexAddr 44 (Operand.tmp 12) (Operand.tmp 62), type := _, pos := _, after := _, guard := _ }) (v := .pointer (some ⟨N12, r, none⟩)) rfl (by kernel_rfl) (by kernel_rfl) (by kernel_rfl) (fun _ _ _ h => h) (Or.inl ⟨by rfl, fun V (hV : V.cell? ⟨NV, q, none⟩ = some (.int .u32 (wz x)) ∧ V.cell? ⟨w.heap.size + 1, q, none⟩ = some (.int .u32 (wz f))) => by go_simp⟩) hS0 ?_
                  (try simp only [Act.put, List.setIfInBounds_toArray, List.set_cons_zero, List.set_cons_succ])
                  refine wpAnyH_ready (rs := [17]) (by kernel_rfl) (by simp) ?_
                  refine AllReadyH.cons (o := { dst := none, op := Op.store 5 (Operand.tmp 78) (Operand.tmp 77), type := _, pos := _, after := _, guard := _ }) rfl (fun K9 hK9 => ?_) AllReadyH.nil
                  go_simp
                  refine hK9.out _ _ hS1 (fun _ => ?_)
                  clear hK9 K9
                  (try simp only [Act.put, List.setIfInBounds_toArray, List.set_cons_zero, List.set_cons_succ])
                  refine wpAnyH_done (by kernel_rfl) ?_ _
                  refine NoPanic.normal ?_
                  go_wp2
                  go_roundw
                  case rel => exact ⟨r + 1, by omega, by go_num, unhide HX2, unhide HQ2, unhide HT2, unhide HO2, unhide HG2⟩
                  case measure => simp [intOf]; omega
                · obtain rfl : r = 64 := by omega
                  rw [show ((64 : Nat) : Int) = 64 from rfl]
                  rw [List.take_of_length_le (by rw [unhide HXL]; exact Nat.le_refl _), Nat.sub_self, List.replicate_zero, List.append_nil, unhide HFIN] at hX
                  have hz64 : (((blockL k n c).map bv).toArray).size = 64 := by simp [blockL_length]
                  have HZ64 := hide hz64
                  clear hz64
                  go_wp2_with (first | (refine wpList_load_row rfl 44 _ rfl N12 rfl _ _ _ _ hX Tryd.underlying44 rfl ?_ ?_; (rw [unhide HZ64]; exact hi64)) | (refine wpList_store_row rfl 44 _ _ rfl w.heap.size _ rfl rfl _ _ hO ?_ ?_ ?_ ?_; (rw [unhide HZ64]; exact hi64); (rw [unhide HZ64]; rfl); (exact all_oneCell_toArray (bv_one _))))
                  have hS := hO.row ((blockL k n c).map bv)
                  have hG2 : w.grownBy (wr.setRow w.heap.size ((blockL k n c).map bv).toArray) none := gb_row hG _ (Or.inl (Nat.le_refl _))
                  refine bodyPost_ret (v := .agg ((blockL k n c).map bv).toArray) (results_cell_row (g := w.heap.size) rfl _ _ _ _ _ _ ?_ hS Tryd.underlying44 rfl ?_) rfl ⟨rfl, hG2⟩
                  · rfl
                  · rw [unhide HZ64]; exact hi64

end Go.Proofs.YtceiehkbhebnpaaDoor

/- What the document's answer for layer 4 (package coffretref04) gives as a text laid over the key's bytes (Stream). Of a key of 32 bytes, a nonce of 12, and a text of at most 1000. -/
namespace Go.Proofs.YtceiehkbhebnpaaDoor
open Go.RowKit
attribute [local go_sem ↓] Go.wp_at_zero Go.wp_at_succ

set_option maxRecDepth 100000 in
set_option maxHeartbeats 4000000 in
theorem rstream_any (w : World) (k n : List UInt8) (c : W) (hk : k.length = 32) (hn : n.length = 12) (l : List UInt8) (hlen : l.length ≤ 1000) :
    Calls Tryd.prog 22 #[.string (str k), .string (str n), .int .u32 (wz c), .string (str l)] w fun e w' => e = .returned (.string (str (streamL k n c l))) ∧ w.grownBy w' none := by
  have hi64 : (Tryd.prog.info? 44).map (·.size) = some 64 := by kernel_rfl
  obtain ⟨Z, hZ⟩ : ∃ A : Array Value, A = ((List.replicate 64 (0 : UInt8)).map bv).toArray := ⟨_, rfl⟩
  have hz := zero64b
  rw [← hZ] at hz
  obtain ⟨xs, hxs⟩ : ∃ xs, xs = streamL k n c l := ⟨_, rfl⟩
  obtain ⟨N, hN⟩ : ∃ N, N = l.length := ⟨_, rfl⟩
  have hxl : xs.length = N := by rw [hxs, streamL_length, hN]
  have hls : (str l).size = N := by rw [str_size, hN]
  have hN1 : N ≤ 1000 := by omega
  have HZ := hide hZ
  have HK := hide hk
  have HN := hide hn
  have HNN := hide hN
  have HXS := hide hxs
  have HXL := hide hxl
  rw [← hxs]
  clear hZ hk hn hN hxs hxl hlen
  have hs0 : (Value.string { data := #[] }) = .string (str []) := rfl
  go_enter Tryd.func22, Tryd.ntmps22
  go_wp2
  go_loopw [9, 11] (fun so i wr => ∃ (r : Nat) (bl : List UInt8), r ≤ N ∧ so = .string (str (xs.take r)) ∧ i = .int .i64 r ∧ bl.length = 64 ∧ (r % 64 ≠ 0 → bl = blockL k n (c + BitVec.ofNat 32 (r / 64))) ∧ Blk wr w.heap.size 44 (bl.map bv) ∧ w.grownBy wr none) (fun _ i _ => N - (intOf i).toNat)
  case atStart =>
    refine ⟨0, List.replicate 64 0, Nat.zero_le _, rfl, rfl, List.length_replicate, fun h => absurd rfl h, ?_, gb_alloc (gb_refl _ _) _⟩
    rw [unhide HZ]; exact Blk.new w 44 _
  case round =>
    obtain ⟨r, bl, hr, rfl, rfl, hbl, hbe, hB, hg⟩ := hrel
    by_cases hlt : r < N
    · have hrl : r < l.length := by rw [← unhide HNN]; exact hlt
      obtain ⟨x, hx⟩ : ∃ x, x = l[r] := ⟨_, rfl⟩
      have hsi : ∀ h, ((str l)[r]'h).toNat = x.toNat := fun h => by rw [hx]; rfl
      obtain ⟨m, hm⟩ : ∃ m : Nat, m = r % 64 := ⟨_, rfl⟩
      obtain ⟨d, hd⟩ : ∃ d : Nat, d = r / 64 := ⟨_, rfl⟩
      have hm1 : (r : Int) % 64 = (m : Int) := by omega
      have hm2 : Int.tmod (r : Int) 64 = (m : Int) := by rw [Int.tmod_eq_emod_of_nonneg (by omega)]; omega
      have hd1 : (r : Int) / 64 = (d : Int) := by omega
      have hd2 : Int.tdiv (r : Int) 64 = (d : Int) := by rw [Int.tdiv_eq_ediv_of_nonneg (by omega)]; omega
      have hd3 : IntKind.i64.wrap (d : Int) = (d : Int) := by rw [IntKind.wrap_i64]; omega
      have hq0 : (0 : Int) ≤ (r : Int) := by omega
      have hq1 : (r : Int) < (N : Int) := by omega
      have m0 : (0 : Int) ≤ (m : Int) := by omega
      have m1 : (m : Int) < 64 := by omega
      have hkey : keyAt k n c r = (blockL k n (c + BitVec.ofNat 32 d)).getD m 0 := by rw [hm, hd]; rfl
      have hxr : xs.getD r 0 = x ^^^ keyAt k n c r := by rw [unhide HXS, streamL_get k n c l r hrl, hx]
      obtain ⟨os, hos⟩ : ∃ o, o = xs.take r := ⟨_, rfl⟩
      rw [← hos]
      have HOS := hide hos
      clear hos
      by_cases hm0 : m = 0
      · subst hm0
        have hm3 : (r : Int) % 64 = 0 := by omega
        have hm4 : Int.tmod (r : Int) 64 = 0 := by rw [Int.tmod_eq_emod_of_nonneg (by omega)]; omega
        clear hm1 hm2 m0 m1
        have hbk := rblock4_any wr k n (c + BitVec.ofNat 32 d) (unhide HK) (unhide HN)
        obtain ⟨cd, hcd⟩ : ∃ cd, cd = (BitVec.ofNat 32 d : W) := ⟨_, rfl⟩
        have hwc := wz_count d
        rw [← hcd] at hbk hwc hkey
        obtain ⟨bl2, hbe2⟩ : ∃ b, b = blockL k n (c + cd) := ⟨_, rfl⟩
        rw [← hbe2] at hbk
        have hbl2 : bl2.length = 64 := by rw [hbe2]; exact blockL_length _ _ _
        have hsz : ((bl2.map bv).toArray).size = 64 := by simp [hbl2]
        have hsz0 : ((bl.map bv).toArray).size = 64 := by simp [hbl]
        have ha := w_add
        have ham := w_addm
        have HB := hide hB
        have HSZ := hide hsz
        have HSZ0 := hide hsz0
        have HX := hide hx
        have HXR := hide hxr
        have HKEY := hide hkey
        have HBE2 := hide hbe2
        have HBL := hide hbl2
        have HCD := hide hcd
        have HMM := hide hm
        have HDD := hide hd
        clear hB hsz hsz0 hx hxr hkey hbe2 hbl2 hcd hm hd hbe hbl
        go_wp2_with fail
        refine hbk.mono ?_
        rintro e w2 ⟨rfl, g2⟩
        clear hbk ha ham hwc
        have hB' := (unhide HB).kept g2 (by simp)
        obtain ⟨W3, hW3⟩ : ∃ W3, W3 = w2.setRow w.heap.size (bl2.map bv).toArray := ⟨_, rfl⟩
        have hBv : Blk W3 w.heap.size 44 (bl2.map bv) := by rw [hW3]; exact hB'.row _
        have hgv : w.grownBy W3 none := by rw [hW3]; exact gb_row (gb_trans hg g2 (fun _ e => by cases e)) _ (Or.inl (Nat.le_refl _))
        have hxr := unhide HXR
        have hkey := unhide HKEY
        have hm := unhide HMM
        have hd := unhide HDD
        have hbl2 := unhide HBL
        have hbe2 : bl2 = blockL k n (c + BitVec.ofNat 32 d) := by rw [unhide HBE2, unhide HCD]
        rw [unhide HCD] at hkey
        obtain ⟨y, hy⟩ : ∃ y, y = bl2.getD 0 0 := ⟨_, rfl⟩
        have hcy := hBv.byte 0 (by rw [hbl2]; omega)
        rw [← hy] at hcy
        unfold bv at hcy
        obtain ⟨z, hz⟩ : ∃ z, z = x ^^^ y := ⟨_, rfl⟩
        have hbx := b8_xor x y
        rw [← hz] at hbx
        have hos := unhide HOS
        have hon : os ++ [z] = xs.take (r + 1) := by
          have h1 : r < xs.length := by rw [unhide HXL]; exact hlt
          have h2 : xs[r] = xs.getD r 0 := by simp [List.getD, h1]
          rw [hos, take_snoc h1, h2, hxr, hkey, ← hbe2, ← hy, ← hz]
        have hol : os.length = r := by rw [hos]; simp [unhide HXL]; omega
        have hnx : (r + 1) % 64 ≠ 0 → bl2 = blockL k n (c + BitVec.ofNat 32 ((r + 1) / 64)) := fun h => by
          rw [hbe2, show (r + 1) / 64 = d by omega]
        have sAB : str os ++ str [z] = str (os ++ [z]) := str_app os [z]
        have zA : (str os).size = os.length := str_size os
        have zB : (str [z]).size = 1 := str_size [z]
        have hAl : os.length + 1 ≤ 9223372036854775807 := by omega
        have hAi : (os.length : Int) ≤ 1000 := by omega
        have hS0 : W3.drew.cell? ⟨w.heap.size, 0, none⟩ = some (.int .u8 ((y.toNat : Nat) : Int)) := hcy
        have hS1 : (W3.alloc (.cells #[.int .u8 ((z.toNat : Nat) : Int)] 5)).drew.cell? ⟨w.heap.size, 0, none⟩ = some (.int .u8 ((y.toNat : Nat) : Int)) := (hBv.alloc _).drew.byte 0 (by rw [hbl2]; omega) |>.trans (by rw [← hy]; rfl)
        have hB2 : Blk (W3.alloc (.cells #[.int .u8 ((z.toNat : Nat) : Int)] 5)).drew w.heap.size 44 (bl2.map bv) := (hBv.alloc _).drew
        have hg2 : w.grownBy (W3.alloc (.cells #[.int .u8 ((z.toNat : Nat) : Int)] 5)).drew none := gb_drew (gb_alloc hgv _)
        have cv : (convert 24 9 (.slice (some ⟨W3.heap.size, 0, none⟩) 1 1)).run Tryd.prog (W3.alloc (.cells #[.int .u8 ((z.toNat : Nat) : Int)] 5)).drew = .ok (.string (str [z])) (W3.alloc (.cells #[.int .u8 ((z.toNat : Nat) : Int)] 5)).drew := conv_str (l := [z]) (blk_bts (b := W3.heap.size) (t := 5) (l := [z]) (Blk.new W3 5 [.int .u8 ((z.toNat : Nat) : Int)]).drew 1 (Nat.le_refl _) (by unfold maxLen; omega))
        have HON := hide hon
        have HB2 := hide hB2
        have HG2 := hide hg2
        have HNX := hide hnx
        have HBL2 := hide hbl2
        clear hon hB2 hg2 hnx hbl2 hBv hy hz hbe2 hkey hxr hos hol hcy
        have HB' := hide hB'
        have HW3 := hide hW3
        clear hB' hW3 hm hd
        go_wp2_with (refine wpList_store_row rfl 44 _ _ rfl w.heap.size _ rfl rfl _ _ (unhide HB') ?_ ?_ ?_ ?_; (rw [unhide HSZ]; exact hi64); (rw [unhide HSZ, unhide HSZ0]); (exact all_oneCell_toArray (bv_one _)); rw [← unhide HW3])
        refine wp_region_noPanic ?_
        refine wp_region_held_drew (S := fun V => V.cell? ⟨w.heap.size, 0, none⟩ = some (.int .u8 ((y.toNat : Nat) : Int))) (by kernel_rfl) hS0 (fun _ => ?_)
        refine wpAnyH_take (i := 0) (oi := { dst := some 29, op := Op.move (Operand.tmp 9), type := _, pos := _, after := _, guard := _ }) (v := .string (str os)) rfl (by kernel_rfl) (by kernel_rfl) (by kernel_rfl) (fun _ _ _ h => h) (Or.inl ⟨by rfl, fun V (hV : V.cell? ⟨w.heap.size, 0, none⟩ = some (.int .u8 ((y.toNat : Nat) : Int))) => by go_simp⟩) hS0 ?_
        (try simp only [Act.put, List.setIfInBounds_toArray, List.set_cons_zero, List.set_cons_succ])
        refine wpAnyH_take (i := 1) (oi := { dst := some 30, op := Op.move (Operand.tmp 3), type := _, pos := _, after := _, guard := _ }) (v := .string (str l)) rfl (by kernel_rfl) (by kernel_rfl) (by kernel_rfl) (fun _ _ _ h => h) (Or.inl ⟨by rfl, fun V (hV : V.cell? ⟨w.heap.size, 0, none⟩ = some (.int .u8 ((y.toNat : Nat) : Int))) => by go_simp⟩) hS0 ?_
        (try simp only [Act.put, List.setIfInBounds_toArray, List.set_cons_zero, List.set_cons_succ])
        refine wpAnyH_take (i := 2) (oi := { dst := some 31, op := Op.move (Operand.tmp 11), type := _, pos := _, after := _, guard := _ }) (v := .int .i64 (r : Int)) rfl (by kernel_rfl) (by kernel_rfl) (by kernel_rfl) (fun _ _ _ h => h) (Or.inl ⟨by rfl, fun V (hV : V.cell? ⟨w.heap.size, 0, none⟩ = some (.int .u8 ((y.toNat : Nat) : Int))) => by go_simp⟩) hS0 ?_
        (try simp only [Act.put, List.setIfInBounds_toArray, List.set_cons_zero, List.set_cons_succ])
        refine wpAnyH_take (i := 3) (oi := { dst := some 32, op := Op.index 9 (Operand.tmp 30) (Operand.tmp 31), type := _, pos := _, after := _, guard := _ }) (v := .int .u8 ((x.toNat : Nat) : Int)) rfl (by kernel_rfl) (by kernel_rfl) (by kernel_rfl) (fun _ _ _ h => h) (Or.inl ⟨by rfl, fun V (hV : V.cell? ⟨w.heap.size, 0, none⟩ = some (.int .u8 ((y.toNat : Nat) : Int))) => by go_simp⟩) hS0 ?_
        (try simp only [Act.put, List.setIfInBounds_toArray, List.set_cons_zero, List.set_cons_succ])
        refine wpAnyH_take (i := 4) (oi := { dst := some 33, op := Op.move (Operand.tmp 11), type := _, pos := _, after := _, guard := _ }) (v := .int .i64 (r : Int)) rfl (by kernel_rfl) (by kernel_rfl) (by kernel_rfl) (fun _ _ _ h => h) (Or.inl ⟨by rfl, fun V (hV : V.cell? ⟨w.heap.size, 0, none⟩ = some (.int .u8 ((y.toNat : Nat) : Int))) => by go_simp⟩) hS0 ?_
        (try simp only [Act.put, List.setIfInBounds_toArray, List.set_cons_zero, List.set_cons_succ])
        refine wpAnyH_take (i := 5) (oi := { dst := some 34, op := Op.binOp BinOp.rem 3 (Operand.tmp 33) (Operand.const (Value.int IntKind.i64 64)) 3, type := _, pos := _, after := _, guard := _ }) (v := .int .i64 0) rfl (by kernel_rfl) (by kernel_rfl) (by kernel_rfl) (fun _ _ _ h => h) (Or.inl ⟨by rfl, fun V (hV : V.cell? ⟨w.heap.size, 0, none⟩ = some (.int .u8 ((y.toNat : Nat) : Int))) => by go_simp⟩) hS0 ?_
        (try simp only [Act.put, List.setIfInBounds_toArray, List.set_cons_zero, List.set_cons_succ])
        refine wpAnyH_take (i := 6) (oi := { dst := some 35, op := Op.indexAddr 44 (Operand.tmp 10) (Operand.tmp 34), type := _, pos := _, after := _, guard := _ }) (v := .pointer (some ⟨w.heap.size, 0, none⟩)) rfl (by kernel_rfl) (by kernel_rfl) (by kernel_rfl) (fun _ _ _ h => h) (Or.inl ⟨by rfl, fun V (hV : V.cell? ⟨w.heap.size, 0, none⟩ = some (.int .u8 ((y.toNat : Nat) : Int))) => by go_simp⟩) hS0 ?_
        (try simp only [Act.put, List.setIfInBounds_toArray, List.set_cons_zero, List.set_cons_succ])
        refine wpAnyH_take (i := 7) (oi := { dst := some 36, op := Op.load 5 (Operand.tmp 35), type := _, pos := _, after := _, guard := _ }) (v := .int .u8 ((y.toNat : Nat) : Int)) rfl (by kernel_rfl) (by kernel_rfl) (by kernel_rfl) (fun _ _ _ h => h) (Or.inl ⟨by rfl, fun V (hV : V.cell? ⟨w.heap.size, 0, none⟩ = some (.int .u8 ((y.toNat : Nat) : Int))) => by go_simp⟩) hS0 ?_
        (try simp only [Act.put, List.setIfInBounds_toArray, List.set_cons_zero, List.set_cons_succ])
        refine wpAnyH_take (i := 8) (oi := { dst := some 37, op := Op.binOp BinOp.xor 5 (Operand.tmp 32) (Operand.tmp 36) 5, type := _, pos := _, after := _, guard := _ }) (v := .int .u8 ((z.toNat : Nat) : Int)) rfl (by kernel_rfl) (by kernel_rfl) (by kernel_rfl) (fun _ _ _ h => h) (Or.inl ⟨by rfl, fun V (hV : V.cell? ⟨w.heap.size, 0, none⟩ = some (.int .u8 ((y.toNat : Nat) : Int))) => by go_simp⟩) hS0 ?_
        (try simp only [Act.put, List.setIfInBounds_toArray, List.set_cons_zero, List.set_cons_succ])
        refine wpAnyH_ready (rs := [9]) (by kernel_rfl) (by simp) ?_
        refine AllReadyH.cons (o := { dst := some 38, op := Op.buildSlice 24 1 #[(0, (Operand.tmp 37))], type := _, pos := _, after := _, guard := _ }) rfl (fun K9 hK9 => ?_) AllReadyH.nil
        go_simp
        refine hK9.out _ _ hS1 (fun _ => ?_)
        clear hK9 K9
        (try simp only [Act.put, List.setIfInBounds_toArray, List.set_cons_zero, List.set_cons_succ])
        refine wpAnyH_ready (rs := [10]) (by kernel_rfl) (by simp) ?_
        refine AllReadyH.cons (o := { dst := some 39, op := Op.convert 24 9 (Operand.tmp 38), type := _, pos := _, after := _, guard := _ }) rfl (fun K9 hK9 => ?_) AllReadyH.nil
        go_simp
        refine hK9.out _ _ hS1 (fun _ => ?_)
        clear hK9 K9
        (try simp only [Act.put, List.setIfInBounds_toArray, List.set_cons_zero, List.set_cons_succ])
        refine wpAnyH_take (i := 11) (oi := { dst := some 40, op := Op.binOp BinOp.add 9 (Operand.tmp 29) (Operand.tmp 39) 9, type := _, pos := _, after := _, guard := _ }) (v := .string (str (os ++ [z]))) rfl (by kernel_rfl) (by kernel_rfl) (by kernel_rfl) (fun _ _ _ h => h) (Or.inl ⟨by rfl, fun V (hV : V.cell? ⟨w.heap.size, 0, none⟩ = some (.int .u8 ((y.toNat : Nat) : Int))) => by go_simp⟩) hS1 ?_
        (try simp only [Act.put, List.setIfInBounds_toArray, List.set_cons_zero, List.set_cons_succ])
        refine wpAnyH_take (i := 12) (oi := { dst := some 9, op := Op.assign (Operand.tmp 40), type := _, pos := _, after := _, guard := _ }) (v := .string (str (os ++ [z]))) rfl (by kernel_rfl) (by kernel_rfl) (by kernel_rfl) (fun _ _ _ h => h) (Or.inl ⟨by rfl, fun V (hV : V.cell? ⟨w.heap.size, 0, none⟩ = some (.int .u8 ((y.toNat : Nat) : Int))) => by go_simp⟩) hS1 ?_
        (try simp only [Act.put, List.setIfInBounds_toArray, List.set_cons_zero, List.set_cons_succ])
        refine wpAnyH_done (by kernel_rfl) ?_ _
        refine NoPanic.normal ?_
        go_wp2
        go_roundw
        case rel => exact ⟨r + 1, bl2, by omega, by rw [unhide HON], by go_num, unhide HBL2, unhide HNX, unhide HB2, unhide HG2⟩
        case measure => simp [intOf]; omega
      · have hm3 : ¬ ((m : Int) = 0) := by omega
        have hm4 : ((m : Int) == 0) = false := by simpa using hm3
        have hbl2 := hbl
        obtain ⟨bl2, hbb⟩ : ∃ b, b = bl := ⟨_, rfl⟩
        rw [← hbb] at hbl2 hB
        have hBv := hB
        have hgv := hg
        have hbe2 : bl2 = blockL k n (c + BitVec.ofNat 32 d) := by rw [hbb, hd]; exact hbe (by omega)
        obtain ⟨y, hy⟩ : ∃ y, y = bl2.getD m 0 := ⟨_, rfl⟩
        have hcy := hBv.byte m (by rw [hbl2]; omega)
        rw [← hy] at hcy
        unfold bv at hcy
        obtain ⟨z, hz⟩ : ∃ z, z = x ^^^ y := ⟨_, rfl⟩
        have hbx := b8_xor x y
        rw [← hz] at hbx
        have hos := unhide HOS
        have hon : os ++ [z] = xs.take (r + 1) := by
          have h1 : r < xs.length := by rw [unhide HXL]; exact hlt
          have h2 : xs[r] = xs.getD r 0 := by simp [List.getD, h1]
          rw [hos, take_snoc h1, h2, hxr, hkey, ← hbe2, ← hy, ← hz]
        have hol : os.length = r := by rw [hos]; simp [unhide HXL]; omega
        have hnx : (r + 1) % 64 ≠ 0 → bl2 = blockL k n (c + BitVec.ofNat 32 ((r + 1) / 64)) := fun h => by
          rw [hbe2, show (r + 1) / 64 = d by omega]
        have sAB : str os ++ str [z] = str (os ++ [z]) := str_app os [z]
        have zA : (str os).size = os.length := str_size os
        have zB : (str [z]).size = 1 := str_size [z]
        have hAl : os.length + 1 ≤ 9223372036854775807 := by omega
        have hAi : (os.length : Int) ≤ 1000 := by omega
        have hS0 : wr.drew.cell? ⟨w.heap.size, m, none⟩ = some (.int .u8 ((y.toNat : Nat) : Int)) := hcy
        have hS1 : (wr.alloc (.cells #[.int .u8 ((z.toNat : Nat) : Int)] 5)).drew.cell? ⟨w.heap.size, m, none⟩ = some (.int .u8 ((y.toNat : Nat) : Int)) := (hBv.alloc _).drew.byte m (by rw [hbl2]; omega) |>.trans (by rw [← hy]; rfl)
        have hB2 : Blk (wr.alloc (.cells #[.int .u8 ((z.toNat : Nat) : Int)] 5)).drew w.heap.size 44 (bl2.map bv) := (hBv.alloc _).drew
        have hg2 : w.grownBy (wr.alloc (.cells #[.int .u8 ((z.toNat : Nat) : Int)] 5)).drew none := gb_drew (gb_alloc hgv _)
        have cv : (convert 24 9 (.slice (some ⟨wr.heap.size, 0, none⟩) 1 1)).run Tryd.prog (wr.alloc (.cells #[.int .u8 ((z.toNat : Nat) : Int)] 5)).drew = .ok (.string (str [z])) (wr.alloc (.cells #[.int .u8 ((z.toNat : Nat) : Int)] 5)).drew := conv_str (l := [z]) (blk_bts (b := wr.heap.size) (t := 5) (l := [z]) (Blk.new wr 5 [.int .u8 ((z.toNat : Nat) : Int)]).drew 1 (Nat.le_refl _) (by unfold maxLen; omega))
        have HON := hide hon
        have HB2 := hide hB2
        have HG2 := hide hg2
        have HNX := hide hnx
        have HBL2 := hide hbl2
        clear hon hB2 hg2 hnx hbl2 hBv hy hz hbe2 hkey hxr hos hol hcy
        clear hB hbe hbl hbb hm hd hx
        go_wp2
        refine wp_region_noPanic ?_
        refine wp_region_held_drew (S := fun V => V.cell? ⟨w.heap.size, m, none⟩ = some (.int .u8 ((y.toNat : Nat) : Int))) (by kernel_rfl) hS0 (fun _ => ?_)
        refine wpAnyH_take (i := 0) (oi := { dst := some 29, op := Op.move (Operand.tmp 9), type := _, pos := _, after := _, guard := _ }) (v := .string (str os)) rfl (by kernel_rfl) (by kernel_rfl) (by kernel_rfl) (fun _ _ _ h => h) (Or.inl ⟨by rfl, fun V (hV : V.cell? ⟨w.heap.size, m, none⟩ = some (.int .u8 ((y.toNat : Nat) : Int))) => by go_simp⟩) hS0 ?_
        (try simp only [Act.put, List.setIfInBounds_toArray, List.set_cons_zero, List.set_cons_succ])
        refine wpAnyH_take (i := 1) (oi := { dst := some 30, op := Op.move (Operand.tmp 3), type := _, pos := _, after := _, guard := _ }) (v := .string (str l)) rfl (by kernel_rfl) (by kernel_rfl) (by kernel_rfl) (fun _ _ _ h => h) (Or.inl ⟨by rfl, fun V (hV : V.cell? ⟨w.heap.size, m, none⟩ = some (.int .u8 ((y.toNat : Nat) : Int))) => by go_simp⟩) hS0 ?_
        (try simp only [Act.put, List.setIfInBounds_toArray, List.set_cons_zero, List.set_cons_succ])
        refine wpAnyH_take (i := 2) (oi := { dst := some 31, op := Op.move (Operand.tmp 11), type := _, pos := _, after := _, guard := _ }) (v := .int .i64 (r : Int)) rfl (by kernel_rfl) (by kernel_rfl) (by kernel_rfl) (fun _ _ _ h => h) (Or.inl ⟨by rfl, fun V (hV : V.cell? ⟨w.heap.size, m, none⟩ = some (.int .u8 ((y.toNat : Nat) : Int))) => by go_simp⟩) hS0 ?_
        (try simp only [Act.put, List.setIfInBounds_toArray, List.set_cons_zero, List.set_cons_succ])
        refine wpAnyH_take (i := 3) (oi := { dst := some 32, op := Op.index 9 (Operand.tmp 30) (Operand.tmp 31), type := _, pos := _, after := _, guard := _ }) (v := .int .u8 ((x.toNat : Nat) : Int)) rfl (by kernel_rfl) (by kernel_rfl) (by kernel_rfl) (fun _ _ _ h => h) (Or.inl ⟨by rfl, fun V (hV : V.cell? ⟨w.heap.size, m, none⟩ = some (.int .u8 ((y.toNat : Nat) : Int))) => by go_simp⟩) hS0 ?_
        (try simp only [Act.put, List.setIfInBounds_toArray, List.set_cons_zero, List.set_cons_succ])
        refine wpAnyH_take (i := 4) (oi := { dst := some 33, op := Op.move (Operand.tmp 11), type := _, pos := _, after := _, guard := _ }) (v := .int .i64 (r : Int)) rfl (by kernel_rfl) (by kernel_rfl) (by kernel_rfl) (fun _ _ _ h => h) (Or.inl ⟨by rfl, fun V (hV : V.cell? ⟨w.heap.size, m, none⟩ = some (.int .u8 ((y.toNat : Nat) : Int))) => by go_simp⟩) hS0 ?_
        (try simp only [Act.put, List.setIfInBounds_toArray, List.set_cons_zero, List.set_cons_succ])
        refine wpAnyH_take (i := 5) (oi := { dst := some 34, op := Op.binOp BinOp.rem 3 (Operand.tmp 33) (Operand.const (Value.int IntKind.i64 64)) 3, type := _, pos := _, after := _, guard := _ }) (v := .int .i64 (m : Int)) rfl (by kernel_rfl) (by kernel_rfl) (by kernel_rfl) (fun _ _ _ h => h) (Or.inl ⟨by rfl, fun V (hV : V.cell? ⟨w.heap.size, m, none⟩ = some (.int .u8 ((y.toNat : Nat) : Int))) => by go_simp⟩) hS0 ?_
        (try simp only [Act.put, List.setIfInBounds_toArray, List.set_cons_zero, List.set_cons_succ])
        refine wpAnyH_take (i := 6) (oi := { dst := some 35, op := Op.indexAddr 44 (Operand.tmp 10) (Operand.tmp 34), type := _, pos := _, after := _, guard := _ }) (v := .pointer (some ⟨w.heap.size, m, none⟩)) rfl (by kernel_rfl) (by kernel_rfl) (by kernel_rfl) (fun _ _ _ h => h) (Or.inl ⟨by rfl, fun V (hV : V.cell? ⟨w.heap.size, m, none⟩ = some (.int .u8 ((y.toNat : Nat) : Int))) => by go_simp⟩) hS0 ?_
        (try simp only [Act.put, List.setIfInBounds_toArray, List.set_cons_zero, List.set_cons_succ])
        refine wpAnyH_take (i := 7) (oi := { dst := some 36, op := Op.load 5 (Operand.tmp 35), type := _, pos := _, after := _, guard := _ }) (v := .int .u8 ((y.toNat : Nat) : Int)) rfl (by kernel_rfl) (by kernel_rfl) (by kernel_rfl) (fun _ _ _ h => h) (Or.inl ⟨by rfl, fun V (hV : V.cell? ⟨w.heap.size, m, none⟩ = some (.int .u8 ((y.toNat : Nat) : Int))) => by go_simp⟩) hS0 ?_
        (try simp only [Act.put, List.setIfInBounds_toArray, List.set_cons_zero, List.set_cons_succ])
        refine wpAnyH_take (i := 8) (oi := { dst := some 37, op := Op.binOp BinOp.xor 5 (Operand.tmp 32) (Operand.tmp 36) 5, type := _, pos := _, after := _, guard := _ }) (v := .int .u8 ((z.toNat : Nat) : Int)) rfl (by kernel_rfl) (by kernel_rfl) (by kernel_rfl) (fun _ _ _ h => h) (Or.inl ⟨by rfl, fun V (hV : V.cell? ⟨w.heap.size, m, none⟩ = some (.int .u8 ((y.toNat : Nat) : Int))) => by go_simp⟩) hS0 ?_
        (try simp only [Act.put, List.setIfInBounds_toArray, List.set_cons_zero, List.set_cons_succ])
        refine wpAnyH_ready (rs := [9]) (by kernel_rfl) (by simp) ?_
        refine AllReadyH.cons (o := { dst := some 38, op := Op.buildSlice 24 1 #[(0, (Operand.tmp 37))], type := _, pos := _, after := _, guard := _ }) rfl (fun K9 hK9 => ?_) AllReadyH.nil
        go_simp
        refine hK9.out _ _ hS1 (fun _ => ?_)
        clear hK9 K9
        (try simp only [Act.put, List.setIfInBounds_toArray, List.set_cons_zero, List.set_cons_succ])
        refine wpAnyH_ready (rs := [10]) (by kernel_rfl) (by simp) ?_
        refine AllReadyH.cons (o := { dst := some 39, op := Op.convert 24 9 (Operand.tmp 38), type := _, pos := _, after := _, guard := _ }) rfl (fun K9 hK9 => ?_) AllReadyH.nil
        go_simp
        refine hK9.out _ _ hS1 (fun _ => ?_)
        clear hK9 K9
        (try simp only [Act.put, List.setIfInBounds_toArray, List.set_cons_zero, List.set_cons_succ])
        refine wpAnyH_take (i := 11) (oi := { dst := some 40, op := Op.binOp BinOp.add 9 (Operand.tmp 29) (Operand.tmp 39) 9, type := _, pos := _, after := _, guard := _ }) (v := .string (str (os ++ [z]))) rfl (by kernel_rfl) (by kernel_rfl) (by kernel_rfl) (fun _ _ _ h => h) (Or.inl ⟨by rfl, fun V (hV : V.cell? ⟨w.heap.size, m, none⟩ = some (.int .u8 ((y.toNat : Nat) : Int))) => by go_simp⟩) hS1 ?_
        (try simp only [Act.put, List.setIfInBounds_toArray, List.set_cons_zero, List.set_cons_succ])
        refine wpAnyH_take (i := 12) (oi := { dst := some 9, op := Op.assign (Operand.tmp 40), type := _, pos := _, after := _, guard := _ }) (v := .string (str (os ++ [z]))) rfl (by kernel_rfl) (by kernel_rfl) (by kernel_rfl) (fun _ _ _ h => h) (Or.inl ⟨by rfl, fun V (hV : V.cell? ⟨w.heap.size, m, none⟩ = some (.int .u8 ((y.toNat : Nat) : Int))) => by go_simp⟩) hS1 ?_
        (try simp only [Act.put, List.setIfInBounds_toArray, List.set_cons_zero, List.set_cons_succ])
        refine wpAnyH_done (by kernel_rfl) ?_ _
        refine NoPanic.normal ?_
        go_wp2
        go_roundw
        case rel => exact ⟨r + 1, bl2, by omega, by rw [unhide HON], by go_num, unhide HBL2, unhide HNX, unhide HB2, unhide HG2⟩
        case measure => simp [intOf]; omega
    · obtain rfl : r = N := by omega
      rw [List.take_of_length_le (by rw [unhide HXL]; exact Nat.le_refl _)]
      clear hB hbe
      go_wp2
      go_ret
      exact ⟨rfl, hg⟩

end Go.Proofs.YtceiehkbhebnpaaDoor
