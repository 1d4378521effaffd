/- What the library's RotateLeft32 and chacha's quarter and turn answer and leave: of sixteen words in a block of their own. No condition but those that each lemma names. -/
import Derived.Test.YtjckdgapefaokaaDoorPMath
import Derived.Test.YtjckdgapefaokaaDoorBActs
import Derived.Deep.MidRow
import Derived.Deep.RegionHeld3
import Derived.BigQuiet
import Derived.Deep.DrawnRows
namespace Go.Proofs.YtjckdgapefaokaaDoor
open Go.RowKit
attribute [local go_sem ↓] Go.wp_at_zero Go.wp_at_succ

theorem and_31 (n : Nat) (h1 : n < 32) : bits .and .u64 (n : Int) 31 = (n : Int) := by
  have : ∀ k : Fin 32, bits .and .u64 (k.val : Int) 31 = (k.val : Int) := by decide +kernel
  exact this ⟨n, h1⟩

theorem rotl_any (w : World) (x : W) (n : Nat) (h0 : 0 < n) (h1 : n < 32) :
    Calls Tryd.prog 99 #[.int .u32 (wz x), .int .i64 (n : Int)] w fun e w' => e = .returned (.int .u32 (wz (rol x n))) ∧ w' = w := by
  have hl := and_31 n h1
  go_enter Tryd.func99, Tryd.ntmps99
  go_wp2
  go_ret
  rw [w_shlm, w_shr, w_or]
  exact ⟨rfl, rfl⟩

theorem rotl_i (w : World) (x : W) (z : Int) (h0 : 0 < z) (h1 : z < 32) :
    Calls Tryd.prog 99 #[.int .u32 (wz x), .int .i64 z] w fun e w' => e = .returned (.int .u32 (wz (rol x z.toNat))) ∧ w' = w := by
  have := rotl_any w x z.toNat (by omega) (by omega)
  rw [Int.toNat_of_nonneg (by omega)] at this
  exact this

theorem Blk.word {w : World} {b : Nat} {t : TypeId} {s : List W} (h : Blk w b t (s.map wv)) (i : Nat) (hi : i < s.length) : w.cell? ⟨b, i, none⟩ = some (.int .u32 (wz (s.getD i 0))) := by
  rw [h.cell, List.getElem?_map, List.getElem?_eq_getElem hi, show s.getD i 0 = s[i] by simp [List.getD, hi]]
  rfl

theorem Blk.setw {w : World} {b : Nat} {t : TypeId} {s : List W} (h : Blk w b t (s.map wv)) (i : Nat) (x : W) : Blk (w.setCell ⟨b, i, none⟩ (.int .u32 (wz x))) b t ((s.set i x).map wv) := by
  have := h.set i (wv x)
  rw [← List.map_set] at this
  exact this

set_option maxRecDepth 100000 in
set_option maxHeartbeats 2000000 in
theorem quarter_any (w : World) (b : Nat) (t : TypeId) (s : List W) (hs : s.length = 16) (hB : Blk w b t (s.map wv)) (i j k l : Nat) (hi : i < 16) (hj : j < 16) (hk : k < 16) (hl : l < 16)
    (hij : i ≠ j) (hik : i ≠ k) (hil : i ≠ l) (hjk : j ≠ k) (hjl : j ≠ l) (hkl : k ≠ l) :
    Calls Tryd.prog 96 #[.pointer (some ⟨b, 0, none⟩), .int .i64 (i : Int), .int .i64 (j : Int), .int .i64 (k : Int), .int .i64 (l : Int)] w fun e w' => e = .returned (.tuple #[]) ∧ Blk w' b t ((quartL s i j k l).map wv) ∧ w.grownBy w' (some b) := by
  have ci := hB.word i (by omega)
  have cj := hB.word j (by omega)
  have ck := hB.word k (by omega)
  have cl := hB.word l (by omega)
  have fi := hB.fz i
  have fj := hB.fz j
  have fk := hB.fz k
  have fl := hB.fz l
  obtain ⟨xa, hxa⟩ : ∃ x, x = s.getD i 0 := ⟨_, rfl⟩
  obtain ⟨xb, hxb⟩ : ∃ x, x = s.getD j 0 := ⟨_, rfl⟩
  obtain ⟨xc, hxc⟩ : ∃ x, x = s.getD k 0 := ⟨_, rfl⟩
  obtain ⟨xd, hxd⟩ : ∃ x, x = s.getD l 0 := ⟨_, rfl⟩
  rw [← hxa] at ci
  rw [← hxb] at cj
  rw [← hxc] at ck
  rw [← hxd] at cl
  have i0 : (0 : Int) ≤ (i : Int) := by omega
  have i1 : (i : Int) < 16 := by omega
  have j0 : (0 : Int) ≤ (j : Int) := by omega
  have j1 : (j : Int) < 16 := by omega
  have k0 : (0 : Int) ≤ (k : Int) := by omega
  have k1 : (k : Int) < 16 := by omega
  have l0 : (0 : Int) ≤ (l : Int) := by omega
  have l1 : (l : Int) < 16 := by omega
  have HB := hide hB
  have HA := hide hxa
  have HBB := hide hxb
  have HC := hide hxc
  have HD := hide hxd
  have HS := hide hs
  clear hB hxa hxb hxc hxd hs hi hj hk hl
  go_enter Tryd.func96, Tryd.ntmps96
  go_wp2
  go_quiet (fail)
  obtain ⟨wq, hwq⟩ : ∃ wq, wq = w.drewN nq := ⟨_, rfl⟩
  rw [← hwq]
  have hd : ∀ a, wq.cell? a = w.cell? a := fun a => by rw [hwq]; simp
  have hdf : ∀ a, wq.frozen? a = w.frozen? a := fun a => by rw [hwq]; simp
  have hB0 : Blk wq b t (s.map wv) := by rw [hwq]; exact unhide HB
  have hg0 : w.grownBy wq none := by rw [hwq]; exact gb_drewN (gb_refl _ _) _
  rw [← hd] at ci cj ck cl
  rw [← hdf] at fi fj fk fl
  clear hd hdf hwq
  have HB0 := hide hB0
  have HG0 := hide hg0
  clear hB0 hg0
  have hx := w_xor
  have ha := w_add
  have ham := w_addm
  go_wp2_with (go_at_call 99; refine (rotl_i _ _ _ ?_ ?_).mono ?_; (decide); (decide); rintro e w' ⟨rfl, rfl⟩)
  obtain ⟨qa, hqa⟩ : ∃ q, q = (quart xa xb xc xd).a := ⟨_, rfl⟩
  obtain ⟨qb, hqb⟩ : ∃ q, q = (quart xa xb xc xd).b := ⟨_, rfl⟩
  obtain ⟨qc, hqc⟩ : ∃ q, q = (quart xa xb xc xd).c := ⟨_, rfl⟩
  obtain ⟨qd, hqd⟩ : ∃ q, q = (quart xa xb xc xd).d := ⟨_, rfl⟩
  rw [show rol (rol (xb ^^^ (xc + rol (xd ^^^ (xa + xb)) 16)) 12 ^^^ ((xc + rol (xd ^^^ (xa + xb)) 16) + rol (rol (xd ^^^ (xa + xb)) 16 ^^^ ((xa + xb) + rol (xb ^^^ (xc + rol (xd ^^^ (xa + xb)) 16)) 12)) 8)) 7 = qb from hqb.symm, show (xc + rol (xd ^^^ (xa + xb)) 16) + rol (rol (xd ^^^ (xa + xb)) 16 ^^^ ((xa + xb) + rol (xb ^^^ (xc + rol (xd ^^^ (xa + xb)) 16)) 12)) 8 = qc from hqc.symm, show rol (rol (xd ^^^ (xa + xb)) 16 ^^^ ((xa + xb) + rol (xb ^^^ (xc + rol (xd ^^^ (xa + xb)) 16)) 12)) 8 = qd from hqd.symm, show (xa + xb) + rol (xb ^^^ (xc + rol (xd ^^^ (xa + xb)) 16)) 12 = qa from hqa.symm]
  have HQA := hide hqa
  have HQB := hide hqb
  have HQC := hide hqc
  have HQD := hide hqd
  clear hqa hqb hqc hqd hx ha ham
  refine wp_region_noPanic ?_
  refine wp_region_held_drew (S := fun V => True) (by kernel_rfl) trivial (fun _ => ?_)
  refine wpAnyH_take (i := 0) (oi := { dst := some 62, op := Op.move (Operand.tmp 0), type := _, pos := _, after := _, guard := _ }) (v := .pointer (some ⟨b, 0, none⟩)) rfl (by kernel_rfl) (by kernel_rfl) (by kernel_rfl) (fun _ _ _ h => h) (Or.inl ⟨by rfl, fun V (hV : True) => by go_simp⟩) trivial ?_
  (try simp only [Act.put, List.setIfInBounds_toArray, List.set_cons_zero, List.set_cons_succ])
  refine wpAnyH_take (i := 1) (oi := { dst := some 63, op := Op.move (Operand.tmp 1), type := _, pos := _, after := _, guard := _ }) (v := .int .i64 (i : Int)) rfl (by kernel_rfl) (by kernel_rfl) (by kernel_rfl) (fun _ _ _ h => h) (Or.inl ⟨by rfl, fun V (hV : True) => by go_simp⟩) trivial ?_
  (try simp only [Act.put, List.setIfInBounds_toArray, List.set_cons_zero, List.set_cons_succ])
  refine wpAnyH_take (i := 2) (oi := { dst := some 64, op := Op.move (Operand.tmp 0), type := _, pos := _, after := _, guard := _ }) (v := .pointer (some ⟨b, 0, none⟩)) rfl (by kernel_rfl) (by kernel_rfl) (by kernel_rfl) (fun _ _ _ h => h) (Or.inl ⟨by rfl, fun V (hV : True) => by go_simp⟩) trivial ?_
  (try simp only [Act.put, List.setIfInBounds_toArray, List.set_cons_zero, List.set_cons_succ])
  refine wpAnyH_take (i := 3) (oi := { dst := some 65, op := Op.move (Operand.tmp 2), type := _, pos := _, after := _, guard := _ }) (v := .int .i64 (j : Int)) rfl (by kernel_rfl) (by kernel_rfl) (by kernel_rfl) (fun _ _ _ h => h) (Or.inl ⟨by rfl, fun V (hV : True) => by go_simp⟩) trivial ?_
  (try simp only [Act.put, List.setIfInBounds_toArray, List.set_cons_zero, List.set_cons_succ])
  refine wpAnyH_take (i := 4) (oi := { dst := some 66, op := Op.move (Operand.tmp 0), type := _, pos := _, after := _, guard := _ }) (v := .pointer (some ⟨b, 0, none⟩)) rfl (by kernel_rfl) (by kernel_rfl) (by kernel_rfl) (fun _ _ _ h => h) (Or.inl ⟨by rfl, fun V (hV : True) => by go_simp⟩) trivial ?_
  (try simp only [Act.put, List.setIfInBounds_toArray, List.set_cons_zero, List.set_cons_succ])
  refine wpAnyH_take (i := 5) (oi := { dst := some 67, op := Op.move (Operand.tmp 3), type := _, pos := _, after := _, guard := _ }) (v := .int .i64 (k : Int)) rfl (by kernel_rfl) (by kernel_rfl) (by kernel_rfl) (fun _ _ _ h => h) (Or.inl ⟨by rfl, fun V (hV : True) => by go_simp⟩) trivial ?_
  (try simp only [Act.put, List.setIfInBounds_toArray, List.set_cons_zero, List.set_cons_succ])
  refine wpAnyH_take (i := 6) (oi := { dst := some 68, op := Op.move (Operand.tmp 0), type := _, pos := _, after := _, guard := _ }) (v := .pointer (some ⟨b, 0, none⟩)) rfl (by kernel_rfl) (by kernel_rfl) (by kernel_rfl) (fun _ _ _ h => h) (Or.inl ⟨by rfl, fun V (hV : True) => by go_simp⟩) trivial ?_
  (try simp only [Act.put, List.setIfInBounds_toArray, List.set_cons_zero, List.set_cons_succ])
  refine wpAnyH_take (i := 7) (oi := { dst := some 69, op := Op.move (Operand.tmp 4), type := _, pos := _, after := _, guard := _ }) (v := .int .i64 (l : Int)) rfl (by kernel_rfl) (by kernel_rfl) (by kernel_rfl) (fun _ _ _ h => h) (Or.inl ⟨by rfl, fun V (hV : True) => by go_simp⟩) trivial ?_
  (try simp only [Act.put, List.setIfInBounds_toArray, List.set_cons_zero, List.set_cons_succ])
  refine wpAnyH_take (i := 8) (oi := { dst := some 70, op := Op.move (Operand.tmp 10), type := _, pos := _, after := _, guard := _ }) (v := .int .u32 (wz qa)) rfl (by kernel_rfl) (by kernel_rfl) (by kernel_rfl) (fun _ _ _ h => h) (Or.inl ⟨by rfl, fun V (hV : True) => by go_simp⟩) trivial ?_
  (try simp only [Act.put, List.setIfInBounds_toArray, List.set_cons_zero, List.set_cons_succ])
  refine wpAnyH_take (i := 9) (oi := { dst := some 71, op := Op.move (Operand.tmp 11), type := _, pos := _, after := _, guard := _ }) (v := .int .u32 (wz qb)) rfl (by kernel_rfl) (by kernel_rfl) (by kernel_rfl) (fun _ _ _ h => h) (Or.inl ⟨by rfl, fun V (hV : True) => by go_simp⟩) trivial ?_
  (try simp only [Act.put, List.setIfInBounds_toArray, List.set_cons_zero, List.set_cons_succ])
  refine wpAnyH_take (i := 10) (oi := { dst := some 72, op := Op.move (Operand.tmp 12), type := _, pos := _, after := _, guard := _ }) (v := .int .u32 (wz qc)) rfl (by kernel_rfl) (by kernel_rfl) (by kernel_rfl) (fun _ _ _ h => h) (Or.inl ⟨by rfl, fun V (hV : True) => by go_simp⟩) trivial ?_
  (try simp only [Act.put, List.setIfInBounds_toArray, List.set_cons_zero, List.set_cons_succ])
  refine wpAnyH_take (i := 11) (oi := { dst := some 73, op := Op.move (Operand.tmp 13), type := _, pos := _, after := _, guard := _ }) (v := .int .u32 (wz qd)) rfl (by kernel_rfl) (by kernel_rfl) (by kernel_rfl) (fun _ _ _ h => h) (Or.inl ⟨by rfl, fun V (hV : True) => by go_simp⟩) trivial ?_
  (try simp only [Act.put, List.setIfInBounds_toArray, List.set_cons_zero, List.set_cons_succ])
  refine wpAnyH_take (i := 12) (oi := { dst := some 74, op := Op.nilCheck (Operand.tmp 62), type := _, pos := _, after := _, guard := _ }) (v := .pointer (some ⟨b, 0, none⟩)) rfl (by kernel_rfl) (by kernel_rfl) (by kernel_rfl) (fun _ _ _ h => h) (Or.inl ⟨by rfl, fun V (hV : True) => by go_simp⟩) trivial ?_
  (try simp only [Act.put, List.setIfInBounds_toArray, List.set_cons_zero, List.set_cons_succ])
  refine wpAnyH_take (i := 15) (oi := { dst := some 76, op := Op.nilCheck (Operand.tmp 64), type := _, pos := _, after := _, guard := _ }) (v := .pointer (some ⟨b, 0, none⟩)) rfl (by kernel_rfl) (by kernel_rfl) (by kernel_rfl) (fun _ _ _ h => h) (Or.inl ⟨by rfl, fun V (hV : True) => by go_simp⟩) trivial ?_
  (try simp only [Act.put, List.setIfInBounds_toArray, List.set_cons_zero, List.set_cons_succ])
  refine wpAnyH_take (i := 18) (oi := { dst := some 78, op := Op.nilCheck (Operand.tmp 66), type := _, pos := _, after := _, guard := _ }) (v := .pointer (some ⟨b, 0, none⟩)) rfl (by kernel_rfl) (by kernel_rfl) (by kernel_rfl) (fun _ _ _ h => h) (Or.inl ⟨by rfl, fun V (hV : True) => by go_simp⟩) trivial ?_
  (try simp only [Act.put, List.setIfInBounds_toArray, List.set_cons_zero, List.set_cons_succ])
  refine wpAnyH_take (i := 21) (oi := { dst := some 80, op := Op.nilCheck (Operand.tmp 68), type := _, pos := _, after := _, guard := _ }) (v := .pointer (some ⟨b, 0, none⟩)) rfl (by kernel_rfl) (by kernel_rfl) (by kernel_rfl) (fun _ _ _ h => h) (Or.inl ⟨by rfl, fun V (hV : True) => by go_simp⟩) trivial ?_
  (try simp only [Act.put, List.setIfInBounds_toArray, List.set_cons_zero, List.set_cons_succ])
  refine wpAnyH_take (i := 13) (oi := { dst := some 75, op := Op.indexAddr 126 (Operand.tmp 74) (Operand.tmp 63), type := _, pos := _, after := _, guard := _ }) (v := .pointer (some ⟨b, i, none⟩)) rfl (by kernel_rfl) (by kernel_rfl) (by kernel_rfl) (fun _ _ _ h => h) (Or.inl ⟨by rfl, fun V (hV : True) => by go_simp⟩) trivial ?_
  (try simp only [Act.put, List.setIfInBounds_toArray, List.set_cons_zero, List.set_cons_succ])
  refine wpAnyH_ready (rs := [14]) (by kernel_rfl) (by simp) ?_
  refine AllReadyH.cons (o := { dst := none, op := Op.store 92 (Operand.tmp 75) (Operand.tmp 70), type := _, pos := _, after := _, guard := _ }) rfl (fun K9 hK9 => ?_) AllReadyH.nil
  go_simp
  refine hK9.out _ _ trivial (fun _ => ?_)
  clear hK9 K9
  (try simp only [Act.put, List.setIfInBounds_toArray, List.set_cons_zero, List.set_cons_succ])
  refine wpAnyH_take (i := 16) (oi := { dst := some 77, op := Op.indexAddr 126 (Operand.tmp 76) (Operand.tmp 65), type := _, pos := _, after := _, guard := _ }) (v := .pointer (some ⟨b, j, none⟩)) rfl (by kernel_rfl) (by kernel_rfl) (by kernel_rfl) (fun _ _ _ h => h) (Or.inl ⟨by rfl, fun V (hV : True) => by go_simp⟩) trivial ?_
  (try simp only [Act.put, List.setIfInBounds_toArray, List.set_cons_zero, List.set_cons_succ])
  refine wpAnyH_ready (rs := [17]) (by kernel_rfl) (by simp) ?_
  refine AllReadyH.cons (o := { dst := none, op := Op.store 92 (Operand.tmp 77) (Operand.tmp 71), type := _, pos := _, after := _, guard := _ }) rfl (fun K9 hK9 => ?_) AllReadyH.nil
  go_simp
  refine hK9.out _ _ trivial (fun _ => ?_)
  clear hK9 K9
  (try simp only [Act.put, List.setIfInBounds_toArray, List.set_cons_zero, List.set_cons_succ])
  refine wpAnyH_take (i := 19) (oi := { dst := some 79, op := Op.indexAddr 126 (Operand.tmp 78) (Operand.tmp 67), type := _, pos := _, after := _, guard := _ }) (v := .pointer (some ⟨b, k, none⟩)) rfl (by kernel_rfl) (by kernel_rfl) (by kernel_rfl) (fun _ _ _ h => h) (Or.inl ⟨by rfl, fun V (hV : True) => by go_simp⟩) trivial ?_
  (try simp only [Act.put, List.setIfInBounds_toArray, List.set_cons_zero, List.set_cons_succ])
  refine wpAnyH_ready (rs := [20]) (by kernel_rfl) (by simp) ?_
  refine AllReadyH.cons (o := { dst := none, op := Op.store 92 (Operand.tmp 79) (Operand.tmp 72), type := _, pos := _, after := _, guard := _ }) rfl (fun K9 hK9 => ?_) AllReadyH.nil
  go_simp
  refine hK9.out _ _ trivial (fun _ => ?_)
  clear hK9 K9
  (try simp only [Act.put, List.setIfInBounds_toArray, List.set_cons_zero, List.set_cons_succ])
  refine wpAnyH_take (i := 22) (oi := { dst := some 81, op := Op.indexAddr 126 (Operand.tmp 80) (Operand.tmp 69), type := _, pos := _, after := _, guard := _ }) (v := .pointer (some ⟨b, l, none⟩)) rfl (by kernel_rfl) (by kernel_rfl) (by kernel_rfl) (fun _ _ _ h => h) (Or.inl ⟨by rfl, fun V (hV : True) => by go_simp⟩) trivial ?_
  (try simp only [Act.put, List.setIfInBounds_toArray, List.set_cons_zero, List.set_cons_succ])
  refine wpAnyH_ready (rs := [23]) (by kernel_rfl) (by simp) ?_
  refine AllReadyH.cons (o := { dst := none, op := Op.store 92 (Operand.tmp 81) (Operand.tmp 73), type := _, pos := _, after := _, guard := _ }) rfl (fun K9 hK9 => ?_) AllReadyH.nil
  go_simp
  refine hK9.out _ _ trivial (fun _ => ?_)
  clear hK9 K9
  (try simp only [Act.put, List.setIfInBounds_toArray, List.set_cons_zero, List.set_cons_succ])
  refine wpAnyH_done (by kernel_rfl) ?_ _
  refine NoPanic.normal ?_
  go_wp2
  go_end0
  have hB1 := ((((unhide HB0).setw i qa).setw j qb).setw k qc).setw l qd
  have e : quartL s i j k l = (((s.set i qa).set j qb).set k qc).set l qd := by
    unfold quartL put4
    rw [← unhide HA, ← unhide HBB, ← unhide HC, ← unhide HD, ← unhide HQA, ← unhide HQB, ← unhide HQC, ← unhide HQD]
  rw [e]
  exact ⟨rfl, hB1.drew, gb_drew (gb_setCell (gb_setCell (gb_setCell (gb_setCell (gb_none (some b) (unhide HG0)) _ _ (Or.inr rfl)) _ _ (Or.inr rfl)) _ _ (Or.inr rfl)) _ _ (Or.inr rfl))⟩

set_option maxRecDepth 100000 in
set_option maxHeartbeats 2000000 in
theorem turn_any (w : World) (b : Nat) (t : TypeId) (s : List W) (hs : s.length = 16) (hB : Blk w b t (s.map wv)) :
    Calls Tryd.prog 70 #[.pointer (some ⟨b, 0, none⟩)] w fun e w' => e = .returned (.tuple #[]) ∧ Blk w' b t ((turnL s).map wv) ∧ w.grownBy w' (some b) := by
  have tr : ∀ {x y z : World}, x.grownBy y (some b) → y.grownBy z (some b) → x.grownBy z (some b) := fun h k => gb_trans h k (fun _ e => Or.inr e)
  go_enter Tryd.func70, Tryd.ntmps70
  go_wp2_with fail
  refine (quarter_any w b t _ hs hB 0 4 8 12 (by omega) (by omega) (by omega) (by omega) (by omega) (by omega) (by omega) (by omega) (by omega) (by omega)).mono ?_
  rintro e w1 ⟨rfl, B1, g1⟩
  go_wp2_with fail
  refine (quarter_any w1 b t _ (by simp only [quartL_length]; exact hs) B1 1 5 9 13 (by omega) (by omega) (by omega) (by omega) (by omega) (by omega) (by omega) (by omega) (by omega) (by omega)).mono ?_
  rintro e w2 ⟨rfl, B2, g2⟩
  go_wp2_with fail
  refine (quarter_any w2 b t _ (by simp only [quartL_length]; exact hs) B2 2 6 10 14 (by omega) (by omega) (by omega) (by omega) (by omega) (by omega) (by omega) (by omega) (by omega) (by omega)).mono ?_
  rintro e w3 ⟨rfl, B3, g3⟩
  go_wp2_with fail
  refine (quarter_any w3 b t _ (by simp only [quartL_length]; exact hs) B3 3 7 11 15 (by omega) (by omega) (by omega) (by omega) (by omega) (by omega) (by omega) (by omega) (by omega) (by omega)).mono ?_
  rintro e w4 ⟨rfl, B4, g4⟩
  go_wp2_with fail
  refine (quarter_any w4 b t _ (by simp only [quartL_length]; exact hs) B4 0 5 10 15 (by omega) (by omega) (by omega) (by omega) (by omega) (by omega) (by omega) (by omega) (by omega) (by omega)).mono ?_
  rintro e w5 ⟨rfl, B5, g5⟩
  go_wp2_with fail
  refine (quarter_any w5 b t _ (by simp only [quartL_length]; exact hs) B5 1 6 11 12 (by omega) (by omega) (by omega) (by omega) (by omega) (by omega) (by omega) (by omega) (by omega) (by omega)).mono ?_
  rintro e w6 ⟨rfl, B6, g6⟩
  go_wp2_with fail
  refine (quarter_any w6 b t _ (by simp only [quartL_length]; exact hs) B6 2 7 8 13 (by omega) (by omega) (by omega) (by omega) (by omega) (by omega) (by omega) (by omega) (by omega) (by omega)).mono ?_
  rintro e w7 ⟨rfl, B7, g7⟩
  go_wp2_with fail
  refine (quarter_any w7 b t _ (by simp only [quartL_length]; exact hs) B7 3 4 9 14 (by omega) (by omega) (by omega) (by omega) (by omega) (by omega) (by omega) (by omega) (by omega) (by omega)).mono ?_
  rintro e w8 ⟨rfl, B8, g8⟩
  go_wp2
  go_end0
  exact ⟨rfl, B8, tr (tr (tr (tr (tr (tr (tr g1 g2) g3) g4) g5) g6) g7) g8⟩

end Go.Proofs.YtjckdgapefaokaaDoor

/- What chacha's wordOf, layWord and laidOut answer and leave. laidOut's: where the table holds what the program's text lays in it. No other condition but those that each lemma names. -/
namespace Go.Proofs.YtjckdgapefaokaaDoor
open Go.RowKit

/-- The table holds what it is laid with. -/
structure CTab (w : World) : Prop where
  fw : ∃ t fr, w.heap[2]? = some (.cells (Fw.map wv).toArray t fr)

theorem CTab.kept0 {w a : World} (h : CTab w) (g : w.grownBy a none) : CTab a := by
  obtain ⟨t, f, h1⟩ := h.fw
  refine ⟨⟨t, f, ?_⟩⟩
  rw [g.block _ (Array.getElem?_eq_some_iff.1 h1).1 (by simp)]; exact h1

set_option maxRecDepth 100000 in
theorem le_word4 (n0 n1 n2 n3 : Nat) (h0 : n0 < 256) (h1 : n1 < 256) (h2 : n2 < 256) (h3 : n3 < 256) :
    bits .or .u32 (bits .or .u32 (bits .or .u32 (n0 : Int) ((n1 : Int) * 256)) ((n2 : Int) * 65536)) ((n3 : Int) * 16777216) =
      ((n0 + n1 * 256 + n2 * 65536 + n3 * 16777216 : Nat) : Int) := by
  have e1 : (n1 : Int) * 256 = ((n1 * 256 : Nat) : Int) := by omega
  have e2 : (n2 : Int) * 65536 = ((n2 * 65536 : Nat) : Int) := by omega
  have e3 : (n3 : Int) * 16777216 = ((n3 * 16777216 : Nat) : Int) := by omega
  have p24 : (2 : Nat) ^ 24 = 16777216 := rfl
  have p16 : (2 : Nat) ^ 16 = 65536 := rfl
  have p8 : (2 : Nat) ^ 8 = 256 := rfl
  have j1 : n0 ||| n1 * 256 = n0 + n1 * 256 := by
    have := Nat.shiftLeft_add_eq_or_of_lt (b := n0) (i := 8) (by rw [p8]; omega) n1
    rw [Nat.shiftLeft_eq, p8] at this; rw [Nat.or_comm, ← this]; omega
  have j2 : (n0 + n1 * 256) ||| n2 * 65536 = n0 + n1 * 256 + n2 * 65536 := by
    have := Nat.shiftLeft_add_eq_or_of_lt (b := n0 + n1 * 256) (i := 16) (by rw [p16]; omega) n2
    rw [Nat.shiftLeft_eq, p16] at this; rw [Nat.or_comm, ← this]; omega
  have j3 : (n0 + n1 * 256 + n2 * 65536) ||| n3 * 16777216 = n0 + n1 * 256 + n2 * 65536 + n3 * 16777216 := by
    have := Nat.shiftLeft_add_eq_or_of_lt (b := n0 + n1 * 256 + n2 * 65536) (i := 24) (by rw [p24]; omega) n3
    rw [Nat.shiftLeft_eq, p24] at this; rw [Nat.or_comm, ← this]; omega
  rw [e1, e2, e3, u32_or_nat _ _ (by omega) (by omega), j1, u32_or_nat _ _ (by omega) (by omega), j2, u32_or_nat _ _ (by omega) (by omega), j3]

theorem wz_leOf (a b c d : UInt8) : wz (leOf a b c d) = ((a.toNat + b.toNat * 256 + c.toNat * 65536 + d.toNat * 16777216 : Nat) : Int) := by
  have := a.toNat_lt
  have := b.toNat_lt
  have := c.toNat_lt
  have := d.toNat_lt
  unfold wz leOf
  rw [BitVec.toNat_ofNat, Nat.mod_eq_of_lt (by omega)]

set_option maxRecDepth 100000 in
set_option maxHeartbeats 1000000 in
theorem wordOf_any (w : World) (b p n c : Nat) (hn : 4 ≤ n) (x0 x1 x2 x3 : UInt8) (c0 : w.cell? ⟨b, p, none⟩ = some (bv x0)) (c1 : w.cell? ⟨b, p + 1, none⟩ = some (bv x1)) (c2 : w.cell? ⟨b, p + 2, none⟩ = some (bv x2)) (c3 : w.cell? ⟨b, p + 3, none⟩ = some (bv x3)) :
    Calls Tryd.prog 95 #[.slice (some ⟨b, p, none⟩) n c] w fun e w' => e = .returned (.int .u32 (wz (leOf x0 x1 x2 x3))) ∧ w.grownBy w' none := by
  obtain ⟨n0, hn0⟩ : ∃ n, n = x0.toNat := ⟨_, rfl⟩
  obtain ⟨n1, hn1⟩ : ∃ n, n = x1.toNat := ⟨_, rfl⟩
  obtain ⟨n2, hn2⟩ : ∃ n, n = x2.toNat := ⟨_, rfl⟩
  obtain ⟨n3, hn3⟩ : ∃ n, n = x3.toNat := ⟨_, rfl⟩
  have l0 : n0 < 256 := by rw [hn0]; exact x0.toNat_lt
  have l1 : n1 < 256 := by rw [hn1]; exact x1.toNat_lt
  have l2 : n2 < 256 := by rw [hn2]; exact x2.toNat_lt
  have l3 : n3 < 256 := by rw [hn3]; exact x3.toNat_lt
  unfold bv at c0 c1 c2 c3
  rw [← hn0] at c0
  rw [← hn1] at c1
  rw [← hn2] at c2
  rw [← hn3] at c3
  have hx : ((n0 + n1 * 256 + n2 * 65536 + n3 * 16777216 : Nat) : Int) = wz (leOf x0 x1 x2 x3) := by rw [wz_leOf, hn0, hn1, hn2, hn3]
  obtain ⟨z, hz⟩ : ∃ z, z = leOf x0 x1 x2 x3 := ⟨_, rfl⟩
  rw [← hz] at hx ⊢
  have HX := hide hx
  clear hx hz hn0 hn1 hn2 hn3
  have q0 : (0 : Int) < (n : Int) := by omega
  have q1 : (1 : Int) < (n : Int) := by omega
  have q2 : (2 : Int) < (n : Int) := by omega
  have q3 : (3 : Int) < (n : Int) := by omega
  go_enter Tryd.func95, Tryd.ntmps95
  go_wp2
  go_quiet (fail)
  go_wp2
  go_ret
  rw [le_word4 n0 n1 n2 n3 l0 l1 l2 l3, unhide HX]
  exact ⟨rfl, gb_drewN (gb_refl _ _) _⟩

theorem le4_at (x : W) (k : Nat) (h : k < (le4 x).length) : Value.int .u8 (wz x / 2 ^ (8 * k) % 256) = bv (le4 x)[k] := by
  unfold bv wz
  rw [le4_get, UInt8.toNat_ofNat']
  congr 1

set_option maxRecDepth 100000 in
set_option maxHeartbeats 400000 in
theorem layWord_any (w : World) (b p c : Nat) (x : W) (ht : w.there b p 4) :
    Calls Tryd.prog 71 #[.slice (some ⟨b, p, none⟩) 4 c, .int .u32 (wz x)] w fun e w' => e = .returned (.tuple #[]) ∧ w' = w.setCells b p ((le4 x).map bv) := by
  go_enter Tryd.func71, Tryd.ntmps71
  go_wp2
  go_loopw [7] (fun i wr => ∃ k : Nat, k ≤ 4 ∧ i = .int .i64 k ∧ wr = w.setCells b p (((le4 x).take k).map bv)) (fun i _ => 4 - (intOf i).toNat)
  case atStart => exact ⟨0, Nat.zero_le _, rfl, rfl⟩
  case round =>
    obtain ⟨k, hk, rfl, rfl⟩ := hrel
    by_cases hlt : k < 4
    · have hlen : (le4 x).length = 4 := le4_length x
      have hbk : k < (le4 x).length := by omega
      obtain ⟨wq, hwq⟩ : ∃ wq, wq = w.setCells b p (((le4 x).take k).map bv) := ⟨_, rfl⟩
      rw [← hwq]
      have hth := World.there_setCells ht b p (((le4 x).take k).map bv) k hlt
      rw [← hwq] at hth
      obtain ⟨hcs, hcf⟩ := hth
      obtain ⟨ov, hcs⟩ := Option.isSome_iff_exists.1 hcs
      have HW := hide hwq
      have HL := hide hlen
      have hq1 : (k : Int) < 4 := by omega
      clear hwq hlen
      go_wp2
      go_roundw
      case rel =>
        refine ⟨k + 1, by omega, by go_num, ?_⟩
        rw [le4_at x k hbk, unhide HW]
        have hl2 : (((le4 x).take k).map bv).length = k := by simp [unhide HL]; omega
        have := setCells_snoc b (bv (le4 x)[k]) (((le4 x).take k).map bv) p w
        rw [hl2] at this
        rw [this, take_snoc hbk, List.map_append]
        rfl
      case measure => simp [intOf]; omega
    · obtain rfl : k = 4 := by omega
      go_wp2
      go_end0
      rw [List.take_of_length_le (by simp [le4_length])]
      exact ⟨rfl, rfl⟩

/-- What is behind a place of an array in memory. -/
theorem Blk.byte {w : World} {b : Nat} {t : TypeId} {l : List UInt8} (h : Blk w b t (l.map bv)) (i : Nat) (hi : i < l.length) : w.cell? ⟨b, i, none⟩ = some (bv (l.getD i 0)) := by
  rw [h.cell, List.getElem?_map, List.getElem?_eq_getElem hi, show l.getD i 0 = l[i] by simp [List.getD, hi]]
  rfl

theorem zero16w (w : World) : (zeroValue 126).run Tryd.prog w = .ok (.agg ((List.replicate 16 (0 : W)).map wv).toArray) w := by kernel_rfl

theorem firstL_lo (k n : List UInt8) (c : W) (i : Nat) (hi : i < 4) : (firstL k n c).getD i 0 = Fw.getD i 0 := by
  rw [firstL, List.getD, List.getElem?_append_left (by exact hi)]; rfl
theorem firstL_key (k n : List UInt8) (c : W) (i : Nat) (hi : i < 8) : (firstL k n c).getD (4 + i) 0 = leAt k i := by
  rw [firstL, List.getD, List.getElem?_append_right (by simp [Fw]), show 4 + i - Fw.length = i by simp [Fw], List.getElem?_append_left (by simpa using hi)]
  simp [hi]
theorem firstL_count (k n : List UInt8) (c : W) : (firstL k n c).getD 12 0 = c := by
  rfl
theorem firstL_nonce (k n : List UInt8) (c : W) (i : Nat) (hi : i < 3) : (firstL k n c).getD (13 + i) 0 = leAt n i := by
  rw [firstL, List.getD, List.getElem?_append_right (by simp [Fw]; omega), show 13 + i - Fw.length = 9 + i by simp [Fw]; omega, List.getElem?_append_right (by simp; omega), show 9 + i - ((List.range 8).map (leAt k)).length = 1 + i by simp; omega, List.getElem?_append_right (by simp), show 1 + i - [c].length = i by simp]
  simp [hi]

theorem first_step (k n : List UInt8) (c : W) (i : Nat) (hi : i < 16) (x : W) (hx : (firstL k n c).getD i 0 = x) : ((((firstL k n c).take i ++ List.replicate (16 - i) 0).map wv).set i (wv x)) = ((firstL k n c).take (i + 1) ++ List.replicate (16 - (i + 1)) 0).map wv := by
  have hl : i < (firstL k n c).length := by rw [firstL_length]; exact hi
  exact fill_step (firstL k n c) 16 i x hl (by rw [← hx]; simp [List.getD, hl]) hi

end Go.Proofs.YtjckdgapefaokaaDoor

/- What chacha's laidOut answers: the words that a block begins with. Where the table holds what the program's text lays in it, of a key of 32 bytes and a nonce of 12. -/
namespace Go.Proofs.YtjckdgapefaokaaDoor
open Go.RowKit

set_option maxRecDepth 100000 in
set_option maxHeartbeats 2000000 in
theorem laidOut_any (w : World) (k n : List UInt8) (c : W) (hk : k.length = 32) (hn : n.length = 12) (hT : CTab w) :
    Calls Tryd.prog 69 #[.agg (k.map bv).toArray, .agg (n.map bv).toArray, .int .u32 (wz c)] w fun e w' => e = .returned (.agg ((firstL k n c).map wv).toArray) ∧ w.grownBy w' none := by
  have hi16 : (Tryd.prog.info? 126).map (·.size) = some 16 := by kernel_rfl
  obtain ⟨KA, hKA⟩ : ∃ A : Array Value, A = (k.map bv).toArray := ⟨_, rfl⟩
  obtain ⟨NA, hNA⟩ : ∃ A : Array Value, A = (n.map bv).toArray := ⟨_, rfl⟩
  obtain ⟨Z, hZ⟩ : ∃ A : Array Value, A = ((List.replicate 16 (0 : W)).map wv).toArray := ⟨_, rfl⟩
  have hz := zero16w
  rw [← hZ] at hz
  rw [← hKA, ← hNA]
  obtain ⟨F, hF⟩ : ∃ F, F = firstL k n c := ⟨_, rfl⟩
  have hFl : F.length = 16 := by rw [hF]; exact firstL_length _ _ _
  obtain ⟨W1, hW1⟩ : ∃ W1, W1 = (((w.alloc (.cells KA 37)).alloc (.cells NA 64)).alloc (.cells Z 126)).alloc (.cells Z 126) := ⟨_, rfl⟩
  have hg1 : w.grownBy W1 none := by rw [hW1]; exact gb_alloc (gb_alloc (gb_alloc (gb_alloc (gb_refl _ _) _) _) _) _
  have hK1 : Blk W1 w.heap.size 37 (k.map bv) := by
    rw [hW1, hKA]; exact (((Blk.new w 37 (k.map bv)).alloc _).alloc _).alloc _
  have hN1 : Blk W1 (w.heap.size + 1) 64 (n.map bv) := by
    have := Blk.new (w.alloc (.cells KA 37)) 64 (n.map bv)
    rw [World.size_alloc] at this
    rw [hW1, hNA]; exact (this.alloc _).alloc _
  have hR1 : Blk W1 (w.heap.size + 2) 126 ((List.replicate 16 (0 : W)).map wv) := by
    have := Blk.new ((w.alloc (.cells KA 37)).alloc (.cells NA 64)) 126 ((List.replicate 16 (0 : W)).map wv)
    rw [World.size_alloc, World.size_alloc] at this
    rw [hW1, hZ]; exact this.alloc _
  have hB1 : Blk W1 (w.heap.size + 3) 126 ((F.take 0 ++ List.replicate (16 - 0) 0).map wv) := by
    have := Blk.new (((w.alloc (.cells KA 37)).alloc (.cells NA 64)).alloc (.cells Z 126)) 126 ((List.replicate 16 (0 : W)).map wv)
    rw [World.size_alloc, World.size_alloc, World.size_alloc] at this
    rw [List.take_zero, List.nil_append, hW1]
    conv => arg 1; arg 2; rw [hZ]
    exact this
  obtain ⟨tq, fq, hq⟩ := (hT.kept0 hg1).fw
  have HKA := hide hKA
  have HNA := hide hNA
  have HZ := hide hZ
  have HF := hide hF
  have HFL := hide hFl
  have HW1 := hide hW1
  have HK := hide hk
  have HN := hide hn
  have HQ := hide hq
  have HT := hide hT
  have HK1 := hide hK1
  have HN1 := hide hN1
  have HR1 := hide hR1
  have HB1 := hide hB1
  clear hKA hNA hZ hF hFl hW1 hk hn hq hT hK1 hN1 hR1 hB1
  go_enter Tryd.func69, Tryd.ntmps69
  go_wp2_with (rw [← unhide HW1]; refine wpList_load_row rfl 158 _ rfl 2 rfl _ _ _ _ (unhide HQ) Tryd.underlying158 rfl (by kernel_rfl) ?_)
  go_loopw [13] (fun i wr => ∃ r : Nat, r ≤ 4 ∧ i = .int .i64 r ∧ Blk wr (w.heap.size + 3) 126 ((F.take (r) ++ List.replicate (16 - (r)) 0).map wv) ∧ Blk wr (w.heap.size + 2) 126 ((List.replicate 16 (0 : W)).map wv) ∧ Blk wr w.heap.size 37 (k.map bv) ∧ Blk wr (w.heap.size + 1) 64 (n.map bv) ∧ w.grownBy wr none) (fun i _ => 4 - (intOf i).toNat)
  case atStart => exact ⟨0, Nat.zero_le _, rfl, unhide HB1, unhide HR1, unhide HK1, unhide HN1, hg1⟩
  case round =>
    clear HB1 HR1 HK1 HN1
    obtain ⟨r, hr, rfl, hB, hR, hKb, hNb, hg⟩ := hrel
    by_cases hlt : r < 4
    · obtain ⟨x, hx⟩ : ∃ x, x = Fw.getD r 0 := ⟨_, rfl⟩
      have hidx := index_row 158 92 4 (Fw.map wv) r (.int .u32 (wz x)) Tryd.underlying158 size_word agg_word hlt (by
        have hl2 : r < Fw.length := hlt
        rw [List.getElem?_map, List.getElem?_eq_getElem hl2, hx, show Fw.getD r 0 = Fw[r] by simp [List.getD, hl2]]; rfl)
      have hcs : (wr.cell? ⟨w.heap.size + 3, r, none⟩).isSome = true ∧ wr.frozen? ⟨w.heap.size + 3, r, none⟩ = false := by
        have := hB.there (r) 1 (by simp [unhide HFL]; omega) 0 (by omega)
        simpa using this
      obtain ⟨hcs, hcf⟩ := hcs
      obtain ⟨ov, hcs⟩ := Option.isSome_iff_exists.1 hcs
      have hq0 : (0 : Int) ≤ (r : Int) := by omega
      have hq1 : (r : Int) < 4 := by omega
      have hq2 : (r : Int) < 16 := by omega
      have HX := hide hx
      have HB := hide hB
      have HR := hide hR
      have HKb := hide hKb
      have HNb := hide hNb
      clear hx hB hR hKb hNb
      go_wp2
      go_roundw
      case rel =>
        have hS := (unhide HB).set (r) (wv x)
        rw [unhide HF, first_step k n c (r) (by omega) x (by rw [firstL_lo k n c r hlt, unhide HX]), ← unhide HF] at hS
        exact ⟨r + 1, by omega, by go_num, hS, (unhide HR).other _ _ (by simp <;> omega), (unhide HKb).other _ _ (by simp <;> omega), (unhide HNb).other _ _ (by simp <;> omega), gb_setCell hg _ _ (Or.inl (by simp <;> omega))⟩
      case measure => simp [intOf]; omega
    · obtain rfl : r = 4 := by omega
      rw [show ((4 : Nat) : Int) = 4 from rfl]
      have HB := hide hB
      have HR := hide hR
      have HKb := hide hKb
      have HNb := hide hNb
      clear hB hR hKb hNb
      go_wp2
      go_loopw [21] (fun i wr => ∃ r : Nat, r ≤ 8 ∧ i = .int .i64 r ∧ Blk wr (w.heap.size + 3) 126 ((F.take (4 + r) ++ List.replicate (16 - (4 + r)) 0).map wv) ∧ Blk wr (w.heap.size + 2) 126 ((List.replicate 16 (0 : W)).map wv) ∧ Blk wr w.heap.size 37 (k.map bv) ∧ Blk wr (w.heap.size + 1) 64 (n.map bv) ∧ w.grownBy wr none) (fun i _ => 8 - (intOf i).toNat)
      case atStart => exact ⟨0, Nat.zero_le _, rfl, unhide HB, unhide HR, unhide HKb, unhide HNb, hg⟩
      case round =>
        clear HB HR HKb HNb hg
        obtain ⟨r, hr, rfl, hB, hR, hKb, hNb, hg⟩ := hrel
        by_cases hlt : r < 8
        · have hsl := slice_arr_from 37 5 32 Tryd.underlying37 size_byte w.heap.size 0 (4 * r) ((r : Int) * 4) (by omega) (by omega)
          rw [Nat.zero_add] at hsl
          have hwo := wordOf_any wr w.heap.size (4 * r) (32 - 4 * r) (32 - 4 * r) (by omega) _ _ _ _ (hKb.byte (4 * r) (by rw [unhide HK]; omega)) (hKb.byte (4 * r + 1) (by rw [unhide HK]; omega)) (hKb.byte (4 * r + 2) (by rw [unhide HK]; omega)) (hKb.byte (4 * r + 3) (by rw [unhide HK]; omega))
          rw [show leOf (k.getD (4 * r) 0) (k.getD (4 * r + 1) 0) (k.getD (4 * r + 2) 0) (k.getD (4 * r + 3) 0) = leAt k r from rfl] at hwo
          obtain ⟨x, hx⟩ : ∃ x, x = leAt k r := ⟨_, rfl⟩
          rw [← hx] at hwo
          obtain ⟨q, hq⟩ : ∃ q : Nat, q = 4 + r := ⟨_, rfl⟩
          obtain ⟨sp, hsp⟩ : ∃ sp : Nat, sp = 4 * r := ⟨_, rfl⟩
          obtain ⟨sn, hsn⟩ : ∃ sn : Nat, sn = 32 - 4 * r := ⟨_, rfl⟩
          rw [← hsp, show 32 - sp = sn by omega] at hsl hwo
          rw [← hq] at hB
          have hq0 : (0 : Int) ≤ (r : Int) := by omega
          have hq1 : (r : Int) < 8 := by omega
          have hw4 : IntKind.i64.wrap (4 + (r : Int)) = (q : Int) := by rw [IntKind.wrap_i64]; omega
          have b0 : (0 : Int) ≤ (q : Int) := by omega
          have b1 : (q : Int) < 16 := by omega
          have HX := hide hx
          have HQQ := hide hq
          have HB := hide hB
          have HR := hide hR
          have HKb := hide hKb
          have HNb := hide hNb
          clear hx hB hR hKb hNb hq hsp hsn
          go_wp2_with fail
          refine hwo.mono ?_
          rintro e w2 ⟨rfl, g2⟩
          have hB := (unhide HB).kept g2 (by simp)
          have hg2 := gb_trans hg g2 (fun _ e => by cases e)
          have hsz := g2.size
          have hqq := unhide HQQ
          have hcs : (w2.cell? ⟨w.heap.size + 3, q, none⟩).isSome = true ∧ w2.frozen? ⟨w.heap.size + 3, q, none⟩ = false := by
            have := hB.there (q) 1 (by simp [unhide HFL]; omega) 0 (by omega)
            simpa using this
          obtain ⟨hcs, hcf⟩ := hcs
          obtain ⟨ov, hcs⟩ := Option.isSome_iff_exists.1 hcs
          have HB2 := hide hB
          have HZ2 := hide hsz
          have HQ3 := hide hqq
          clear hB hsz hqq
          go_wp2
          go_roundw
          case rel =>
            have hS := (unhide HB2).set q (wv x)
            rw [unhide HF, first_step k n c q (by have := unhide HQ3; omega) x (by rw [unhide HQ3, firstL_key k n c r hlt, unhide HX]), ← unhide HF] at hS
            rw [unhide HQ3, show 4 + r + 1 = 4 + (r + 1) by omega] at hS
            rw [unhide HQ3]
            refine ⟨r + 1, by omega, by go_num, hS, ((unhide HR).kept g2 (by simp)).other _ _ (by simp <;> omega), ((unhide HKb).kept g2 (by simp)).other _ _ (by simp <;> omega), ((unhide HNb).kept g2 (by simp)).other _ _ (by simp <;> omega), gb_setCell hg2 _ _ (Or.inl (by simp <;> omega))⟩
          case measure => simp [intOf]; omega
        · obtain rfl : r = 8 := by omega
          rw [show ((8 : Nat) : Int) = 8 from rfl]
          rw [show 4 + 8 = 12 from rfl] at hB
          have hcs : (wr.cell? ⟨w.heap.size + 3, 12, none⟩).isSome = true ∧ wr.frozen? ⟨w.heap.size + 3, 12, none⟩ = false := by
            have := hB.there 12 1 (by simp [unhide HFL]) 0 (by omega)
            simpa using this
          obtain ⟨hcs, hcf⟩ := hcs
          obtain ⟨ov, hcs⟩ := Option.isSome_iff_exists.1 hcs
          have hS := hB.set 12 (wv c)
          rw [unhide HF, first_step k n c 12 (by omega) c (firstL_count k n c), ← unhide HF] at hS
          have hR2 := hR.other ⟨w.heap.size + 3, 12, none⟩ (wv c) (by simp)
          have hK2 := hKb.other ⟨w.heap.size + 3, 12, none⟩ (wv c) (by simp)
          have hN2 := hNb.other ⟨w.heap.size + 3, 12, none⟩ (wv c) (by simp)
          have hg2 : w.grownBy (wr.setCell ⟨w.heap.size + 3, 12, none⟩ (wv c)) none := gb_setCell hg _ _ (Or.inl (by simp <;> omega))
          have HB := hide hS
          have HR := hide hR2
          have HKb := hide hK2
          have HNb := hide hN2
          clear hB hR hKb hNb hS hR2 hK2 hN2
          go_wp2
          go_loopw [34] (fun i wr => ∃ r : Nat, r ≤ 3 ∧ i = .int .i64 r ∧ Blk wr (w.heap.size + 3) 126 ((F.take (13 + r) ++ List.replicate (16 - (13 + r)) 0).map wv) ∧ Blk wr (w.heap.size + 2) 126 ((List.replicate 16 (0 : W)).map wv) ∧ Blk wr w.heap.size 37 (k.map bv) ∧ Blk wr (w.heap.size + 1) 64 (n.map bv) ∧ w.grownBy wr none) (fun i _ => 3 - (intOf i).toNat)
          case atStart => exact ⟨0, Nat.zero_le _, rfl, unhide HB, unhide HR, unhide HKb, unhide HNb, hg2⟩
          case round =>
            clear HB HR HKb HNb hg hg2 hcs hcf
            obtain ⟨r, hr, rfl, hB, hR, hKb, hNb, hg⟩ := hrel
            by_cases hlt : r < 3
            · have hsl := slice_arr_from 64 5 12 Tryd.underlying64 size_byte (w.heap.size + 1) 0 (4 * r) ((r : Int) * 4) (by omega) (by omega)
              rw [Nat.zero_add] at hsl
              have hwo := wordOf_any wr (w.heap.size + 1) (4 * r) (12 - 4 * r) (12 - 4 * r) (by omega) _ _ _ _ (hNb.byte (4 * r) (by rw [unhide HN]; omega)) (hNb.byte (4 * r + 1) (by rw [unhide HN]; omega)) (hNb.byte (4 * r + 2) (by rw [unhide HN]; omega)) (hNb.byte (4 * r + 3) (by rw [unhide HN]; omega))
              rw [show leOf (n.getD (4 * r) 0) (n.getD (4 * r + 1) 0) (n.getD (4 * r + 2) 0) (n.getD (4 * r + 3) 0) = leAt n r from rfl] at hwo
              obtain ⟨x, hx⟩ : ∃ x, x = leAt n r := ⟨_, rfl⟩
              rw [← hx] at hwo
              obtain ⟨q, hq⟩ : ∃ q : Nat, q = 13 + r := ⟨_, rfl⟩
              obtain ⟨sp, hsp⟩ : ∃ sp : Nat, sp = 4 * r := ⟨_, rfl⟩
              obtain ⟨sn, hsn⟩ : ∃ sn : Nat, sn = 12 - 4 * r := ⟨_, rfl⟩
              rw [← hsp, show 12 - sp = sn by omega] at hsl hwo
              rw [← hq] at hB
              have hq0 : (0 : Int) ≤ (r : Int) := by omega
              have hq1 : (r : Int) < 3 := by omega
              have hw4 : IntKind.i64.wrap (13 + (r : Int)) = (q : Int) := by rw [IntKind.wrap_i64]; omega
              have b0 : (0 : Int) ≤ (q : Int) := by omega
              have b1 : (q : Int) < 16 := by omega
              have HX := hide hx
              have HQQ := hide hq
              have HB := hide hB
              have HR := hide hR
              have HKb := hide hKb
              have HNb := hide hNb
              clear hx hB hR hKb hNb hq hsp hsn
              go_wp2_with fail
              refine hwo.mono ?_
              rintro e w2 ⟨rfl, g2⟩
              have hB := (unhide HB).kept g2 (by simp)
              have hg2 := gb_trans hg g2 (fun _ e => by cases e)
              have hsz := g2.size
              have hqq := unhide HQQ
              have hcs : (w2.cell? ⟨w.heap.size + 3, q, none⟩).isSome = true ∧ w2.frozen? ⟨w.heap.size + 3, q, none⟩ = false := by
                have := hB.there (q) 1 (by simp [unhide HFL]; omega) 0 (by omega)
                simpa using this
              obtain ⟨hcs, hcf⟩ := hcs
              obtain ⟨ov, hcs⟩ := Option.isSome_iff_exists.1 hcs
              have HB2 := hide hB
              have HQ3 := hide hqq
              clear hB hsz hqq
              go_wp2
              go_roundw
              case rel =>
                have hS := (unhide HB2).set q (wv x)
                rw [unhide HF, first_step k n c q (by have := unhide HQ3; omega) x (by rw [unhide HQ3, firstL_nonce k n c r hlt, unhide HX]), ← unhide HF] at hS
                rw [unhide HQ3, show 13 + r + 1 = 13 + (r + 1) by omega] at hS
                rw [unhide HQ3]
                refine ⟨r + 1, by omega, by go_num, hS, ((unhide HR).kept g2 (by simp)).other _ _ (by simp <;> omega), ((unhide HKb).kept g2 (by simp)).other _ _ (by simp <;> omega), ((unhide HNb).kept g2 (by simp)).other _ _ (by simp <;> omega), gb_setCell hg2 _ _ (Or.inl (by simp <;> omega))⟩
              case measure => simp [intOf]; omega
            · obtain rfl : r = 3 := by omega
              rw [show ((3 : Nat) : Int) = 3 from rfl]
              rw [show 13 + 3 = 16 from rfl, show 16 - 16 = 0 from rfl, List.replicate_zero, List.append_nil, List.take_of_length_le (by rw [unhide HFL]; exact Nat.le_refl _)] at hB
              have hsz : ((F.map wv).toArray).size = 16 := by simp [unhide HFL]
              have HSZ := hide hsz
              clear hsz
              go_wp2_with (first | (refine wpList_load_row rfl 126 _ rfl (w.heap.size + 3) rfl _ _ _ _ hB Tryd.underlying126 rfl ?_ ?_; (rw [unhide HSZ]; exact hi16)) | (refine wpList_store_row rfl 126 _ _ rfl (w.heap.size + 2) _ rfl rfl _ _ hR ?_ ?_ ?_ ?_; (rw [unhide HSZ]; exact hi16); (rw [unhide HSZ]; rfl); (exact all_oneCell_toArray (wv_one _))))
              have hS := hR.row (F.map wv)
              have hG : w.grownBy (wr.setRow (w.heap.size + 2) (F.map wv).toArray) none := gb_row hg _ (Or.inl (by omega))
              refine bodyPost_ret (v := .agg (F.map wv).toArray) (results_cell_row (g := w.heap.size + 2) rfl _ _ _ _ _ _ ?_ hS Tryd.underlying126 rfl ?_) rfl ⟨?_, hG⟩
              · rfl
              · rw [unhide HSZ]; exact hi16
              · rw [unhide HF]

end Go.Proofs.YtjckdgapefaokaaDoor

/- What chacha's Block answers: THE BLOCK. Where the table holds what the program's text lays in it, of a key of 32 bytes and a nonce of 12. -/
namespace Go.Proofs.YtjckdgapefaokaaDoor
open Go.RowKit
attribute [local go_sem ↓] Go.wp_at_zero Go.wp_at_succ

theorem leBytes_snoc (bw : List W) (r : Nat) (hr : r < bw.length) : leBytes (bw.take (r + 1)) = leBytes (bw.take r) ++ le4 (bw.getD r 0) := by
  rw [List.take_succ_eq_append_getElem hr, leBytes_append]
  simp [leBytes, List.getD, hr]

theorem Blk.laid4 {w : World} {b : Nat} {t : TypeId} {bw : List W} {r : Nat} (hl : bw.length = 16) (hr : r < 16) (h : Blk w b t ((leBytes (bw.take r) ++ List.replicate (64 - 4 * r) 0).map bv)) : Blk (w.setCells b (4 * r) ((le4 (bw.getD r 0)).map bv)) b t ((leBytes (bw.take (r + 1)) ++ List.replicate (64 - 4 * (r + 1)) 0).map bv) := by
  have e : (leBytes (bw.take r) ++ List.replicate (64 - 4 * r) (0 : UInt8)).map bv = (leBytes (bw.take r)).map bv ++ ((List.replicate 4 (0 : UInt8)).map bv ++ (List.replicate (64 - 4 * (r + 1)) (0 : UInt8)).map bv) := by
    rw [← List.map_append, ← List.map_append, List.replicate_append_replicate, show 4 + (64 - 4 * (r + 1)) = 64 - 4 * r by omega]
  rw [e] at h
  have hA : ((leBytes (bw.take r)).map bv).length = 4 * r := by rw [List.length_map, leBytes_length]; simp; omega
  have := Blk.setCells ((le4 (bw.getD r 0)).map bv) _ h (by simp [le4_length])
  rw [hA] at this
  rw [leBytes_snoc bw r (by omega), List.map_append, List.map_append, List.append_assoc]
  exact this

theorem zero64b (w : World) : (zeroValue 97).run Tryd.prog w = .ok (.agg ((List.replicate 64 (0 : UInt8)).map bv).toArray) w := by kernel_rfl

set_option maxRecDepth 100000 in
set_option maxHeartbeats 4000000 in
theorem block_any (w : World) (k n : List UInt8) (c : W) (hk : k.length = 32) (hn : n.length = 12) (hT : CTab w) :
    Calls Tryd.prog 50 #[.agg (k.map bv).toArray, .agg (n.map bv).toArray, .int .u32 (wz c)] w fun e w' => e = .returned (.agg ((blockL k n c).map bv).toArray) ∧ w.grownBy w' none := by
  have hi16 : (Tryd.prog.info? 126).map (·.size) = some 16 := by kernel_rfl
  have hi64 : (Tryd.prog.info? 97).map (·.size) = some 64 := by kernel_rfl
  have hi32 : (Tryd.prog.info? 37).map (·.size) = some 32 := by kernel_rfl
  have hi12 : (Tryd.prog.info? 64).map (·.size) = some 12 := by kernel_rfl
  obtain ⟨KA, hKA⟩ : ∃ A : Array Value, A = (k.map bv).toArray := ⟨_, rfl⟩
  obtain ⟨NA, hNA⟩ : ∃ A : Array Value, A = (n.map bv).toArray := ⟨_, rfl⟩
  have hKZ : KA.size = 32 := by rw [hKA]; simp [hk]
  have hNZ : NA.size = 12 := by rw [hNA]; simp [hn]
  obtain ⟨Z, hZ⟩ : ∃ A : Array Value, A = ((List.replicate 64 (0 : UInt8)).map bv).toArray := ⟨_, rfl⟩
  have hz := zero64b
  rw [← hZ] at hz
  obtain ⟨Y, hY⟩ : ∃ A : Array Value, A = ((List.replicate 16 (0 : W)).map wv).toArray := ⟨_, rfl⟩
  have hy := zero16w
  rw [← hY] at hy
  obtain ⟨F, hF⟩ : ∃ F, F = firstL k n c := ⟨_, rfl⟩
  have hFl : F.length = 16 := by rw [hF]; exact firstL_length _ _ _
  obtain ⟨W1, hW1⟩ : ∃ W1, W1 = ((w.alloc (.cells KA 37)).alloc (.cells NA 64)).alloc (.cells Z 97) := ⟨_, rfl⟩
  have hg1 : w.grownBy W1 none := by rw [hW1]; exact gb_alloc (gb_alloc (gb_alloc (gb_refl _ _) _) _) _
  have hs1 : W1.heap.size = w.heap.size + 3 := by rw [hW1]; simp
  have hK1 : W1.heap[w.heap.size]? = some (.cells KA 37 (0, 0)) := by
    have := ((Blk.new w 37 (k.map bv)).alloc (.cells NA 64)).alloc (.cells Z 97)
    rw [hW1, hKA]; exact this
  have hN1 : W1.heap[w.heap.size + 1]? = some (.cells NA 64 (0, 0)) := by
    have := Blk.new (w.alloc (.cells KA 37)) 64 (n.map bv)
    rw [World.size_alloc] at this
    rw [hW1, hNA]; exact this.alloc _
  have hR1 : Blk W1 (w.heap.size + 2) 97 ((List.replicate 64 (0 : UInt8)).map bv) := by
    have := Blk.new ((w.alloc (.cells KA 37)).alloc (.cells NA 64)) 97 ((List.replicate 64 (0 : UInt8)).map bv)
    rw [World.size_alloc, World.size_alloc] at this
    rw [hW1, hZ]; exact this
  have hlo := laidOut_any W1 k n c hk hn (hT.kept0 hg1)
  rw [← hKA, ← hNA, ← hF] at hlo
  rw [← hKA, ← hNA]
  have hsz : ((F.map wv).toArray).size = 16 := by simp [hFl]
  have HKA := hide hKA
  have HNA := hide hNA
  have HKZ := hide hKZ
  have HNZ := hide hNZ
  have HZ := hide hZ
  have HY := hide hY
  have HF := hide hF
  have HFL := hide hFl
  have HW1 := hide hW1
  have HK := hide hk
  have HN := hide hn
  have HK1 := hide hK1
  have HN1 := hide hN1
  have HR1 := hide hR1
  have HSZ := hide hsz
  have HS1 := hide hs1
  clear hKA hNA hKZ hNZ hZ hY hF hFl hW1 hk hn hK1 hN1 hR1 hsz hT hs1
  go_enter Tryd.func50, Tryd.ntmps50
  go_wp2_with (first
    | (rw [← unhide HW1]; refine wpList_load_row rfl 37 _ rfl w.heap.size rfl _ _ _ _ (unhide HK1) Tryd.underlying37 rfl ?_ ?_; (rw [unhide HKZ]; exact hi32))
    | (refine wpList_load_row rfl 64 _ rfl (w.heap.size + 1) rfl _ _ _ _ (unhide HN1) Tryd.underlying64 rfl ?_ ?_; (rw [unhide HNZ]; exact hi12)))
  refine hlo.mono ?_
  rintro e w2 ⟨rfl, g2⟩
  have hN2 : Blk (w2.alloc (.cells Y 126)) w2.heap.size 126 ((List.replicate 16 (0 : W)).map wv) := by
    rw [unhide HY]; exact Blk.new w2 126 _
  obtain ⟨W3, hW3⟩ : ∃ W3, W3 = (w2.alloc (.cells Y 126)).setRow w2.heap.size (F.map wv).toArray := ⟨_, rfl⟩
  have hB3 : Blk W3 w2.heap.size 126 (F.map wv) := by rw [hW3]; exact hN2.row _
  have g3 : W1.grownBy W3 none := by rw [hW3]; exact gb_row (gb_alloc g2 _) _ (Or.inl g2.size)
  have hs3 : W3.heap.size = w2.heap.size + 1 := by rw [hW3]; simp
  have hN4 : Blk (W3.alloc (.cells Y 126)) W3.heap.size 126 ((List.replicate 16 (0 : W)).map wv) := by
    rw [unhide HY]; exact Blk.new W3 126 _
  obtain ⟨W5, hW5⟩ : ∃ W5, W5 = (W3.alloc (.cells Y 126)).setRow W3.heap.size (F.map wv).toArray := ⟨_, rfl⟩
  have hB5 : Blk W5 W3.heap.size 126 (F.map wv) := by rw [hW5]; exact hN4.row _
  have hF5 : Blk W5 w2.heap.size 126 (F.map wv) := by rw [hW5]; exact (hB3.alloc _).row_other _ _ (by rw [hs3]; omega)
  have hge := g2.size
  have hs1 := unhide HS1
  have g5 : W1.grownBy W5 none := by rw [hW5]; exact gb_row (gb_alloc g3 _) _ (Or.inl (by omega))
  have hR5 := (unhide HR1).kept g5 (by simp)
  have G5 : w.grownBy W5 none := gb_trans hg1 g5 (fun _ e => by cases e)
  have hle : w.heap.size + 3 ≤ w2.heap.size := by omega
  have hne : w2.heap.size ≠ w.heap.size + 2 := by omega
  have HN2 := hide hN2
  have HB3 := hide hB3
  have HN4 := hide hN4
  have HW3 := hide hW3
  have HW5 := hide hW5
  have HB5 := hide hB5
  have HF5 := hide hF5
  have HR5 := hide hR5
  have HS3 := hide hs3
  clear hN2 hB3 hN4 hW3 hW5 hB5 hF5 hR5 hs3 hge hs1 g5 g3 hg1 hlo
  go_wp2_with (first
    | (refine wpList_store_row rfl 126 _ _ rfl w2.heap.size _ rfl rfl _ _ (unhide HN2) ?_ ?_ ?_ ?_; (rw [unhide HSZ]; exact hi16); (rw [unhide HSZ]; rfl); (exact all_oneCell_toArray (wv_one _)); rw [← unhide HW3])
    | (refine wpList_load_row rfl 126 _ rfl w2.heap.size rfl _ _ _ _ (unhide HB3) Tryd.underlying126 rfl ?_ ?_; (rw [unhide HSZ]; exact hi16))
    | (refine wpList_store_row rfl 126 _ _ rfl W3.heap.size _ rfl rfl _ _ (unhide HN4) ?_ ?_ ?_ ?_; (rw [unhide HSZ]; exact hi16); (rw [unhide HSZ]; rfl); (exact all_oneCell_toArray (wv_one _)); rw [← unhide HW5]))
  obtain ⟨N7, hN7⟩ : ∃ N, N = w2.heap.size := ⟨_, rfl⟩
  have hB5 := unhide HB5
  have hF5 := unhide HF5
  rw [unhide HS3] at hB5
  rw [unhide HS3]
  rw [← hN7] at hB5 hF5 hle hne ⊢
  have hR5 := unhide HR5
  clear HW3 HW5 HB5 HF5 HR5 HS3 HN2 HB3 HN4 HK1 HN1 HR1 HW1 g2 hN7
  go_loopw [17] (fun i wr => ∃ r : Nat, r ≤ 10 ∧ i = .int .i64 r ∧ Blk wr (N7 + 1) 126 ((turnsL r F).map wv) ∧ Blk wr N7 126 (F.map wv) ∧ Blk wr (w.heap.size + 2) 97 ((List.replicate 64 (0 : UInt8)).map bv) ∧ w.grownBy wr none) (fun i _ => 10 - (intOf i).toNat)
  case atStart => exact ⟨0, Nat.zero_le _, rfl, hB5, hF5, hR5, G5⟩
  case round =>
    clear hB5 hF5 hR5 G5
    obtain ⟨r, hr, rfl, hB, hFb, hR, hg⟩ := hrel
    by_cases hlt : r < 10
    · have ht := turn_any wr (N7 + 1) 126 (turnsL r F) (by rw [turnsL_length]; exact unhide HFL) hB
      have hq1 : (r : Int) < 10 := by omega
      clear hB
      have HFb := hide hFb
      have HR := hide hR
      clear hFb hR
      go_wp2_with fail
      refine ht.mono ?_
      rintro e w3 ⟨rfl, B3, g3⟩
      have h1 := (unhide HFb).kept g3 (by simp)
      have h2 := (unhide HR).kept g3 (by simp; omega)
      have h3 : w.grownBy w3 none := gb_trans hg g3 (fun x e => by cases e; exact Or.inl (by omega))
      clear ht
      go_wp2
      go_roundw
      case rel => exact ⟨r + 1, by omega, by go_num, B3, h1, h2, h3⟩
      case measure => simp [intOf]; omega
    · obtain rfl : r = 10 := by omega
      rw [show ((10 : Nat) : Int) = 10 from rfl]
      obtain ⟨T, hT⟩ : ∃ T, T = turnsL 10 F := ⟨_, rfl⟩
      rw [← hT] at hB
      have hTl : T.length = 16 := by rw [hT, turnsL_length]; exact unhide HFL
      have hTz : ((T.map wv).toArray).size = 16 := by simp [hTl]
      obtain ⟨bw, hbw⟩ : ∃ bw, bw = List.zipWith (· + ·) T F := ⟨_, rfl⟩
      have hbl : bw.length = 16 := by rw [hbw]; simp [hTl, unhide HFL]
      have hfin : leBytes bw = blockL k n c := by rw [hbw, hT, unhide HF]; rfl
      have hgl := hg.size
      obtain ⟨W6, hW6⟩ : ∃ W6, W6 = wr.alloc (.cells Z 97) := ⟨_, rfl⟩
      have hB6 : Blk W6 (N7 + 1) 126 (T.map wv) := by rw [hW6]; exact hB.alloc _
      have hF6 : Blk W6 N7 126 (F.map wv) := by rw [hW6]; exact hFb.alloc _
      have hR6 : Blk W6 (w.heap.size + 2) 97 ((List.replicate 64 (0 : UInt8)).map bv) := by rw [hW6]; exact hR.alloc _
      have hO6 : Blk W6 wr.heap.size 97 ((leBytes (bw.take 0) ++ List.replicate (64 - 4 * 0) 0).map bv) := by
        rw [hW6, unhide HZ]; exact Blk.new wr 97 _
      have hg6 : w.grownBy W6 none := by rw [hW6]; exact gb_alloc hg _
      have hn9 : N7 + 1 < wr.heap.size := hB.lt
      have HB6 := hide hB6
      have HF6 := hide hF6
      have HR6 := hide hR6
      have HO6 := hide hO6
      have HT := hide hT
      have HTL := hide hTl
      have HTZ := hide hTz
      have HBW := hide hbw
      have HBL := hide hbl
      have HFIN := hide hfin
      have HW6 := hide hW6
      clear hB hFb hR hB6 hF6 hR6 hO6 hT hTl hTz hbw hbl hfin hgl hW6 hg
      go_wp2_with (rw [← unhide HW6]; refine wpList_load_row rfl 126 _ rfl (N7 + 1) rfl _ _ _ _ (unhide HB6) Tryd.underlying126 rfl ?_ ?_; (rw [unhide HTZ]; exact hi16))
      obtain ⟨N9, hN9⟩ : ∃ N, N = wr.heap.size := ⟨_, rfl⟩
      have hO6 := unhide HO6
      rw [← hN9] at hO6 hn9 ⊢
      clear HW6 hN9 HO6
      go_loopw [22] (fun i wr => ∃ r : Nat, r ≤ 16 ∧ i = .int .i64 r ∧ Blk wr N9 97 ((leBytes (bw.take r) ++ List.replicate (64 - 4 * r) 0).map bv) ∧ Blk wr N7 126 (F.map wv) ∧ Blk wr (w.heap.size + 2) 97 ((List.replicate 64 (0 : UInt8)).map bv) ∧ w.grownBy wr none) (fun i _ => 16 - (intOf i).toNat)
      case atStart => exact ⟨0, Nat.zero_le _, rfl, hO6, unhide HF6, unhide HR6, hg6⟩
      case round =>
        clear hO6 HF6 HR6 HB6 hg6 hlt hr
        obtain ⟨r, hr, rfl, hO, hFb, hR, hg⟩ := hrel
        by_cases hlt : r < 16
        · obtain ⟨x, hx⟩ : ∃ x, x = T.getD r 0 := ⟨_, rfl⟩
          obtain ⟨f, hf⟩ : ∃ f, f = F.getD r 0 := ⟨_, rfl⟩
          have hidx := index_row 126 92 16 (T.map wv) r (.int .u32 (wz x)) Tryd.underlying126 size_word agg_word hlt (by
            have hl2 : r < T.length := by rw [unhide HTL]; exact hlt
            rw [List.getElem?_map, List.getElem?_eq_getElem hl2, hx, show T.getD r 0 = T[r] by simp [List.getD, hl2]]; rfl)
          have hxf : x + f = bw.getD r 0 := by
            have h1 : r < T.length := by rw [unhide HTL]; exact hlt
            have h2 : r < F.length := by rw [unhide HFL]; exact hlt
            have h3 : r < (List.zipWith (· + ·) T F).length := by simp; omega
            rw [hx, hf, unhide HBW, List.getD, List.getElem?_eq_getElem h1, List.getD, List.getElem?_eq_getElem h2, List.getD, List.getElem?_eq_getElem h3, Option.getD_some, Option.getD_some, Option.getD_some, List.getElem_zipWith]
          have hcf0 : wr.drew.cell? ⟨N7, r, none⟩ = some (.int .u32 (wz f)) := by
            rw [hf]; exact hFb.drew.word r (by rw [unhide HFL]; exact hlt)
          have hth : wr.drew.there N9 (4 * r) 4 := fun j hj => hO.drew.there (4 * r) 4 (by simp only [List.length_map, List.length_append, List.length_replicate, leBytes_length, List.length_take, unhide HBL]; omega) j hj
          have hO1 := hO.drew.laid4 (unhide HBL) hlt
          rw [← hxf] at hO1
          have hF1 := Blk.setCells_other (b' := N9) (by omega) ((le4 (x + f)).map bv) (4 * r) hFb.drew
          have hR1 := Blk.setCells_other (b' := N9) (by omega) ((le4 (x + f)).map bv) (4 * r) hR.drew
          have hg1 : w.grownBy (wr.drew.setCells N9 (4 * r) ((le4 (x + f)).map bv)) none := gb_setCells (Or.inl (by omega)) _ _ (gb_drew hg)
          have hcf1 : (wr.drew.setCells N9 (4 * r) ((le4 (x + f)).map bv)).cell? ⟨N7, r, none⟩ = some (.int .u32 (wz f)) := by
            rw [hf]; rw [hf] at hF1; exact hF1.word r (by rw [unhide HFL]; exact hlt)
          have hsl := slice_arr 97 5 64 Tryd.underlying97 size_byte N9 0 (4 * r) (4 * r + 4) ((4 * r : Nat) : Int) ((4 * r + 4 : Nat) : Int) rfl rfl (by omega) (by omega) (by omega)
          rw [Nat.zero_add, show 4 * r + 4 - 4 * r = 4 by omega] at hsl
          obtain ⟨p4, hp4⟩ : ∃ p : Nat, p = 4 * r := ⟨_, rfl⟩
          obtain ⟨p8, hp8⟩ : ∃ p : Nat, p = 4 * r + 4 := ⟨_, rfl⟩
          obtain ⟨r1, hr1⟩ : ∃ p : Nat, p = r + 1 := ⟨_, rfl⟩
          obtain ⟨c9, hc9⟩ : ∃ p : Nat, p = 64 - 4 * r := ⟨_, rfl⟩
          rw [← hp8, ← hc9, ← hp4] at hsl
          rw [← hp4] at hth hO1 hF1 hR1 hg1 hcf1
          have hm1 : (r : Int) * 4 = (p4 : Int) := by omega
          have hv1 : IntKind.i64.wrap (p4 : Int) = (p4 : Int) := by rw [IntKind.wrap_i64]; omega
          have hm3 : IntKind.i64.wrap ((r : Int) + 1) = (r1 : Int) := by rw [IntKind.wrap_i64]; omega
          have hm2 : (r1 : Int) * 4 = (p8 : Int) := by omega
          have hv2 : IntKind.i64.wrap (p8 : Int) = (p8 : Int) := by rw [IntKind.wrap_i64]; omega
          have hq0 : (0 : Int) ≤ (r : Int) := by omega
          have hq1 : (r : Int) < 16 := by omega
          have ha := w_add
          have ham := w_addm
          have HO1 := hide hO1
          have HF1 := hide hF1
          have HR1 := hide hR1
          have HG1 := hide hg1
          have HRR := hide hr1
          clear hO hFb hR hx hf hxf hO1 hF1 hR1 hg1 hp4 hp8 hr1 hc9
          go_wp2
          refine wp_region_noPanic ?_
          refine wp_region_held_drew (S := fun V => V.cell? ⟨N7, r, none⟩ = some (.int .u32 (wz f))) (by kernel_rfl) hcf0 (fun _ => ?_)
          refine wpAnyH_take (i := 0) (oi := { dst := some 26, op := Op.move (Operand.tmp 10), type := _, pos := _, after := _, guard := _ }) (v := .int .i64 (r : Int)) rfl (by kernel_rfl) (by kernel_rfl) (by kernel_rfl) (fun _ _ _ h => h) (Or.inl ⟨by rfl, fun V (hV : V.cell? ⟨N7, r, none⟩ = some (.int .u32 (wz f))) => by go_simp⟩) hcf0 ?_
          (try simp only [Act.put, List.setIfInBounds_toArray, List.set_cons_zero, List.set_cons_succ])
          refine wpAnyH_take (i := 1) (oi := { dst := some 27, op := Op.binOp BinOp.mul 3 (Operand.tmp 26) (Operand.const (Value.int IntKind.i64 4)) 3, type := _, pos := _, after := _, guard := _ }) (v := .int .i64 (p4 : Int)) rfl (by kernel_rfl) (by kernel_rfl) (by kernel_rfl) (fun _ _ _ h => h) (Or.inl ⟨by rfl, fun V (hV : V.cell? ⟨N7, r, none⟩ = some (.int .u32 (wz f))) => by go_simp⟩) hcf0 ?_
          (try simp only [Act.put, List.setIfInBounds_toArray, List.set_cons_zero, List.set_cons_succ])
          refine wpAnyH_take (i := 2) (oi := { dst := some 28, op := Op.move (Operand.tmp 10), type := _, pos := _, after := _, guard := _ }) (v := .int .i64 (r : Int)) rfl (by kernel_rfl) (by kernel_rfl) (by kernel_rfl) (fun _ _ _ h => h) (Or.inl ⟨by rfl, fun V (hV : V.cell? ⟨N7, r, none⟩ = some (.int .u32 (wz f))) => by go_simp⟩) hcf0 ?_
          (try simp only [Act.put, List.setIfInBounds_toArray, List.set_cons_zero, List.set_cons_succ])
          refine wpAnyH_take (i := 3) (oi := { dst := some 29, op := Op.binOp BinOp.add 3 (Operand.tmp 28) (Operand.const (Value.int IntKind.i64 1)) 3, type := _, pos := _, after := _, guard := _ }) (v := .int .i64 (r1 : Int)) rfl (by kernel_rfl) (by kernel_rfl) (by kernel_rfl) (fun _ _ _ h => h) (Or.inl ⟨by rfl, fun V (hV : V.cell? ⟨N7, r, none⟩ = some (.int .u32 (wz f))) => by go_simp⟩) hcf0 ?_
          (try simp only [Act.put, List.setIfInBounds_toArray, List.set_cons_zero, List.set_cons_succ])
          refine wpAnyH_take (i := 4) (oi := { dst := some 30, op := Op.binOp BinOp.mul 3 (Operand.tmp 29) (Operand.const (Value.int IntKind.i64 4)) 3, type := _, pos := _, after := _, guard := _ }) (v := .int .i64 (p8 : Int)) rfl (by kernel_rfl) (by kernel_rfl) (by kernel_rfl) (fun _ _ _ h => h) (Or.inl ⟨by rfl, fun V (hV : V.cell? ⟨N7, r, none⟩ = some (.int .u32 (wz f))) => by go_simp⟩) hcf0 ?_
          (try simp only [Act.put, List.setIfInBounds_toArray, List.set_cons_zero, List.set_cons_succ])
          refine wpAnyH_take (i := 5) (oi := { dst := some 31, op := Op.slice 97 (Operand.tmp 9) (some (Operand.tmp 27)) (some (Operand.tmp 30)) none, type := _, pos := _, after := _, guard := _ }) (v := .slice (some ⟨N9, p4, none⟩) 4 c9) rfl (by kernel_rfl) (by kernel_rfl) (by kernel_rfl) (fun _ _ _ h => h) (Or.inl ⟨by rfl, fun V (hV : V.cell? ⟨N7, r, none⟩ = some (.int .u32 (wz f))) => by go_simp⟩) hcf0 ?_
          (try simp only [Act.put, List.setIfInBounds_toArray, List.set_cons_zero, List.set_cons_succ])
          refine wpAnyH_take (i := 6) (oi := { dst := some 32, op := Op.move (Operand.tmp 11), type := _, pos := _, after := _, guard := _ }) (v := .int .u32 (wz x)) rfl (by kernel_rfl) (by kernel_rfl) (by kernel_rfl) (fun _ _ _ h => h) (Or.inl ⟨by rfl, fun V (hV : V.cell? ⟨N7, r, none⟩ = some (.int .u32 (wz f))) => by go_simp⟩) hcf0 ?_
          (try simp only [Act.put, List.setIfInBounds_toArray, List.set_cons_zero, List.set_cons_succ])
          refine wpAnyH_take (i := 7) (oi := { dst := some 33, op := Op.move (Operand.tmp 10), type := _, pos := _, after := _, guard := _ }) (v := .int .i64 (r : Int)) rfl (by kernel_rfl) (by kernel_rfl) (by kernel_rfl) (fun _ _ _ h => h) (Or.inl ⟨by rfl, fun V (hV : V.cell? ⟨N7, r, none⟩ = some (.int .u32 (wz f))) => by go_simp⟩) hcf0 ?_
          (try simp only [Act.put, List.setIfInBounds_toArray, List.set_cons_zero, List.set_cons_succ])
          refine wpAnyH_take (i := 8) (oi := { dst := some 34, op := Op.indexAddr 126 (Operand.tmp 7) (Operand.tmp 33), type := _, pos := _, after := _, guard := _ }) (v := .pointer (some ⟨N7, r, none⟩)) rfl (by kernel_rfl) (by kernel_rfl) (by kernel_rfl) (fun _ _ _ h => h) (Or.inl ⟨by rfl, fun V (hV : V.cell? ⟨N7, r, none⟩ = some (.int .u32 (wz f))) => by go_simp⟩) hcf0 ?_
          (try simp only [Act.put, List.setIfInBounds_toArray, List.set_cons_zero, List.set_cons_succ])
          refine wpAnyH_take (i := 9) (oi := { dst := some 35, op := Op.load 92 (Operand.tmp 34), type := _, pos := _, after := _, guard := _ }) (v := .int .u32 (wz f)) rfl (by kernel_rfl) (by kernel_rfl) (by kernel_rfl) (fun _ _ _ h => h) (Or.inl ⟨by rfl, fun V (hV : V.cell? ⟨N7, r, none⟩ = some (.int .u32 (wz f))) => by go_simp⟩) hcf0 ?_
          (try simp only [Act.put, List.setIfInBounds_toArray, List.set_cons_zero, List.set_cons_succ])
          refine wpAnyH_take (i := 10) (oi := { dst := some 36, op := Op.binOp BinOp.add 92 (Operand.tmp 32) (Operand.tmp 35) 92, type := _, pos := _, after := _, guard := _ }) (v := .int .u32 (wz (x + f))) rfl (by kernel_rfl) (by kernel_rfl) (by kernel_rfl) (fun _ _ _ h => h) (Or.inl ⟨by rfl, fun V (hV : V.cell? ⟨N7, r, none⟩ = some (.int .u32 (wz f))) => by go_simp⟩) hcf0 ?_
          (try simp only [Act.put, List.setIfInBounds_toArray, List.set_cons_zero, List.set_cons_succ])
          refine wpAnyH_ready (rs := [11]) (by kernel_rfl) (by simp) ?_
          refine AllReadyH.cons (o := { dst := some 37, op := Op.call { callee := Callee.value (Operand.func 71), args := #[(Operand.tmp 31), (Operand.tmp 36)], argTypes := #[22, 92] }, type := _, pos := _, after := _, guard := _ }) rfl (fun K9 hK9 => ?_) AllReadyH.nil
          go_simp
          go_at_call 71
          refine (layWord_any _ N9 p4 c9 (x + f) hth).mono ?_
          rintro e w4 ⟨rfl, rfl⟩
          go_wp2_with fail
          refine hK9.out _ _ hcf1 (fun _ => ?_)
          clear hK9 K9
          (try simp only [Act.put, List.setIfInBounds_toArray, List.set_cons_zero, List.set_cons_succ])
          refine wpAnyH_done (by kernel_rfl) ?_ _
          refine NoPanic.normal ?_
          go_wp2
          go_roundw
          case rel => exact ⟨r + 1, by omega, by rw [unhide HRR], unhide HO1, unhide HF1, unhide HR1, unhide HG1⟩
          case measure =>
            have := unhide HRR
            simp [intOf]; omega
        · obtain rfl : r = 16 := by omega
          rw [show ((16 : Nat) : Int) = 16 from rfl]
          rw [List.take_of_length_le (by rw [unhide HBL]; exact Nat.le_refl _), show 64 - 4 * 16 = 0 from rfl, List.replicate_zero, List.append_nil, unhide HFIN] at hO
          have hz64 : (((blockL k n c).map bv).toArray).size = 64 := by simp [blockL_length]
          have HZ64 := hide hz64
          clear hz64
          go_wp2_with (first | (refine wpList_load_row rfl 97 _ rfl N9 rfl _ _ _ _ hO Tryd.underlying97 rfl ?_ ?_; (rw [unhide HZ64]; exact hi64)) | (refine wpList_store_row rfl 97 _ _ rfl (w.heap.size + 2) _ rfl rfl _ _ hR ?_ ?_ ?_ ?_; (rw [unhide HZ64]; exact hi64); (rw [unhide HZ64]; rfl); (exact all_oneCell_toArray (bv_one _))))
          have hS := hR.row ((blockL k n c).map bv)
          have hG : w.grownBy (wr.setRow (w.heap.size + 2) ((blockL k n c).map bv).toArray) none := gb_row hg _ (Or.inl (by omega))
          refine bodyPost_ret (v := .agg ((blockL k n c).map bv).toArray) (results_cell_row (g := w.heap.size + 2) rfl _ _ _ _ _ _ ?_ hS Tryd.underlying97 rfl ?_) rfl ⟨rfl, hG⟩
          · rfl
          · rw [unhide HZ64]; exact hi64

end Go.Proofs.YtjckdgapefaokaaDoor

/- A block that is known, reckoned; and rows of bytes that are filled place by place. No condition but those that each lemma names. -/
namespace Go.Proofs.YtjckdgapefaokaaDoor
open Go.RowKit

def kk : List UInt8 := [0, 1, 2, 3, 4, 5, 6, 7, 8, 9, 10, 11, 12, 13, 14, 15, 16, 17, 18, 19, 20, 21, 22, 23, 24, 25, 26, 27, 28, 29, 30, 31]
def nn : List UInt8 := [0, 0, 0, 9, 0, 0, 0, 74, 0, 0, 0, 0]

set_option maxRecDepth 100000 in
theorem block_known : blockL kk nn 1 = [0x10, 0xf1, 0xe7, 0xe4, 0xd1, 0x3b, 0x59, 0x15, 0x50, 0x0f, 0xdd, 0x1f, 0xa3, 0x20, 0x71, 0xc4, 0xc7, 0xd1, 0xf4, 0xc7, 0x33, 0xc0, 0x68, 0x03, 0x04, 0x22, 0xaa, 0x9a, 0xc3, 0xd4, 0x6c, 0x4e, 0xd2, 0x82, 0x64, 0x46, 0x07, 0x9f, 0xaa, 0x09, 0x14, 0xc2, 0xd7, 0x05, 0xd9, 0x8b, 0x02, 0xa2, 0xb5, 0x12, 0x9c, 0xd1, 0xde, 0x16, 0x4e, 0xb9, 0xcb, 0xd0, 0x83, 0xe8, 0xa2, 0x50, 0x3c, 0x4e] := by kernel_rfl

theorem kk_get (r : Nat) (h : r < 32) : Value.int .u8 (r : Int) = bv (kk.getD r 0) := by
  have : ∀ k : Fin 32, (kk.getD k.val 0).toNat = k.val := by decide
  unfold bv
  rw [this ⟨r, h⟩]

theorem fill_bv (xs : List UInt8) (n k : Nat) (hk : k < xs.length) (hn : k < n) : ((xs.take k ++ List.replicate (n - k) 0).map bv).set k (bv (xs.getD k 0)) = (xs.take (k + 1) ++ List.replicate (n - (k + 1)) 0).map bv := by
  rw [← List.map_set, List.take_succ_eq_append_getElem hk, show n - k = (n - (k + 1)) + 1 by omega, List.replicate_succ, List.append_assoc]
  rw [List.set_append_right _ _ (by simp; omega)]
  have : k - (xs.take k).length = 0 := by simp; omega
  rw [this, show xs.getD k 0 = xs[k] by simp [List.getD, hk]]
  rfl

theorem zero32k (w : World) : (zeroValue 37).run Tryd.prog w = .ok (.agg ((List.replicate 32 (0 : UInt8)).map bv).toArray) w := by kernel_rfl

end Go.Proofs.YtjckdgapefaokaaDoor
