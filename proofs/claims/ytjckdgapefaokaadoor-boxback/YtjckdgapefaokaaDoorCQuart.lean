/- What the library's RotateLeft32 and chacha's quarter and turn answer and leave: of sixteen words in a block of their own. No condition but those that each lemma names. -/
import Derived.Test.YtjckdgapefaokaaDoorCMath
import Derived.Test.YtjckdgapefaokaaDoorBActs
import Derived.Deep.MidRow
import Derived.Deep.RegionHeld3
import Derived.BigQuiet
import Derived.Deep.DrawnRows
namespace Go.Proofs.YtjckdgapefaokaaDoor
open Go.RowKit
attribute [local go_sem ↓] Go.wp_at_zero Go.wp_at_succ

theorem and_31 (n : Nat) (h1 : n < 32) : bits .and .u64 (n : Int) 31 = (n : Int) := by
  have : ∀ k : Fin 32, bits .and .u64 (k.val : Int) 31 = (k.val : Int) := by decide +kernel
  exact this ⟨n, h1⟩

theorem rotl_any (w : World) (x : W) (n : Nat) (h0 : 0 < n) (h1 : n < 32) :
    Calls Tryd.prog 99 #[.int .u32 (wz x), .int .i64 (n : Int)] w fun e w' => e = .returned (.int .u32 (wz (rol x n))) ∧ w' = w := by
  have hl := and_31 n h1
  go_enter Tryd.func99, Tryd.ntmps99
  go_wp2
  go_ret
  rw [w_shlm, w_shr, w_or]
  exact ⟨rfl, rfl⟩

theorem rotl_i (w : World) (x : W) (z : Int) (h0 : 0 < z) (h1 : z < 32) :
    Calls Tryd.prog 99 #[.int .u32 (wz x), .int .i64 z] w fun e w' => e = .returned (.int .u32 (wz (rol x z.toNat))) ∧ w' = w := by
  have := rotl_any w x z.toNat (by omega) (by omega)
  rw [Int.toNat_of_nonneg (by omega)] at this
  exact this

theorem Blk.word {w : World} {b : Nat} {t : TypeId} {s : List W} (h : Blk w b t (s.map wv)) (i : Nat) (hi : i < s.length) : w.cell? ⟨b, i, none⟩ = some (.int .u32 (wz (s.getD i 0))) := by
  rw [h.cell, List.getElem?_map, List.getElem?_eq_getElem hi, show s.getD i 0 = s[i] by simp [List.getD, hi]]
  rfl

theorem Blk.setw {w : World} {b : Nat} {t : TypeId} {s : List W} (h : Blk w b t (s.map wv)) (i : Nat) (x : W) : Blk (w.setCell ⟨b, i, none⟩ (.int .u32 (wz x))) b t ((s.set i x).map wv) := by
  have := h.set i (wv x)
  rw [← List.map_set] at this
  exact this

set_option maxRecDepth 100000 in
set_option maxHeartbeats 2000000 in
theorem quarter_any (w : World) (b : Nat) (t : TypeId) (s : List W) (hs : s.length = 16) (hB : Blk w b t (s.map wv)) (i j k l : Nat) (hi : i < 16) (hj : j < 16) (hk : k < 16) (hl : l < 16)
    (hij : i ≠ j) (hik : i ≠ k) (hil : i ≠ l) (hjk : j ≠ k) (hjl : j ≠ l) (hkl : k ≠ l) :
    Calls Tryd.prog 96 #[.pointer (some ⟨b, 0, none⟩), .int .i64 (i : Int), .int .i64 (j : Int), .int .i64 (k : Int), .int .i64 (l : Int)] w fun e w' => e = .returned (.tuple #[]) ∧ Blk w' b t ((quartL s i j k l).map wv) ∧ w.grownBy w' (some b) := by
  have ci := hB.word i (by omega)
  have cj := hB.word j (by omega)
  have ck := hB.word k (by omega)
  have cl := hB.word l (by omega)
  have fi := hB.fz i
  have fj := hB.fz j
  have fk := hB.fz k
  have fl := hB.fz l
  obtain ⟨xa, hxa⟩ : ∃ x, x = s.getD i 0 := ⟨_, rfl⟩
  obtain ⟨xb, hxb⟩ : ∃ x, x = s.getD j 0 := ⟨_, rfl⟩
  obtain ⟨xc, hxc⟩ : ∃ x, x = s.getD k 0 := ⟨_, rfl⟩
  obtain ⟨xd, hxd⟩ : ∃ x, x = s.getD l 0 := ⟨_, rfl⟩
  rw [← hxa] at ci
  rw [← hxb] at cj
  rw [← hxc] at ck
  rw [← hxd] at cl
  have i0 : (0 : Int) ≤ (i : Int) := by omega
  have i1 : (i : Int) < 16 := by omega
  have j0 : (0 : Int) ≤ (j : Int) := by omega
  have j1 : (j : Int) < 16 := by omega
  have k0 : (0 : Int) ≤ (k : Int) := by omega
  have k1 : (k : Int) < 16 := by omega
  have l0 : (0 : Int) ≤ (l : Int) := by omega
  have l1 : (l : Int) < 16 := by omega
  have HB := hide hB
  have HA := hide hxa
  have HBB := hide hxb
  have HC := hide hxc
  have HD := hide hxd
  have HS := hide hs
  clear hB hxa hxb hxc hxd hs hi hj hk hl
  go_enter Tryd.func96, Tryd.ntmps96
  go_wp2
  go_quiet (fail)
  obtain ⟨wq, hwq⟩ : ∃ wq, wq = w.drewN nq := ⟨_, rfl⟩
  rw [← hwq]
  have hd : ∀ a, wq.cell? a = w.cell? a := fun a => by rw [hwq]; simp
  have hdf : ∀ a, wq.frozen? a = w.frozen? a := fun a => by rw [hwq]; simp
  have hB0 : Blk wq b t (s.map wv) := by rw [hwq]; exact unhide HB
  have hg0 : w.grownBy wq none := by rw [hwq]; exact gb_drewN (gb_refl _ _) _
  rw [← hd] at ci cj ck cl
  rw [← hdf] at fi fj fk fl
  clear hd hdf hwq
  have HB0 := hide hB0
  have HG0 := hide hg0
  clear hB0 hg0
  have hx := w_xor
  have ha := w_add
  have ham := w_addm
  go_wp2_with (go_at_call 99; refine (rotl_i _ _ _ ?_ ?_).mono ?_; (decide); (decide); rintro e w' ⟨rfl, rfl⟩)
  obtain ⟨qa, hqa⟩ : ∃ q, q = (quart xa xb xc xd).a := ⟨_, rfl⟩
  obtain ⟨qb, hqb⟩ : ∃ q, q = (quart xa xb xc xd).b := ⟨_, rfl⟩
  obtain ⟨qc, hqc⟩ : ∃ q, q = (quart xa xb xc xd).c := ⟨_, rfl⟩
  obtain ⟨qd, hqd⟩ : ∃ q, q = (quart xa xb xc xd).d := ⟨_, rfl⟩
  rw [show rol (rol (xb ^^^ (xc + rol (xd ^^^ (xa + xb)) 16)) 12 ^^^ ((xc + rol (xd ^^^ (xa + xb)) 16) + rol (rol (xd ^^^ (xa + xb)) 16 ^^^ ((xa + xb) + rol (xb ^^^ (xc + rol (xd ^^^ (xa + xb)) 16)) 12)) 8)) 7 = qb from hqb.symm, show (xc + rol (xd ^^^ (xa + xb)) 16) + rol (rol (xd ^^^ (xa + xb)) 16 ^^^ ((xa + xb) + rol (xb ^^^ (xc + rol (xd ^^^ (xa + xb)) 16)) 12)) 8 = qc from hqc.symm, show rol (rol (xd ^^^ (xa + xb)) 16 ^^^ ((xa + xb) + rol (xb ^^^ (xc + rol (xd ^^^ (xa + xb)) 16)) 12)) 8 = qd from hqd.symm, show (xa + xb) + rol (xb ^^^ (xc + rol (xd ^^^ (xa + xb)) 16)) 12 = qa from hqa.symm]
  have HQA := hide hqa
  have HQB := hide hqb
  have HQC := hide hqc
  have HQD := hide hqd
  clear hqa hqb hqc hqd hx ha ham
  refine wp_region_noPanic ?_
  refine wp_region_held_drew (S := fun V => True) (by kernel_rfl) trivial (fun _ => ?_)
  refine wpAnyH_take (i := 0) (oi := { dst := some 62, op := Op.move (Operand.tmp 0), type := _, pos := _, after := _, guard := _ }) (v := .pointer (some ⟨b, 0, none⟩)) rfl (by kernel_rfl) (by kernel_rfl) (by kernel_rfl) (fun _ _ _ h => h) (Or.inl ⟨by rfl, fun V (hV : True) => by go_simp⟩) trivial ?_
  (try simp only [Act.put, List.setIfInBounds_toArray, List.set_cons_zero, List.set_cons_succ])
  refine wpAnyH_take (i := 1) (oi := { dst := some 63, op := Op.move (Operand.tmp 1), type := _, pos := _, after := _, guard := _ }) (v := .int .i64 (i : Int)) rfl (by kernel_rfl) (by kernel_rfl) (by kernel_rfl) (fun _ _ _ h => h) (Or.inl ⟨by rfl, fun V (hV : True) => by go_simp⟩) trivial ?_
  (try simp only [Act.put, List.setIfInBounds_toArray, List.set_cons_zero, List.set_cons_succ])
  refine wpAnyH_take (i := 2) (oi := { dst := some 64, op := Op.move (Operand.tmp 0), type := _, pos := _, after := _, guard := _ }) (v := .pointer (some ⟨b, 0, none⟩)) rfl (by kernel_rfl) (by kernel_rfl) (by kernel_rfl) (fun _ _ _ h => h) (Or.inl ⟨by rfl, fun V (hV : True) => by go_simp⟩) trivial ?_
  (try simp only [Act.put, List.setIfInBounds_toArray, List.set_cons_zero, List.set_cons_succ])
  refine wpAnyH_take (i := 3) (oi := { dst := some 65, op := Op.move (Operand.tmp 2), type := _, pos := _, after := _, guard := _ }) (v := .int .i64 (j : Int)) rfl (by kernel_rfl) (by kernel_rfl) (by kernel_rfl) (fun _ _ _ h => h) (Or.inl ⟨by rfl, fun V (hV : True) => by go_simp⟩) trivial ?_
  (try simp only [Act.put, List.setIfInBounds_toArray, List.set_cons_zero, List.set_cons_succ])
  refine wpAnyH_take (i := 4) (oi := { dst := some 66, op := Op.move (Operand.tmp 0), type := _, pos := _, after := _, guard := _ }) (v := .pointer (some ⟨b, 0, none⟩)) rfl (by kernel_rfl) (by kernel_rfl) (by kernel_rfl) (fun _ _ _ h => h) (Or.inl ⟨by rfl, fun V (hV : True) => by go_simp⟩) trivial ?_
  (try simp only [Act.put, List.setIfInBounds_toArray, List.set_cons_zero, List.set_cons_succ])
  refine wpAnyH_take (i := 5) (oi := { dst := some 67, op := Op.move (Operand.tmp 3), type := _, pos := _, after := _, guard := _ }) (v := .int .i64 (k : Int)) rfl (by kernel_rfl) (by kernel_rfl) (by kernel_rfl) (fun _ _ _ h => h) (Or.inl ⟨by rfl, fun V (hV : True) => by go_simp⟩) trivial ?_
  (try simp only [Act.put, List.setIfInBounds_toArray, List.set_cons_zero, List.set_cons_succ])
  refine wpAnyH_take (i := 6) (oi := { dst := some 68, op := Op.move (Operand.tmp 0), type := _, pos := _, after := _, guard := _ }) (v := .pointer (some ⟨b, 0, none⟩)) rfl (by kernel_rfl) (by kernel_rfl) (by kernel_rfl) (fun _ _ _ h => h) (Or.inl ⟨by rfl, fun V (hV : True) => by go_simp⟩) trivial ?_
  (try simp only [Act.put, List.setIfInBounds_toArray, List.set_cons_zero, List.set_cons_succ])
  refine wpAnyH_take (i := 7) (oi := { dst := some 69, op := Op.move (Operand.tmp 4), type := _, pos := _, after := _, guard := _ }) (v := .int .i64 (l : Int)) rfl (by kernel_rfl) (by kernel_rfl) (by kernel_rfl) (fun _ _ _ h => h) (Or.inl ⟨by rfl, fun V (hV : True) => by go_simp⟩) trivial ?_
  (try simp only [Act.put, List.setIfInBounds_toArray, List.set_cons_zero, List.set_cons_succ])
  refine wpAnyH_take (i := 8) (oi := { dst := some 70, op := Op.move (Operand.tmp 10), type := _, pos := _, after := _, guard := _ }) (v := .int .u32 (wz qa)) rfl (by kernel_rfl) (by kernel_rfl) (by kernel_rfl) (fun _ _ _ h => h) (Or.inl ⟨by rfl, fun V (hV : True) => by go_simp⟩) trivial ?_
  (try simp only [Act.put, List.setIfInBounds_toArray, List.set_cons_zero, List.set_cons_succ])
  refine wpAnyH_take (i := 9) (oi := { dst := some 71, op := Op.move (Operand.tmp 11), type := _, pos := _, after := _, guard := _ }) (v := .int .u32 (wz qb)) rfl (by kernel_rfl) (by kernel_rfl) (by kernel_rfl) (fun _ _ _ h => h) (Or.inl ⟨by rfl, fun V (hV : True) => by go_simp⟩) trivial ?_
  (try simp only [Act.put, List.setIfInBounds_toArray, List.set_cons_zero, List.set_cons_succ])
  refine wpAnyH_take (i := 10) (oi := { dst := some 72, op := Op.move (Operand.tmp 12), type := _, pos := _, after := _, guard := _ }) (v := .int .u32 (wz qc)) rfl (by kernel_rfl) (by kernel_rfl) (by kernel_rfl) (fun _ _ _ h => h) (Or.inl ⟨by rfl, fun V (hV : True) => by go_simp⟩) trivial ?_
  (try simp only [Act.put, List.setIfInBounds_toArray, List.set_cons_zero, List.set_cons_succ])
  refine wpAnyH_take (i := 11) (oi := { dst := some 73, op := Op.move (Operand.tmp 13), type := _, pos := _, after := _, guard := _ }) (v := .int .u32 (wz qd)) rfl (by kernel_rfl) (by kernel_rfl) (by kernel_rfl) (fun _ _ _ h => h) (Or.inl ⟨by rfl, fun V (hV : True) => by go_simp⟩) trivial ?_
  (try simp only [Act.put, List.setIfInBounds_toArray, List.set_cons_zero, List.set_cons_succ])
  refine wpAnyH_take (i := 12) (oi := { dst := some 74, op := Op.nilCheck (Operand.tmp 62), type := _, pos := _, after := _, guard := _ }) (v := .pointer (some ⟨b, 0, none⟩)) rfl (by kernel_rfl) (by kernel_rfl) (by kernel_rfl) (fun _ _ _ h => h) (Or.inl ⟨by rfl, fun V (hV : True) => by go_simp⟩) trivial ?_
  (try simp only [Act.put, List.setIfInBounds_toArray, List.set_cons_zero, List.set_cons_succ])
  refine wpAnyH_take (i := 15) (oi := { dst := some 76, op := Op.nilCheck (Operand.tmp 64), type := _, pos := _, after := _, guard := _ }) (v := .pointer (some ⟨b, 0, none⟩)) rfl (by kernel_rfl) (by kernel_rfl) (by kernel_rfl) (fun _ _ _ h => h) (Or.inl ⟨by rfl, fun V (hV : True) => by go_simp⟩) trivial ?_
  (try simp only [Act.put, List.setIfInBounds_toArray, List.set_cons_zero, List.set_cons_succ])
  refine wpAnyH_take (i := 18) (oi := { dst := some 78, op := Op.nilCheck (Operand.tmp 66), type := _, pos := _, after := _, guard := _ }) (v := .pointer (some ⟨b, 0, none⟩)) rfl (by kernel_rfl) (by kernel_rfl) (by kernel_rfl) (fun _ _ _ h => h) (Or.inl ⟨by rfl, fun V (hV : True) => by go_simp⟩) trivial ?_
  (try simp only [Act.put, List.setIfInBounds_toArray, List.set_cons_zero, List.set_cons_succ])
  refine wpAnyH_take (i := 21) (oi := { dst := some 80, op := Op.nilCheck (Operand.tmp 68), type := _, pos := _, after := _, guard := _ }) (v := .pointer (some ⟨b, 0, none⟩)) rfl (by kernel_rfl) (by kernel_rfl) (by kernel_rfl) (fun _ _ _ h => h) (Or.inl ⟨by rfl, fun V (hV : True) => by go_simp⟩) trivial ?_
  (try simp only [Act.put, List.setIfInBounds_toArray, List.set_cons_zero, List.set_cons_succ])
  refine wpAnyH_take (i := 13) (oi := { dst := some 75, op := Op.indexAddr 126 (Operand.tmp 74) (Operand.tmp 63), type := _, pos := _, after := _, guard := _ }) (v := .pointer (some ⟨b, i, none⟩)) rfl (by kernel_rfl) (by kernel_rfl) (by kernel_rfl) (fun _ _ _ h => h) (Or.inl ⟨by rfl, fun V (hV : True) => by go_simp⟩) trivial ?_
  (try simp only [Act.put, List.setIfInBounds_toArray, List.set_cons_zero, List.set_cons_succ])
  refine wpAnyH_ready (rs := [14]) (by kernel_rfl) (by simp) ?_
  refine AllReadyH.cons (o := { dst := none, op := Op.store 92 (Operand.tmp 75) (Operand.tmp 70), type := _, pos := _, after := _, guard := _ }) rfl (fun K9 hK9 => ?_) AllReadyH.nil
  go_simp
  refine hK9.out _ _ trivial (fun _ => ?_)
  clear hK9 K9
  (try simp only [Act.put, List.setIfInBounds_toArray, List.set_cons_zero, List.set_cons_succ])
  refine wpAnyH_take (i := 16) (oi := { dst := some 77, op := Op.indexAddr 126 (Operand.tmp 76) (Operand.tmp 65), type := _, pos := _, after := _, guard := _ }) (v := .pointer (some ⟨b, j, none⟩)) rfl (by kernel_rfl) (by kernel_rfl) (by kernel_rfl) (fun _ _ _ h => h) (Or.inl ⟨by rfl, fun V (hV : True) => by go_simp⟩) trivial ?_
  (try simp only [Act.put, List.setIfInBounds_toArray, List.set_cons_zero, List.set_cons_succ])
  refine wpAnyH_ready (rs := [17]) (by kernel_rfl) (by simp) ?_
  refine AllReadyH.cons (o := { dst := none, op := Op.store 92 (Operand.tmp 77) (Operand.tmp 71), type := _, pos := _, after := _, guard := _ }) rfl (fun K9 hK9 => ?_) AllReadyH.nil
  go_simp
  refine hK9.out _ _ trivial (fun _ => ?_)
  clear hK9 K9
  (try simp only [Act.put, List.setIfInBounds_toArray, List.set_cons_zero, List.set_cons_succ])
  refine wpAnyH_take (i := 19) (oi := { dst := some 79, op := Op.indexAddr 126 (Operand.tmp 78) (Operand.tmp 67), type := _, pos := _, after := _, guard := _ }) (v := .pointer (some ⟨b, k, none⟩)) rfl (by kernel_rfl) (by kernel_rfl) (by kernel_rfl) (fun _ _ _ h => h) (Or.inl ⟨by rfl, fun V (hV : True) => by go_simp⟩) trivial ?_
  (try simp only [Act.put, List.setIfInBounds_toArray, List.set_cons_zero, List.set_cons_succ])
  refine wpAnyH_ready (rs := [20]) (by kernel_rfl) (by simp) ?_
  refine AllReadyH.cons (o := { dst := none, op := Op.store 92 (Operand.tmp 79) (Operand.tmp 72), type := _, pos := _, after := _, guard := _ }) rfl (fun K9 hK9 => ?_) AllReadyH.nil
  go_simp
  refine hK9.out _ _ trivial (fun _ => ?_)
  clear hK9 K9
  (try simp only [Act.put, List.setIfInBounds_toArray, List.set_cons_zero, List.set_cons_succ])
  refine wpAnyH_take (i := 22) (oi := { dst := some 81, op := Op.indexAddr 126 (Operand.tmp 80) (Operand.tmp 69), type := _, pos := _, after := _, guard := _ }) (v := .pointer (some ⟨b, l, none⟩)) rfl (by kernel_rfl) (by kernel_rfl) (by kernel_rfl) (fun _ _ _ h => h) (Or.inl ⟨by rfl, fun V (hV : True) => by go_simp⟩) trivial ?_
  (try simp only [Act.put, List.setIfInBounds_toArray, List.set_cons_zero, List.set_cons_succ])
  refine wpAnyH_ready (rs := [23]) (by kernel_rfl) (by simp) ?_
  refine AllReadyH.cons (o := { dst := none, op := Op.store 92 (Operand.tmp 81) (Operand.tmp 73), type := _, pos := _, after := _, guard := _ }) rfl (fun K9 hK9 => ?_) AllReadyH.nil
  go_simp
  refine hK9.out _ _ trivial (fun _ => ?_)
  clear hK9 K9
  (try simp only [Act.put, List.setIfInBounds_toArray, List.set_cons_zero, List.set_cons_succ])
  refine wpAnyH_done (by kernel_rfl) ?_ _
  refine NoPanic.normal ?_
  go_wp2
  go_end0
  have hB1 := ((((unhide HB0).setw i qa).setw j qb).setw k qc).setw l qd
  have e : quartL s i j k l = (((s.set i qa).set j qb).set k qc).set l qd := by
    unfold quartL put4
    rw [← unhide HA, ← unhide HBB, ← unhide HC, ← unhide HD, ← unhide HQA, ← unhide HQB, ← unhide HQC, ← unhide HQD]
  rw [e]
  exact ⟨rfl, hB1.drew, gb_drew (gb_setCell (gb_setCell (gb_setCell (gb_setCell (gb_none (some b) (unhide HG0)) _ _ (Or.inr rfl)) _ _ (Or.inr rfl)) _ _ (Or.inr rfl)) _ _ (Or.inr rfl))⟩

set_option maxRecDepth 100000 in
set_option maxHeartbeats 2000000 in
theorem turn_any (w : World) (b : Nat) (t : TypeId) (s : List W) (hs : s.length = 16) (hB : Blk w b t (s.map wv)) :
    Calls Tryd.prog 70 #[.pointer (some ⟨b, 0, none⟩)] w fun e w' => e = .returned (.tuple #[]) ∧ Blk w' b t ((turnL s).map wv) ∧ w.grownBy w' (some b) := by
  have tr : ∀ {x y z : World}, x.grownBy y (some b) → y.grownBy z (some b) → x.grownBy z (some b) := fun h k => gb_trans h k (fun _ e => Or.inr e)
  go_enter Tryd.func70, Tryd.ntmps70
  go_wp2_with fail
  refine (quarter_any w b t _ hs hB 0 4 8 12 (by omega) (by omega) (by omega) (by omega) (by omega) (by omega) (by omega) (by omega) (by omega) (by omega)).mono ?_
  rintro e w1 ⟨rfl, B1, g1⟩
  go_wp2_with fail
  refine (quarter_any w1 b t _ (by simp only [quartL_length]; exact hs) B1 1 5 9 13 (by omega) (by omega) (by omega) (by omega) (by omega) (by omega) (by omega) (by omega) (by omega) (by omega)).mono ?_
  rintro e w2 ⟨rfl, B2, g2⟩
  go_wp2_with fail
  refine (quarter_any w2 b t _ (by simp only [quartL_length]; exact hs) B2 2 6 10 14 (by omega) (by omega) (by omega) (by omega) (by omega) (by omega) (by omega) (by omega) (by omega) (by omega)).mono ?_
  rintro e w3 ⟨rfl, B3, g3⟩
  go_wp2_with fail
  refine (quarter_any w3 b t _ (by simp only [quartL_length]; exact hs) B3 3 7 11 15 (by omega) (by omega) (by omega) (by omega) (by omega) (by omega) (by omega) (by omega) (by omega) (by omega)).mono ?_
  rintro e w4 ⟨rfl, B4, g4⟩
  go_wp2_with fail
  refine (quarter_any w4 b t _ (by simp only [quartL_length]; exact hs) B4 0 5 10 15 (by omega) (by omega) (by omega) (by omega) (by omega) (by omega) (by omega) (by omega) (by omega) (by omega)).mono ?_
  rintro e w5 ⟨rfl, B5, g5⟩
  go_wp2_with fail
  refine (quarter_any w5 b t _ (by simp only [quartL_length]; exact hs) B5 1 6 11 12 (by omega) (by omega) (by omega) (by omega) (by omega) (by omega) (by omega) (by omega) (by omega) (by omega)).mono ?_
  rintro e w6 ⟨rfl, B6, g6⟩
  go_wp2_with fail
  refine (quarter_any w6 b t _ (by simp only [quartL_length]; exact hs) B6 2 7 8 13 (by omega) (by omega) (by omega) (by omega) (by omega) (by omega) (by omega) (by omega) (by omega) (by omega)).mono ?_
  rintro e w7 ⟨rfl, B7, g7⟩
  go_wp2_with fail
  refine (quarter_any w7 b t _ (by simp only [quartL_length]; exact hs) B7 3 4 9 14 (by omega) (by omega) (by omega) (by omega) (by omega) (by omega) (by omega) (by omega) (by omega) (by omega)).mono ?_
  rintro e w8 ⟨rfl, B8, g8⟩
  go_wp2
  go_end0
  exact ⟨rfl, B8, tr (tr (tr (tr (tr (tr (tr g1 g2) g3) g4) g5) g6) g7) g8⟩

end Go.Proofs.YtjckdgapefaokaaDoor
