/- AeadBegins' walk: whatever the key, the two texts and the number, the call returns true and nothing that was in memory has changed; where the table holds what it is laid with, and by what layer 6's functions answer. -/
import Derived.Test.YtceiehkbhebnpaaDoorAOne
import Derived.Deep.DrawnRows
import Derived.Deep.MidRow
import Derived.Deep.DeepCutAuto
import Derived.Deep.CutBlock
namespace Go.Proofs.YtceiehkbhebnpaaDoor
open Go.RowKit
attribute [local go_sem ↓] Go.wp_at_zero Go.wp_at_succ

theorem and1023 (a : Int) : ∃ j : Nat, j ≤ 1023 ∧ bits .and .i64 a 1023 = (j : Int) := by
  refine ⟨(BitVec.ofInt 64 a &&& BitVec.ofInt 64 1023).toNat, ?_, ?_⟩
  · rw [BitVec.toNat_and, show (BitVec.ofInt 64 1023).toNat = 1023 from by decide]
    exact Nat.and_le_right
  · show IntKind.i64.wrap (((BitVec.ofInt 64 a &&& BitVec.ofInt 64 1023).toNat : Nat) : Int) = _
    have h : (BitVec.ofInt 64 a &&& BitVec.ofInt 64 1023).toNat ≤ 1023 := by
      rw [BitVec.toNat_and, show (BitVec.ofInt 64 1023).toNat = 1023 from by decide]
      exact Nat.and_le_right
    rw [IntKind.wrap_i64]
    omega
/-- An array that is built of what is known, at a step of a region that draws its order. -/
theorem yieldsIf_built {P : Program} {ops : Array Oper} {S : World → Prop} {op : Oper} {a : Act} (hw : Region.wanted op (yielded ops a.tmps) = true) (t : TypeId) (parts : Array (Nat × Operand)) (ho : op.op = .build t parts) (cells : Array Value)
    (hf : P.built t (parts.map fun (i, x) => (i, a.eval x)).toList = some cells) : YieldsIf P ops S op (.agg cells) a :=
  .inl ⟨hw, fun w _ => by
    unfold execOp
    simp only [ho, Sem.run_bind, run_build w t _ cells hf, Result.andThen_ok]
    rfl⟩
def n9 : List UInt8 := 9 :: List.replicate 11 0
theorem built_n9 : Tryd.prog.built 27 [(0, .int .u8 9)] = some (n9.map bv).toArray := by kernel_rfl

set_option maxRecDepth 100000 in
set_option maxHeartbeats 4000000 in
theorem aeadBegins_any (A : AeadC) (w : World) (k : List UInt8) (hk : k.length = 32) (a0 a1 : Option Addr) (c0 c1 : Nat) (l0 l1 : List UInt8) (hb0 : Bts w a0 c0 l0) (hb1 : Bts w a1 c1 l1) (z : Int) (hT : CTab w) :
    Calls Tryd.prog 5 #[.agg (k.map bv).toArray, .agg #[.slice a0 l0.length c0, .slice a1 l1.length c1], .int .i64 z] w fun e w' => e = .returned (.bool true) ∧ w.grownBy w' none := by
  have tr : ∀ {x y z : World}, x.grownBy y none → y.grownBy z none → x.grownBy z none := fun h k => gb_trans h k (fun _ e => by cases e)
  have hi32 : (Tryd.prog.info? 23).map (·.size) = some 32 := by kernel_rfl
  obtain ⟨KA, hKA⟩ : ∃ A : Array Value, A = (k.map bv).toArray := ⟨_, rfl⟩
  have hsK : KA.size = 32 := by rw [hKA]; simp [hk]
  have hiK : (Tryd.prog.info? 23).map (·.size) = some (k.map bv).length := by rw [List.length_map, hk]; exact hi32
  obtain ⟨n, hn⟩ : ∃ n, n = n9 := ⟨_, rfl⟩
  have hnl : n.length = 12 := by rw [hn]; rfl
  have hbn := built_n9
  rw [← hn] at hbn
  obtain ⟨t, ht⟩ : ∃ t, t = l0.take 600 := ⟨_, rfl⟩
  obtain ⟨be, hbe⟩ : ∃ t, t = l1.take 200 := ⟨_, rfl⟩
  have hbt : Bts w a0 c0 t := by rw [ht]; exact hb0.short 600
  have hbb : Bts w a1 c1 be := by rw [hbe]; exact hb1.short 200
  obtain ⟨L, hL⟩ : ∃ L, L = t.length := ⟨_, rfl⟩
  obtain ⟨E, hE⟩ : ∃ L, L = be.length := ⟨_, rfl⟩
  have hL6 : L ≤ 600 := by rw [hL, ht]; simp; omega
  have hE2 : E ≤ 200 := by rw [hE, hbe]; simp; omega
  have hLc : L ≤ c0 := by rw [hL]; exact hbt.fits
  obtain ⟨j, hj, hjz⟩ := and1023 z
  obtain ⟨m, hm⟩ : ∃ m, m = min j L := ⟨_, rfl⟩
  have hmL : m ≤ L := by omega
  obtain ⟨M0, hM0⟩ : ∃ m, m = l0.length := ⟨_, rfl⟩
  obtain ⟨M1, hM1⟩ : ∃ m, m = l1.length := ⟨_, rfl⟩
  have cs0 : ∀ V, w.grownBy V none → Calls Tryd.prog 6 #[.slice a0 M0 c0, .int .i64 600] V fun e w' => e = .returned (.slice a0 L c0) ∧ w' = V := fun V gV => by
    have h := short6_any V a0 c0 l0 (hb0.kept gV (fun _ e => by cases e)) 600
    rw [← hM0, ← ht, ← hL] at h
    exact h
  have cs1 : ∀ V, w.grownBy V none → Calls Tryd.prog 6 #[.slice a1 M1 c1, .int .i64 200] V fun e w' => e = .returned (.slice a1 E c1) ∧ w' = V := fun V gV => by
    have h := short6_any V a1 c1 l1 (hb1.kept gV (fun _ e => by cases e)) 200
    rw [← hM1, ← hbe, ← hE] at h
    exact h
  obtain ⟨W1, hW1⟩ : ∃ W1, W1 = (w.alloc (.cells KA 23)).alloc (.cells #[.slice a0 M0 c0, .slice a1 M1 c1] 38) := ⟨_, rfl⟩
  have hg1 : w.grownBy W1 none := by rw [hW1]; exact gb_alloc (gb_alloc (gb_refl _ _) _) _
  have hK1 : Blk W1 w.heap.size 23 (k.map bv) := by rw [hW1, hKA]; exact (Blk.new w 23 _).alloc _
  have hL1 : Blk W1 (w.heap.size + 1) 38 [.slice a0 M0 c0, .slice a1 M1 c1] := by
    have := Blk.new (w.alloc (.cells KA 23)) 38 [.slice a0 M0 c0, .slice a1 M1 c1]
    rw [World.size_alloc] at this
    rw [hW1]; exact this
  have hc0 : W1.cell? ⟨w.heap.size + 1, 0, none⟩ = some (.slice a0 M0 c0) := by rw [hL1.cell]; rfl
  have hc1 : W1.cell? ⟨w.heap.size + 1, 1, none⟩ = some (.slice a1 M1 c1) := by rw [hL1.cell]; rfl
  have hrK := blk_range5 hK1
  obtain ⟨y, hy⟩ : ∃ y, y = sealL k n be t := ⟨_, rfl⟩
  obtain ⟨y2, hy2⟩ : ∃ y, y = sealL k n [] (t.take m) := ⟨_, rfl⟩
  obtain ⟨x3, hx3⟩ : ∃ x, x = streamL k n 1 t := ⟨_, rfl⟩
  have htm : (t.take m).length = m := by rw [List.length_take, ← hL]; omega
  have hyl : y.length = L + 16 := by rw [hy, sealL_length, hL]
  have hy2l : y2.length = m + 16 := by rw [hy2, sealL_length, htm]
  have hpre : y2.take m = y.take m := by rw [hy, hy2]; exact (seal_begins k n be [] t m (by omega)).symm
  have hall : y.take L = x3 := by rw [hy, hL, hx3]; exact sealL_take k n be t
  have hx3l : x3.length = L := by rw [hx3, streamL_length, hL]
  have cSe : ∀ V, w.grownBy V none → Calls Tryd.prog 7 #[.agg (k.map bv).toArray, .agg (n.map bv).toArray, .slice a1 E c1, .slice a0 L c0] V fun e w' => ∃ so cs, e = .returned (.slice so (L + 16) cs) ∧ Bts w' so cs y ∧ V.grownBy w' none := fun V gV => by
    have h := A.sealed V k n be t a1 a0 c1 c0 hk hnl (hbb.kept gV (fun _ e => by cases e)) (hbt.kept gV (fun _ e => by cases e)) (by omega) (by omega) (hT.kept0 gV)
    rw [← hE, ← hL, ← hy] at h
    exact h.mono fun e w' ⟨v, he, ⟨so, cs, hv, hB, _⟩, hg⟩ => ⟨so, cs, by rw [he, hv, hyl], hB, hg⟩
  have cSn : ∀ V, w.grownBy V none → Calls Tryd.prog 7 #[.agg (k.map bv).toArray, .agg (n.map bv).toArray, .slice none 0 0, .slice a0 m c0] V fun e w' => ∃ so cs, e = .returned (.slice so (m + 16) cs) ∧ Bts w' so cs y2 ∧ V.grownBy w' none := fun V gV => by
    have h := A.sealed V k n [] (t.take m) none a0 0 c0 hk hnl (Bts.nil V) ((hbt.take m (by omega)).kept gV (fun _ e => by cases e)) (by decide) (by omega) (hT.kept0 gV)
    rw [htm, ← hy2] at h
    exact h.mono fun e w' ⟨v, he, ⟨so, cs, hv, hB, _⟩, hg⟩ => ⟨so, cs, by rw [he, hv, hy2l], hB, hg⟩
  have cSt : ∀ V, w.grownBy V none → Calls Tryd.prog 14 #[.agg (k.map bv).toArray, .agg (n.map bv).toArray, .int .u32 1, .slice a0 L c0] V fun e w' => ∃ p, e = .returned (.slice (some ⟨p, 0, none⟩) L L) ∧ Bts w' (some ⟨p, 0, none⟩) L x3 ∧ V.grownBy w' none := fun V gV => by
    have h := stream_any V k n 1 hk hnl a0 c0 t (hbt.kept gV (fun _ e => by cases e)) (by omega) (hT.kept0 gV)
    rw [show wz 1 = 1 from rfl, ← hL, ← hx3] at h
    exact h.mono fun e w' ⟨he, hB, hg⟩ => ⟨_, he, blk_bytes hB L (by omega) (by unfold maxLen; omega), hg⟩
  have sl1 : ∀ W, (Instr.slice 24 (.slice a0 L c0) none (some (.int .i64 (m : Int))) none).run Tryd.prog W = .ok (.slice a0 m c0) W := fun W => slice_to W _ _ Tryd.underlying24 size_byte a0 L c0 m (by omega)
  have c1' : ∀ V, w.grownBy V none → Calls Tryd.prog 13 #[] V fun e w' => e = .returned (.bool true) ∧ V.grownBy w' none := fun V gV => aone_any A V (hT.kept0 gV)
  rw [← hKA, ← hM0, ← hM1]
  have HK1' : Hid (W1.heap[w.heap.size]? = some (.cells KA 23 (0, 0))) := hide (by rw [hKA]; exact hK1)
  have HSK := hide hsK
  have HKA := hide hKA
  have HBN := hide hbn
  have HNE := hide hn
  have HW1 := hide hW1
  have HPRE := hide hpre
  have HALL := hide hall
  have HYL := hide hyl
  have HY2L := hide hy2l
  have HX3L := hide hx3l
  have HG1 := hide hg1
  have h0 : W1.grownBy W1.drew none := gb_drew (gb_refl _ _)
  clear hKA hsK hn hnl hbn ht hbe hbt hbb hL hE hW1 hK1 hL1 hy hy2 hx3 htm hyl hy2l hpre hall hx3l hM0 hM1 hb0 hb1 hT hk A
  have hg1 := unhide HG1
  go_enter Tryd.func5, Tryd.ntmps5
  go_upto_region 1 with fail
  rw [← unhide HW1]
  refine wp_region_noPanic ?_
  refine wp_region_held_drew (S := fun V => W1.grownBy V none) (by kernel_rfl) h0 (fun _ => ?_)
  refine wpAnyH_take (i := 0) (oi := { dst := some 12, op := Op.indexAddr 38 (Operand.tmp 4) (Operand.const (Value.int IntKind.i64 0)), type := _, pos := _, after := _, guard := _ }) (v := .pointer (some ⟨w.heap.size + 1, 0, none⟩)) rfl (by kernel_rfl) (by kernel_rfl) (by kernel_rfl) (fun _ _ _ h => h) (Or.inl ⟨by rfl, fun V (hV : W1.grownBy V none) => by go_simp⟩) h0 ?_
  (try simp only [Act.put, List.setIfInBounds_toArray, List.set_cons_zero, List.set_cons_succ])
  refine wpAnyH_take (i := 1) (oi := { dst := some 13, op := Op.load 24 (Operand.tmp 12), type := _, pos := _, after := _, guard := _ }) (v := .slice a0 M0 c0) rfl (by kernel_rfl) (by kernel_rfl) (by kernel_rfl) (fun _ _ _ h => h) (Or.inl ⟨by rfl, fun V (hV : W1.grownBy V none) => by (have hv1 := hV.cell hc0 (by simp); have hv2 := hV.cell hc1 (by simp); go_simp)⟩) h0 ?_
  (try simp only [Act.put, List.setIfInBounds_toArray, List.set_cons_zero, List.set_cons_succ])
  refine wpAnyH_take (i := 3) (oi := { dst := some 15, op := Op.indexAddr 38 (Operand.tmp 4) (Operand.const (Value.int IntKind.i64 1)), type := _, pos := _, after := _, guard := _ }) (v := .pointer (some ⟨w.heap.size + 1, 1, none⟩)) rfl (by kernel_rfl) (by kernel_rfl) (by kernel_rfl) (fun _ _ _ h => h) (Or.inl ⟨by rfl, fun V (hV : W1.grownBy V none) => by go_simp⟩) h0 ?_
  (try simp only [Act.put, List.setIfInBounds_toArray, List.set_cons_zero, List.set_cons_succ])
  refine wpAnyH_take (i := 4) (oi := { dst := some 16, op := Op.load 24 (Operand.tmp 15), type := _, pos := _, after := _, guard := _ }) (v := .slice a1 M1 c1) rfl (by kernel_rfl) (by kernel_rfl) (by kernel_rfl) (fun _ _ _ h => h) (Or.inl ⟨by rfl, fun V (hV : W1.grownBy V none) => by (have hv1 := hV.cell hc0 (by simp); have hv2 := hV.cell hc1 (by simp); go_simp)⟩) h0 ?_
  (try simp only [Act.put, List.setIfInBounds_toArray, List.set_cons_zero, List.set_cons_succ])
  refine wpAnyH_ready (rs := [2]) (by kernel_rfl) (by simp) ?_
  refine AllReadyH.cons (o := { dst := some 14, op := Op.call { callee := Callee.value (Operand.func 6), args := #[(Operand.tmp 13), Operand.const (Value.int IntKind.i64 600)], argTypes := #[24, 3] }, type := _, pos := _, after := _, guard := _ }) rfl (fun K9 hK9 => ?_) AllReadyH.nil
  go_simp
  go_at_call 6
  refine (cs0 _ (tr hg1 h0)).mono ?_
  rintro e _ ⟨rfl, rfl⟩
  go_wp2_with fail
  refine hK9.out _ _ h0 (fun _ => ?_)
  clear hK9 K9
  (try simp only [Act.put, List.setIfInBounds_toArray, List.set_cons_zero, List.set_cons_succ])
  refine wpAnyH_ready (rs := [5]) (by kernel_rfl) (by simp) ?_
  refine AllReadyH.cons (o := { dst := some 17, op := Op.call { callee := Callee.value (Operand.func 6), args := #[(Operand.tmp 16), Operand.const (Value.int IntKind.i64 200)], argTypes := #[24, 3] }, type := _, pos := _, after := _, guard := _ }) rfl (fun K9 hK9 => ?_) AllReadyH.nil
  go_simp
  go_at_call 6
  refine (cs1 _ (tr hg1 h0)).mono ?_
  rintro e _ ⟨rfl, rfl⟩
  go_wp2_with fail
  refine hK9.out _ _ h0 (fun _ => ?_)
  clear hK9 K9
  (try simp only [Act.put, List.setIfInBounds_toArray, List.set_cons_zero, List.set_cons_succ])
  refine wpAnyH_take (i := 6) (oi := { dst := some 7, op := Op.assign (Operand.tmp 14), type := _, pos := _, after := _, guard := _ }) (v := .slice a0 L c0) rfl (by kernel_rfl) (by kernel_rfl) (by kernel_rfl) (fun _ _ _ h => h) (Or.inl ⟨by rfl, fun V (hV : W1.grownBy V none) => by go_simp⟩) h0 ?_
  (try simp only [Act.put, List.setIfInBounds_toArray, List.set_cons_zero, List.set_cons_succ])
  refine wpAnyH_take (i := 7) (oi := { dst := some 8, op := Op.assign (Operand.tmp 17), type := _, pos := _, after := _, guard := _ }) (v := .slice a1 E c1) rfl (by kernel_rfl) (by kernel_rfl) (by kernel_rfl) (fun _ _ _ h => h) (Or.inl ⟨by rfl, fun V (hV : W1.grownBy V none) => by go_simp⟩) h0 ?_
  (try simp only [Act.put, List.setIfInBounds_toArray, List.set_cons_zero, List.set_cons_succ])
  refine wpAnyH_done (by kernel_rfl) ?_ _
  refine NoPanic.normal ?_
  go_upto_if 23 with fail
  go_cut [2] (fun v wx => v = .int .i64 (m : Int) ∧ wx = W1.drew)
  case first =>
    by_cases hjl : L < j
    · have e1 : m = L := by omega
      have q1 : (L : Int) < (j : Int) := by omega
      have E1 := hide e1
      clear hm e1
      go_wp2
      go_meet
      case rel => exact ⟨by rw [unhide E1], rfl⟩
    · have e1 : m = j := by omega
      have q1 : ¬ (L : Int) < (j : Int) := by omega
      have E1 := hide e1
      clear hm e1
      go_wp2
      go_meet
      case rel => exact ⟨by rw [unhide E1], rfl⟩
  case rest =>
    obtain ⟨rfl, rfl⟩ := hcut
    have g0 := tr hg1 h0
    clear hm hjz hj
    go_wp2_with (first
      | (refine wpList_load_row rfl 23 _ rfl w.heap.size rfl _ _ _ _ (unhide HK1') Tryd.underlying23 rfl ?_ ?_; (rw [unhide HSK]; exact hi32))
      | (refine wpList_built rfl 27 _ rfl (n.map bv).toArray ?_ ?_; (first | exact unhide HBN | (rw [unhide HNE]; kernel_rfl)))
      | (rw [unhide HKA]; go_at_call 7; refine (cSe _ g0).mono ?_; rintro e w2 ⟨so, cs, rfl, hB2, g2⟩; clear cSe))
    have G2 := tr h0 g2
    have hrK2 := range_kept hrK G2 (by simp)
    have h2 : w2.grownBy w2.drew none := gb_drew (gb_refl _ _)
    have GW2 := tr hg1 G2
    have HB2 := hide hB2
    clear hB2
    go_upto_region 6 with fail
    refine wp_region_noPanic ?_
    refine wp_region_held_drew (S := fun V => w2.grownBy V none) (by kernel_rfl) h2 (fun _ => ?_)
    refine wpAnyH_take (i := 0) (oi := { dst := some 31, op := Op.load 23 (Operand.tmp 3), type := _, pos := _, after := _, guard := _ }) (v := .agg (k.map bv).toArray) rfl (by kernel_rfl) (by kernel_rfl) (by kernel_rfl) (fun _ _ _ h => h) (yieldsIf_load_mid (by rfl) _ _ rfl _ _ rfl (k.map bv) _ (fun V hV => range_kept hrK2 hV (by simp)) Tryd.underlying23 rfl hiK) h2 ?_
    (try simp only [Act.put, List.setIfInBounds_toArray, List.set_cons_zero, List.set_cons_succ])
    refine wpAnyH_take (i := 1) (oi := { dst := some 32, op := Op.build 27 #[(0, Operand.const (Value.int IntKind.u8 9))], type := _, pos := _, after := _, guard := _ }) (v := .agg (n.map bv).toArray) rfl (by kernel_rfl) (by kernel_rfl) (by kernel_rfl) (fun _ _ _ h => h) (yieldsIf_built (by rfl) _ _ rfl _ (by first | exact unhide HBN | (rw [unhide HNE]; kernel_rfl))) h2 ?_
    (try simp only [Act.put, List.setIfInBounds_toArray, List.set_cons_zero, List.set_cons_succ])
    refine wpAnyH_take (i := 2) (oi := { dst := some 33, op := Op.move (Operand.tmp 7), type := _, pos := _, after := _, guard := _ }) (v := .slice a0 L c0) rfl (by kernel_rfl) (by kernel_rfl) (by kernel_rfl) (fun _ _ _ h => h) (Or.inl ⟨by rfl, fun V (hV : w2.grownBy V none) => by go_simp⟩) h2 ?_
    (try simp only [Act.put, List.setIfInBounds_toArray, List.set_cons_zero, List.set_cons_succ])
    refine wpAnyH_take (i := 3) (oi := { dst := some 34, op := Op.move (Operand.tmp 2), type := _, pos := _, after := _, guard := _ }) (v := .int .i64 (m : Int)) rfl (by kernel_rfl) (by kernel_rfl) (by kernel_rfl) (fun _ _ _ h => h) (Or.inl ⟨by rfl, fun V (hV : w2.grownBy V none) => by go_simp⟩) h2 ?_
    (try simp only [Act.put, List.setIfInBounds_toArray, List.set_cons_zero, List.set_cons_succ])
    refine wpAnyH_take (i := 4) (oi := { dst := some 35, op := Op.slice 24 (Operand.tmp 33) none (some (Operand.tmp 34)) none, type := _, pos := _, after := _, guard := _ }) (v := .slice a0 m c0) rfl (by kernel_rfl) (by kernel_rfl) (by kernel_rfl) (fun _ _ _ h => h) (Or.inl ⟨by rfl, fun V (hV : w2.grownBy V none) => by go_simp⟩) h2 ?_
    (try simp only [Act.put, List.setIfInBounds_toArray, List.set_cons_zero, List.set_cons_succ])
    refine wpAnyH_ready (rs := [5]) (by kernel_rfl) (by simp) ?_
    refine AllReadyH.cons (o := { dst := some 36, op := Op.call { callee := Callee.value (Operand.func 7), args := #[(Operand.tmp 31), (Operand.tmp 32), Operand.const (Value.slice none 0 0), (Operand.tmp 35)], argTypes := #[23, 27, 24, 24] }, type := _, pos := _, after := _, guard := _ }) rfl (fun K9 hK9 => ?_) AllReadyH.nil
    go_simp
    go_at_call 7
    refine (cSn _ (tr GW2 h2)).mono ?_
    rintro e w3 ⟨so2, cs2, rfl, hB3, g3⟩
    go_wp2_with fail
    refine hK9.out _ _ (tr h2 g3) (fun _ => ?_)
    clear hK9 K9
    (try simp only [Act.put, List.setIfInBounds_toArray, List.set_cons_zero, List.set_cons_succ])
    refine wpAnyH_take (i := 6) (oi := { dst := some 10, op := Op.assign (Operand.tmp 36), type := _, pos := _, after := _, guard := _ }) (v := .slice so2 (m + 16) cs2) rfl (by kernel_rfl) (by kernel_rfl) (by kernel_rfl) (fun _ _ _ h => h) (Or.inl ⟨by rfl, fun V (hV : w2.grownBy V none) => by go_simp⟩) (tr h2 g3) ?_
    (try simp only [Act.put, List.setIfInBounds_toArray, List.set_cons_zero, List.set_cons_succ])
    refine wpAnyH_done (by kernel_rfl) ?_ _
    refine NoPanic.normal ?_
    have G3 := tr G2 (tr h2 g3)
    have GW3 := tr hg1 G3
    have HK3 : Hid (w3.heap[w.heap.size]? = some (.cells KA 23 (0, 0))) := hide (by rw [G3.block _ (Array.getElem?_eq_some_iff.1 (unhide HK1')).1 (by simp)]; exact unhide HK1')
    have HB3 := hide hB3
    clear hB3
    go_wp2_with (first
      | (refine wpList_load_row rfl 23 _ rfl w.heap.size rfl _ _ _ _ (unhide HK3) Tryd.underlying23 rfl ?_ ?_; (rw [unhide HSK]; exact hi32))
      | (refine wpList_built rfl 27 _ rfl (n.map bv).toArray ?_ ?_; (first | exact unhide HBN | (rw [unhide HNE]; kernel_rfl)))
      | (rw [unhide HKA]; go_at_call 14; refine (cSt _ GW3).mono ?_; rintro e w4 ⟨p, rfl, hB4, g4⟩; clear cSt))
    have h4 : w4.grownBy w4.drew none := gb_drew (gb_refl _ _)
    have GW4 := tr GW3 g4
    have hy4 := (unhide HB2).kept (tr (tr h2 g3) g4) (fun _ e => by cases e)
    have hz4 := (unhide HB3).kept g4 (fun _ e => by cases e)
    have e1 := unhide HYL
    have e2 := unhide HY2L
    have fy := hy4.fits
    have fz := hz4.fits
    obtain ⟨s1, hs1⟩ : ∃ s, s = L + 16 := ⟨_, rfl⟩
    obtain ⟨s2, hs2⟩ : ∃ s, s = m + 16 := ⟨_, rfl⟩
    obtain ⟨P, hP⟩ : ∃ P, P = str (y.take m) := ⟨_, rfl⟩
    obtain ⟨Q, hQ⟩ : ∃ Q, Q = str x3 := ⟨_, rfl⟩
    have q1 : (L : Int) + 16 = (s1 : Int) := by omega
    have q2 : (m : Int) + 16 = (s2 : Int) := by omega
    have q3 : (m : Int) ≤ (s1 : Int) := by omega
    have q4 : IntKind.i64.wrap (s2 : Int) = (s2 : Int) := by rw [IntKind.wrap_i64]; omega
    have k1 : ∀ V, w4.grownBy V none → (convert 24 9 (.slice so m cs)).run Tryd.prog V = .ok (.string P) V := fun V gV => by
      have h := conv_str ((hy4.take m (by omega)).kept gV (fun _ e => by cases e))
      rw [show (y.take m).length = m by rw [List.length_take]; omega, ← hP] at h
      exact h
    have k2 : ∀ V, w4.grownBy V none → (convert 24 9 (.slice so2 m cs2)).run Tryd.prog V = .ok (.string P) V := fun V gV => by
      have h := conv_str ((hz4.take m (by omega)).kept gV (fun _ e => by cases e))
      rw [show (y2.take m).length = m by rw [List.length_take]; omega, unhide HPRE, ← hP] at h
      exact h
    have k3 : ∀ V, w4.grownBy V none → (convert 24 9 (.slice so L cs)).run Tryd.prog V = .ok (.string Q) V := fun V gV => by
      have h := conv_str ((hy4.take L (by omega)).kept gV (fun _ e => by cases e))
      rw [show (y.take L).length = L by rw [List.length_take]; omega, unhide HALL, ← hQ] at h
      exact h
    have k4 : ∀ V, w4.grownBy V none → (convert 24 9 (.slice (some ⟨p, 0, none⟩) L L)).run Tryd.prog V = .ok (.string Q) V := fun V gV => by
      have h := conv_str (hB4.kept gV (fun _ e => by cases e))
      rw [unhide HX3L, ← hQ] at h
      exact h
    have t1 : ∀ W, (Instr.slice 24 (.slice so s1 cs) none (some (.int .i64 (m : Int))) none).run Tryd.prog W = .ok (.slice so m cs) W := fun W => slice_to W _ _ Tryd.underlying24 size_byte so s1 cs m (by omega)
    have t2 : ∀ W, (Instr.slice 24 (.slice so2 s2 cs2) none (some (.int .i64 (m : Int))) none).run Tryd.prog W = .ok (.slice so2 m cs2) W := fun W => slice_to W _ _ Tryd.underlying24 size_byte so2 s2 cs2 m (by omega)
    have t3 : ∀ W, (Instr.slice 24 (.slice so s1 cs) none (some (.int .i64 (L : Int))) none).run Tryd.prog W = .ok (.slice so L cs) W := fun W => slice_to W _ _ Tryd.underlying24 size_byte so s1 cs L (by omega)
    rw [← hs1, ← hs2]
    clear hy4 hz4 hB4 e1 e2 fy fz hs1 hs2 hP hQ hrK hrK2 cs0 cs1 hc0 hc1
    go_upto_region 8 with fail
    refine wp_region_noPanic ?_
    refine wp_region_held_drew (S := fun V => w4.grownBy V none) (by kernel_rfl) h4 (fun _ => ?_)
    refine wpAnyH_take (i := 0) (oi := { dst := some 41, op := Op.move (Operand.tmp 9), type := _, pos := _, after := _, guard := _ }) (v := .slice so s1 cs) rfl (by kernel_rfl) (by kernel_rfl) (by kernel_rfl) (fun _ _ _ h => h) (Or.inl ⟨by rfl, fun V (hV : w4.grownBy V none) => by go_simp⟩) h4 ?_
    (try simp only [Act.put, List.setIfInBounds_toArray, List.set_cons_zero, List.set_cons_succ])
    refine wpAnyH_take (i := 1) (oi := { dst := some 42, op := Op.call { callee := Callee.builtin Builtin.len, args := #[(Operand.tmp 41)], argTypes := #[24] }, type := _, pos := _, after := _, guard := _ }) (v := .int .i64 ((s1 : Int))) rfl (by kernel_rfl) (by kernel_rfl) (by kernel_rfl) (fun _ _ _ h => h) (Or.inl ⟨by rfl, fun V (hV : w4.grownBy V none) => by go_simp⟩) h4 ?_
    (try simp only [Act.put, List.setIfInBounds_toArray, List.set_cons_zero, List.set_cons_succ])
    refine wpAnyH_take (i := 2) (oi := { dst := some 43, op := Op.move (Operand.tmp 2), type := _, pos := _, after := _, guard := _ }) (v := .int .i64 ((m : Int))) rfl (by kernel_rfl) (by kernel_rfl) (by kernel_rfl) (fun _ _ _ h => h) (Or.inl ⟨by rfl, fun V (hV : w4.grownBy V none) => by go_simp⟩) h4 ?_
    (try simp only [Act.put, List.setIfInBounds_toArray, List.set_cons_zero, List.set_cons_succ])
    refine wpAnyH_take (i := 3) (oi := { dst := some 44, op := Op.binOp BinOp.geq 3 (Operand.tmp 42) (Operand.tmp 43) 3, type := _, pos := _, after := _, guard := _ }) (v := .bool true) rfl (by kernel_rfl) (by kernel_rfl) (by kernel_rfl) (fun _ _ _ h => h) (Or.inl ⟨by rfl, fun V (hV : w4.grownBy V none) => by go_simp⟩) h4 ?_
    (try simp only [Act.put, List.setIfInBounds_toArray, List.set_cons_zero, List.set_cons_succ])
    refine wpAnyH_take (i := 4) (oi := { dst := some 45, op := Op.move (Operand.tmp 44), type := _, pos := _, after := _, guard := _ }) (v := .bool true) rfl (by kernel_rfl) (by kernel_rfl) (by kernel_rfl) (fun _ _ _ h => h) (Or.inl ⟨by rfl, fun V (hV : w4.grownBy V none) => by go_simp⟩) h4 ?_
    (try simp only [Act.put, List.setIfInBounds_toArray, List.set_cons_zero, List.set_cons_succ])
    refine wpAnyH_take (i := 5) (oi := { dst := some 46, op := Op.move (Operand.tmp 10), type := _, pos := _, after := _, guard := _ }) (v := .slice so2 s2 cs2) rfl (by kernel_rfl) (by kernel_rfl) (by kernel_rfl) (fun _ _ _ h => h) (Or.inl ⟨by rfl, fun V (hV : w4.grownBy V none) => by go_simp⟩) h4 ?_
    (try simp only [Act.put, List.setIfInBounds_toArray, List.set_cons_zero, List.set_cons_succ])
    refine wpAnyH_take (i := 6) (oi := { dst := some 47, op := Op.call { callee := Callee.builtin Builtin.len, args := #[(Operand.tmp 46)], argTypes := #[24] }, type := _, pos := _, after := _, guard := _ }) (v := .int .i64 ((s2 : Int))) rfl (by kernel_rfl) (by kernel_rfl) (by kernel_rfl) (fun _ _ _ h => h) (Or.inl ⟨by rfl, fun V (hV : w4.grownBy V none) => by go_simp⟩) h4 ?_
    (try simp only [Act.put, List.setIfInBounds_toArray, List.set_cons_zero, List.set_cons_succ])
    refine wpAnyH_take (i := 7) (oi := { dst := some 48, op := Op.move (Operand.tmp 2), type := _, pos := _, after := _, guard := _ }) (v := .int .i64 ((m : Int))) rfl (by kernel_rfl) (by kernel_rfl) (by kernel_rfl) (fun _ _ _ h => h) (Or.inl ⟨by rfl, fun V (hV : w4.grownBy V none) => by go_simp⟩) h4 ?_
    (try simp only [Act.put, List.setIfInBounds_toArray, List.set_cons_zero, List.set_cons_succ])
    refine wpAnyH_take (i := 8) (oi := { dst := some 49, op := Op.binOp BinOp.add 3 (Operand.tmp 48) (Operand.const (Value.int IntKind.i64 16)) 3, type := _, pos := _, after := _, guard := _ }) (v := .int .i64 ((s2 : Int))) rfl (by kernel_rfl) (by kernel_rfl) (by kernel_rfl) (fun _ _ _ h => h) (Or.inl ⟨by rfl, fun V (hV : w4.grownBy V none) => by go_simp⟩) h4 ?_
    (try simp only [Act.put, List.setIfInBounds_toArray, List.set_cons_zero, List.set_cons_succ])
    refine wpAnyH_take (i := 9) (oi := { dst := some 50, op := Op.binOp BinOp.eql 3 (Operand.tmp 47) (Operand.tmp 49) 3, type := _, pos := _, after := _, guard := _ }) (v := .bool true) rfl (by kernel_rfl) (by kernel_rfl) (by kernel_rfl) (fun _ _ _ h => h) (Or.inl ⟨by rfl, fun V (hV : w4.grownBy V none) => by go_simp⟩) h4 ?_
    (try simp only [Act.put, List.setIfInBounds_toArray, List.set_cons_zero, List.set_cons_succ])
    refine wpAnyH_take (i := 10) (oi := { dst := some 51, op := Op.pick (Operand.tmp 45) (Operand.tmp 50) (Operand.const (Value.bool false)), type := _, pos := _, after := _, guard := _ }) (v := .bool true) rfl (by kernel_rfl) (by kernel_rfl) (by kernel_rfl) (fun _ _ _ h => h) (Or.inl ⟨by rfl, fun V (hV : w4.grownBy V none) => by go_simp⟩) h4 ?_
    (try simp only [Act.put, List.setIfInBounds_toArray, List.set_cons_zero, List.set_cons_succ])
    refine wpAnyH_take (i := 11) (oi := { dst := some 52, op := Op.move (Operand.tmp 51), type := _, pos := _, after := _, guard := _ }) (v := .bool true) rfl (by kernel_rfl) (by kernel_rfl) (by kernel_rfl) (fun _ _ _ h => h) (Or.inl ⟨by rfl, fun V (hV : w4.grownBy V none) => by go_simp⟩) h4 ?_
    (try simp only [Act.put, List.setIfInBounds_toArray, List.set_cons_zero, List.set_cons_succ])
    refine wpAnyH_take (i := 12) (oi := { dst := some 53, op := Op.move (Operand.tmp 9), type := _, pos := _, after := _, guard := _ }) (v := .slice so s1 cs) rfl (by kernel_rfl) (by kernel_rfl) (by kernel_rfl) (fun _ _ _ h => h) (Or.inl ⟨by rfl, fun V (hV : w4.grownBy V none) => by go_simp⟩) h4 ?_
    (try simp only [Act.put, List.setIfInBounds_toArray, List.set_cons_zero, List.set_cons_succ])
    refine wpAnyH_take (i := 13) (oi := { dst := some 54, op := Op.move (Operand.tmp 2), type := _, pos := _, after := _, guard := _ }) (v := .int .i64 ((m : Int))) rfl (by kernel_rfl) (by kernel_rfl) (by kernel_rfl) (fun _ _ _ h => h) (Or.inl ⟨by rfl, fun V (hV : w4.grownBy V none) => by go_simp⟩) h4 ?_
    (try simp only [Act.put, List.setIfInBounds_toArray, List.set_cons_zero, List.set_cons_succ])
    refine wpAnyH_take (i := 14) (oi := { dst := some 55, op := Op.slice 24 (Operand.tmp 53) none (some (Operand.tmp 54)) none, type := _, pos := _, after := _, guard := _ }) (v := .slice so m cs) rfl (by kernel_rfl) (by kernel_rfl) (by kernel_rfl) (fun _ _ _ h => h) (Or.inl ⟨by rfl, fun V (hV : w4.grownBy V none) => by go_simp⟩) h4 ?_
    (try simp only [Act.put, List.setIfInBounds_toArray, List.set_cons_zero, List.set_cons_succ])
    refine wpAnyH_take (i := 15) (oi := { dst := some 56, op := Op.convert 24 9 (Operand.tmp 55), type := _, pos := _, after := _, guard := _ }) (v := .string P) rfl (by kernel_rfl) (by kernel_rfl) (by kernel_rfl) (fun _ _ _ h => h) (Or.inl ⟨by rfl, fun V (hV : w4.grownBy V none) => by go_simp⟩) h4 ?_
    (try simp only [Act.put, List.setIfInBounds_toArray, List.set_cons_zero, List.set_cons_succ])
    refine wpAnyH_take (i := 16) (oi := { dst := some 57, op := Op.move (Operand.tmp 10), type := _, pos := _, after := _, guard := _ }) (v := .slice so2 s2 cs2) rfl (by kernel_rfl) (by kernel_rfl) (by kernel_rfl) (fun _ _ _ h => h) (Or.inl ⟨by rfl, fun V (hV : w4.grownBy V none) => by go_simp⟩) h4 ?_
    (try simp only [Act.put, List.setIfInBounds_toArray, List.set_cons_zero, List.set_cons_succ])
    refine wpAnyH_take (i := 17) (oi := { dst := some 58, op := Op.move (Operand.tmp 2), type := _, pos := _, after := _, guard := _ }) (v := .int .i64 ((m : Int))) rfl (by kernel_rfl) (by kernel_rfl) (by kernel_rfl) (fun _ _ _ h => h) (Or.inl ⟨by rfl, fun V (hV : w4.grownBy V none) => by go_simp⟩) h4 ?_
    (try simp only [Act.put, List.setIfInBounds_toArray, List.set_cons_zero, List.set_cons_succ])
    refine wpAnyH_take (i := 18) (oi := { dst := some 59, op := Op.slice 24 (Operand.tmp 57) none (some (Operand.tmp 58)) none, type := _, pos := _, after := _, guard := _ }) (v := .slice so2 m cs2) rfl (by kernel_rfl) (by kernel_rfl) (by kernel_rfl) (fun _ _ _ h => h) (Or.inl ⟨by rfl, fun V (hV : w4.grownBy V none) => by go_simp⟩) h4 ?_
    (try simp only [Act.put, List.setIfInBounds_toArray, List.set_cons_zero, List.set_cons_succ])
    refine wpAnyH_take (i := 19) (oi := { dst := some 60, op := Op.convert 24 9 (Operand.tmp 59), type := _, pos := _, after := _, guard := _ }) (v := .string P) rfl (by kernel_rfl) (by kernel_rfl) (by kernel_rfl) (fun _ _ _ h => h) (Or.inl ⟨by rfl, fun V (hV : w4.grownBy V none) => by go_simp⟩) h4 ?_
    (try simp only [Act.put, List.setIfInBounds_toArray, List.set_cons_zero, List.set_cons_succ])
    refine wpAnyH_take (i := 20) (oi := { dst := some 61, op := Op.binOp BinOp.eql 9 (Operand.tmp 56) (Operand.tmp 60) 9, type := _, pos := _, after := _, guard := _ }) (v := .bool true) rfl (by kernel_rfl) (by kernel_rfl) (by kernel_rfl) (fun _ _ _ h => h) (Or.inl ⟨by rfl, fun V (hV : w4.grownBy V none) => by go_simp⟩) h4 ?_
    (try simp only [Act.put, List.setIfInBounds_toArray, List.set_cons_zero, List.set_cons_succ])
    refine wpAnyH_take (i := 21) (oi := { dst := some 62, op := Op.pick (Operand.tmp 52) (Operand.tmp 61) (Operand.const (Value.bool false)), type := _, pos := _, after := _, guard := _ }) (v := .bool true) rfl (by kernel_rfl) (by kernel_rfl) (by kernel_rfl) (fun _ _ _ h => h) (Or.inl ⟨by rfl, fun V (hV : w4.grownBy V none) => by go_simp⟩) h4 ?_
    (try simp only [Act.put, List.setIfInBounds_toArray, List.set_cons_zero, List.set_cons_succ])
    refine wpAnyH_take (i := 22) (oi := { dst := some 63, op := Op.move (Operand.tmp 62), type := _, pos := _, after := _, guard := _ }) (v := .bool true) rfl (by kernel_rfl) (by kernel_rfl) (by kernel_rfl) (fun _ _ _ h => h) (Or.inl ⟨by rfl, fun V (hV : w4.grownBy V none) => by go_simp⟩) h4 ?_
    (try simp only [Act.put, List.setIfInBounds_toArray, List.set_cons_zero, List.set_cons_succ])
    refine wpAnyH_take (i := 23) (oi := { dst := some 64, op := Op.move (Operand.tmp 9), type := _, pos := _, after := _, guard := _ }) (v := .slice so s1 cs) rfl (by kernel_rfl) (by kernel_rfl) (by kernel_rfl) (fun _ _ _ h => h) (Or.inl ⟨by rfl, fun V (hV : w4.grownBy V none) => by go_simp⟩) h4 ?_
    (try simp only [Act.put, List.setIfInBounds_toArray, List.set_cons_zero, List.set_cons_succ])
    refine wpAnyH_take (i := 24) (oi := { dst := some 65, op := Op.move (Operand.tmp 7), type := _, pos := _, after := _, guard := _ }) (v := .slice a0 L c0) rfl (by kernel_rfl) (by kernel_rfl) (by kernel_rfl) (fun _ _ _ h => h) (Or.inl ⟨by rfl, fun V (hV : w4.grownBy V none) => by go_simp⟩) h4 ?_
    (try simp only [Act.put, List.setIfInBounds_toArray, List.set_cons_zero, List.set_cons_succ])
    refine wpAnyH_take (i := 25) (oi := { dst := some 66, op := Op.call { callee := Callee.builtin Builtin.len, args := #[(Operand.tmp 65)], argTypes := #[24] }, type := _, pos := _, after := _, guard := _ }) (v := .int .i64 ((L : Int))) rfl (by kernel_rfl) (by kernel_rfl) (by kernel_rfl) (fun _ _ _ h => h) (Or.inl ⟨by rfl, fun V (hV : w4.grownBy V none) => by go_simp⟩) h4 ?_
    (try simp only [Act.put, List.setIfInBounds_toArray, List.set_cons_zero, List.set_cons_succ])
    refine wpAnyH_take (i := 26) (oi := { dst := some 67, op := Op.slice 24 (Operand.tmp 64) none (some (Operand.tmp 66)) none, type := _, pos := _, after := _, guard := _ }) (v := .slice so L cs) rfl (by kernel_rfl) (by kernel_rfl) (by kernel_rfl) (fun _ _ _ h => h) (Or.inl ⟨by rfl, fun V (hV : w4.grownBy V none) => by go_simp⟩) h4 ?_
    (try simp only [Act.put, List.setIfInBounds_toArray, List.set_cons_zero, List.set_cons_succ])
    refine wpAnyH_take (i := 27) (oi := { dst := some 68, op := Op.convert 24 9 (Operand.tmp 67), type := _, pos := _, after := _, guard := _ }) (v := .string Q) rfl (by kernel_rfl) (by kernel_rfl) (by kernel_rfl) (fun _ _ _ h => h) (Or.inl ⟨by rfl, fun V (hV : w4.grownBy V none) => by go_simp⟩) h4 ?_
    (try simp only [Act.put, List.setIfInBounds_toArray, List.set_cons_zero, List.set_cons_succ])
    refine wpAnyH_take (i := 28) (oi := { dst := some 69, op := Op.move (Operand.tmp 11), type := _, pos := _, after := _, guard := _ }) (v := .slice (some ⟨p, 0, none⟩) L L) rfl (by kernel_rfl) (by kernel_rfl) (by kernel_rfl) (fun _ _ _ h => h) (Or.inl ⟨by rfl, fun V (hV : w4.grownBy V none) => by go_simp⟩) h4 ?_
    (try simp only [Act.put, List.setIfInBounds_toArray, List.set_cons_zero, List.set_cons_succ])
    refine wpAnyH_take (i := 29) (oi := { dst := some 70, op := Op.convert 24 9 (Operand.tmp 69), type := _, pos := _, after := _, guard := _ }) (v := .string Q) rfl (by kernel_rfl) (by kernel_rfl) (by kernel_rfl) (fun _ _ _ h => h) (Or.inl ⟨by rfl, fun V (hV : w4.grownBy V none) => by go_simp⟩) h4 ?_
    (try simp only [Act.put, List.setIfInBounds_toArray, List.set_cons_zero, List.set_cons_succ])
    refine wpAnyH_take (i := 30) (oi := { dst := some 71, op := Op.binOp BinOp.eql 9 (Operand.tmp 68) (Operand.tmp 70) 9, type := _, pos := _, after := _, guard := _ }) (v := .bool true) rfl (by kernel_rfl) (by kernel_rfl) (by kernel_rfl) (fun _ _ _ h => h) (Or.inl ⟨by rfl, fun V (hV : w4.grownBy V none) => by go_simp⟩) h4 ?_
    (try simp only [Act.put, List.setIfInBounds_toArray, List.set_cons_zero, List.set_cons_succ])
    refine wpAnyH_take (i := 31) (oi := { dst := some 72, op := Op.pick (Operand.tmp 63) (Operand.tmp 71) (Operand.const (Value.bool false)), type := _, pos := _, after := _, guard := _ }) (v := .bool true) rfl (by kernel_rfl) (by kernel_rfl) (by kernel_rfl) (fun _ _ _ h => h) (Or.inl ⟨by rfl, fun V (hV : w4.grownBy V none) => by go_simp⟩) h4 ?_
    (try simp only [Act.put, List.setIfInBounds_toArray, List.set_cons_zero, List.set_cons_succ])
    refine wpAnyH_take (i := 32) (oi := { dst := some 73, op := Op.move (Operand.tmp 72), type := _, pos := _, after := _, guard := _ }) (v := .bool true) rfl (by kernel_rfl) (by kernel_rfl) (by kernel_rfl) (fun _ _ _ h => h) (Or.inl ⟨by rfl, fun V (hV : w4.grownBy V none) => by go_simp⟩) h4 ?_
    (try simp only [Act.put, List.setIfInBounds_toArray, List.set_cons_zero, List.set_cons_succ])
    refine wpAnyH_ready (rs := [33]) (by kernel_rfl) (by simp) ?_
    refine AllReadyH.cons (o := { dst := some 74, op := Op.call { callee := Callee.value (Operand.func 13), args := #[], argTypes := #[] }, type := _, pos := _, after := _, guard := _ }) rfl (fun K9 hK9 => ?_) AllReadyH.nil
    go_simp
    go_at_call 13
    refine (c1' _ (tr GW4 h4)).mono ?_
    rintro e w5 ⟨rfl, g5⟩
    go_wp2_with fail
    refine hK9.out _ _ (tr h4 g5) (fun _ => ?_)
    clear hK9 K9
    (try simp only [Act.put, List.setIfInBounds_toArray, List.set_cons_zero, List.set_cons_succ])
    refine wpAnyH_take (i := 34) (oi := { dst := some 75, op := Op.pick (Operand.tmp 73) (Operand.tmp 74) (Operand.const (Value.bool false)), type := _, pos := _, after := _, guard := _ }) (v := .bool true) rfl (by kernel_rfl) (by kernel_rfl) (by kernel_rfl) (fun _ _ _ h => h) (Or.inl ⟨by rfl, fun V (hV : w4.grownBy V none) => by go_simp⟩) (tr h4 g5) ?_
    (try simp only [Act.put, List.setIfInBounds_toArray, List.set_cons_zero, List.set_cons_succ])
    refine wpAnyH_take (i := 35) (oi := { dst := some 6, op := Op.assign (Operand.tmp 75), type := _, pos := _, after := _, guard := _ }) (v := .bool true) rfl (by kernel_rfl) (by kernel_rfl) (by kernel_rfl) (fun _ _ _ h => h) (Or.inl ⟨by rfl, fun V (hV : w4.grownBy V none) => by go_simp⟩) (tr h4 g5) ?_
    (try simp only [Act.put, List.setIfInBounds_toArray, List.set_cons_zero, List.set_cons_succ])
    refine wpAnyH_done (by kernel_rfl) ?_ _
    refine NoPanic.normal ?_
    go_wp2
    go_ret
    exact ⟨rfl, tr GW4 (tr h4 g5)⟩
end Go.Proofs.YtceiehkbhebnpaaDoor
