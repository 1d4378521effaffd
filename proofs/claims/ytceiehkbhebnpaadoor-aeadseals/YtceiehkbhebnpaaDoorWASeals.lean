/- AeadSeals' walk: whatever the key and the two texts, the call returns true and nothing that was in memory has changed; where the table holds what it is laid with, and by what layer 6's functions answer. -/
import Derived.Test.YtceiehkbhebnpaaDoorAOne
import Derived.Test.YtceiehkbhebnpaaDoorARefO
import Derived.Deep.DrawnRows
import Derived.Deep.MidRow
import Derived.Deep.CutBlock
namespace Go.Proofs.YtceiehkbhebnpaaDoor
open Go.RowKit
attribute [local go_sem ↓] Go.wp_at_zero Go.wp_at_succ

theorem built_nk (z : Int) : Tryd.prog.built 27 [(11, .int .u8 z)] = some #[.int .u8 0, .int .u8 0, .int .u8 0, .int .u8 0, .int .u8 0, .int .u8 0, .int .u8 0, .int .u8 0, .int .u8 0, .int .u8 0, .int .u8 0, .int .u8 z] := by kernel_rfl
def nK (x : UInt8) : List UInt8 := [0, 0, 0, 0, 0, 0, 0, 0, 0, 0, 0, x]
theorem zero12b (w : World) : (zeroValue 27).run Tryd.prog w = .ok (.agg ((List.replicate 12 (0 : UInt8)).map bv).toArray) w := by kernel_rfl

theorem new_tag (w2 : World) (Z : Array Value) (hZ : Z = (zer16b.map bv).toArray) (T : List UInt8) : ∃ W3, W3 = (w2.alloc (.cells Z 29)).setRow w2.heap.size (T.map bv).toArray ∧ Blk W3 w2.heap.size 29 (T.map bv) ∧ w2.grownBy W3 none := by
  refine ⟨_, rfl, ?_, gb_row (gb_alloc (gb_refl _ _) _) _ (Or.inl (Nat.le_refl _))⟩
  subst hZ
  exact (Blk.new w2 29 (zer16b.map bv)).row _

set_option maxRecDepth 100000 in
set_option maxHeartbeats 4000000 in
theorem aeadSeals_any (A : AeadC) (w : World) (k : List UInt8) (hk : k.length = 32) (a0 : Option Addr) (c0 : Nat) (l0 : List UInt8) (hb0 : Bts w a0 c0 l0) (a1 : Option Addr) (c1 : Nat) (l1 : List UInt8) (hb1 : Bts w a1 c1 l1) (hT : CTab w) :
    Calls Tryd.prog 3 #[.agg (k.map bv).toArray, .slice a0 l0.length c0, .slice a1 l1.length c1] w fun e w' => e = .returned (.bool true) ∧ w.grownBy w' none := by
  have tr : ∀ {x y z : World}, x.grownBy y none → y.grownBy z none → x.grownBy z none := fun h k => gb_trans h k (fun _ e => by cases e)
  have hi32 : (Tryd.prog.info? 23).map (·.size) = some 32 := by kernel_rfl
  have hi12 : (Tryd.prog.info? 27).map (·.size) = some 12 := by kernel_rfl
  have hi16 : (Tryd.prog.info? 29).map (·.size) = some 16 := by kernel_rfl
  obtain ⟨KA, hKA⟩ : ∃ A : Array Value, A = (k.map bv).toArray := ⟨_, rfl⟩
  have hsK : KA.size = 32 := by rw [hKA]; simp [hk]
  obtain ⟨x0, hx0⟩ : ∃ x, x = k.getD 0 0 := ⟨_, rfl⟩
  obtain ⟨n, hn⟩ : ∃ n, n = nK x0 := ⟨_, rfl⟩
  have hnl : n.length = 12 := by rw [hn]; rfl
  have hbn : Tryd.prog.built 27 [(11, .int .u8 ((x0.toNat : Nat) : Int))] = some (n.map bv).toArray := by rw [hn]; exact built_nk _
  have hsN : ((n.map bv).toArray).size = 12 := by simp [hnl]
  obtain ⟨be, hbe⟩ : ∃ t, t = l0.take 200 := ⟨_, rfl⟩
  obtain ⟨t, ht⟩ : ∃ t, t = l1.take 300 := ⟨_, rfl⟩
  have hbb : Bts w a0 c0 be := by rw [hbe]; exact hb0.short 200
  have hbt : Bts w a1 c1 t := by rw [ht]; exact hb1.short 300
  obtain ⟨L, hL⟩ : ∃ L, L = t.length := ⟨_, rfl⟩
  obtain ⟨E, hE⟩ : ∃ L, L = be.length := ⟨_, rfl⟩
  have hL6 : L ≤ 300 := by rw [hL, ht]; simp; omega
  have hE2 : E ≤ 200 := by rw [hE, hbe]; simp; omega
  obtain ⟨M0, hM0⟩ : ∃ m, m = l0.length := ⟨_, rfl⟩
  obtain ⟨M1, hM1⟩ : ∃ m, m = l1.length := ⟨_, rfl⟩
  have cs0 : ∀ V, w.grownBy V none → Calls Tryd.prog 6 #[.slice a0 M0 c0, .int .i64 200] V fun e w' => e = .returned (.slice a0 E c0) ∧ w' = V := fun V gV => by
    have h := short6_any V a0 c0 l0 (hb0.kept gV (fun _ e => by cases e)) 200
    rw [← hM0, ← hbe, ← hE] at h
    exact h
  have cs1 : ∀ V, w.grownBy V none → Calls Tryd.prog 6 #[.slice a1 M1 c1, .int .i64 300] V fun e w' => e = .returned (.slice a1 L c1) ∧ w' = V := fun V gV => by
    have h := short6_any V a1 c1 l1 (hb1.kept gV (fun _ e => by cases e)) 300
    rw [← hM1, ← ht, ← hL] at h
    exact h
  obtain ⟨Y, hY⟩ : ∃ A : Array Value, A = ((List.replicate 12 (0 : UInt8)).map bv).toArray := ⟨_, rfl⟩
  have hyz := zero12b
  rw [← hY] at hyz
  obtain ⟨Z, hZ⟩ : ∃ A : Array Value, A = (zer16b.map bv).toArray := ⟨_, rfl⟩
  have hz : ∀ w : World, (zeroValue 29).run Tryd.prog w = .ok (.agg Z) w := by rw [hZ]; exact zero16b
  obtain ⟨W1, hW1⟩ : ∃ W1, W1 = w.alloc (.cells KA 23) := ⟨_, rfl⟩
  have hs1 : W1.heap.size = w.heap.size + 1 := by rw [hW1, World.size_alloc]
  have hg1 : w.grownBy W1 none := by rw [hW1]; exact gb_alloc (gb_refl _ _) _
  have hK1 : Blk W1 w.heap.size 23 (k.map bv) := by rw [hW1, hKA]; exact Blk.new w 23 _
  have hc0 : W1.cell? ⟨w.heap.size, 0, none⟩ = some (.int .u8 ((x0.toNat : Nat) : Int)) := by
    rw [hK1.cell, List.getElem?_map, List.getElem?_eq_getElem (by omega), hx0]
    simp [List.getD, show 0 < k.length by omega, bv]
  obtain ⟨W2, hW2⟩ : ∃ W2, W2 = W1.alloc (.cells Y 27) := ⟨_, rfl⟩
  have hY2 : Blk W2 (w.heap.size + 1) 27 ((List.replicate 12 (0 : UInt8)).map bv) := by
    have := Blk.new W1 27 ((List.replicate 12 (0 : UInt8)).map bv)
    rw [hs1] at this
    rw [hW2, hY]; exact this
  obtain ⟨W3, hW3⟩ : ∃ W3, W3 = W2.setRow (w.heap.size + 1) (n.map bv).toArray := ⟨_, rfl⟩
  have hN3 : Blk W3 (w.heap.size + 1) 27 (n.map bv) := by rw [hW3]; exact hY2.row _
  have hK3 : Blk W3 w.heap.size 23 (k.map bv) := by rw [hW3, hW2]; exact (hK1.alloc _).row_other _ _ (by omega)
  have hg3 : w.grownBy W3 none := by rw [hW3, hW2]; exact gb_row (gb_alloc hg1 _) _ (Or.inl (by omega))
  obtain ⟨y, hy⟩ : ∃ y, y = sealL k n be t := ⟨_, rfl⟩
  obtain ⟨N, hN⟩ : ∃ N, N = y.length := ⟨_, rfl⟩
  obtain ⟨T, hTg⟩ : ∃ T, T = tagA k n be t := ⟨_, rfl⟩
  have hTl : T.length = 16 := by rw [hTg]; exact tagA_length _ _ _ _
  have hsT : ((T.map bv).toArray).size = 16 := by simp [hTl]
  obtain ⟨o, ho⟩ : ∃ o, o = openL k n be t := ⟨_, rfl⟩
  obtain ⟨D, hD⟩ : ∃ D, D = o.length := ⟨_, rfl⟩
  obtain ⟨ob, hob⟩ : ∃ b, b = openB k n be t := ⟨_, rfl⟩
  have cSe : ∀ V, w.grownBy V none → Calls Tryd.prog 7 #[.agg (k.map bv).toArray, .agg (n.map bv).toArray, .slice a0 E c0, .slice a1 L c1] V fun e w' => ∃ so cs, e = .returned (.slice so N cs) ∧ Bts w' so cs y ∧ V.grownBy w' none := fun V gV => by
    have h := A.sealed V k n be t a0 a1 c0 c1 hk hnl (hbb.kept gV (fun _ e => by cases e)) (hbt.kept gV (fun _ e => by cases e)) (by omega) (by omega) (hT.kept0 gV)
    rw [← hE, ← hL, ← hy] at h
    exact h.mono fun e w' ⟨v, he, ⟨so, cs, hv, hB, _⟩, hg⟩ => ⟨so, cs, by rw [he, hv, hN], hB, hg⟩
  have cTg : ∀ V, w.grownBy V none → Calls Tryd.prog 8 #[.agg (k.map bv).toArray, .agg (n.map bv).toArray, .slice a0 E c0, .slice a1 L c1] V fun e w' => e = .returned (.agg (T.map bv).toArray) ∧ V.grownBy w' none := fun V gV => by
    have h := A.tag V k n be t a0 a1 c0 c1 hk hnl (hbb.kept gV (fun _ e => by cases e)) (hbt.kept gV (fun _ e => by cases e)) (by omega) (by omega) (hT.kept0 gV)
    rw [← hE, ← hL, ← hTg] at h
    exact h
  have cOp : ∀ V, w.grownBy V none → Calls Tryd.prog 9 #[.agg (k.map bv).toArray, .agg (n.map bv).toArray, .slice a0 E c0, .slice a1 L c1] V fun e w' => ∃ bo cb, e = .returned (.tuple #[.slice bo D cb, .bool ob]) ∧ Bts w' bo cb o ∧ V.grownBy w' none := fun V gV => by
    have h := A.opened V k n be t a0 a1 c0 c1 hk hnl (hbb.kept gV (fun _ e => by cases e)) (hbt.kept gV (fun _ e => by cases e)) (by omega) (by omega) (hT.kept0 gV)
    rw [← hE, ← hL, ← ho, ← hob] at h
    exact h.mono fun e w' ⟨v, he, ⟨bo, cb, hv, hB, _⟩, hg⟩ => ⟨bo, cb, by rw [he, hv, hD], hB, hg⟩
  obtain ⟨sK, hsKs⟩ : ∃ s, s = str k := ⟨_, rfl⟩
  obtain ⟨sN, hsNs⟩ : ∃ s, s = str n := ⟨_, rfl⟩
  obtain ⟨sB, hsBs⟩ : ∃ s, s = str be := ⟨_, rfl⟩
  obtain ⟨sX, hsXs⟩ : ∃ s, s = str t := ⟨_, rfl⟩
  obtain ⟨sY, hsYs⟩ : ∃ s, s = str y := ⟨_, rfl⟩
  obtain ⟨sT, hsTs⟩ : ∃ s, s = str T := ⟨_, rfl⟩
  obtain ⟨sO, hsOs⟩ : ∃ s, s = str o := ⟨_, rfl⟩
  have rSe : ∀ V, Calls Tryd.prog 11 #[.string sK, .string sN, .string sB, .string sX] V fun e w' => e = .returned (.string sY) ∧ V.grownBy w' none := fun V => by
    rw [hsKs, hsNs, hsBs, hsXs, hsYs, hy]; exact rseal6_any V k n be t hk hnl (by omega) (by omega)
  have rTg : ∀ V, Calls Tryd.prog 12 #[.string sK, .string sN, .string sB, .string sX] V fun e w' => e = .returned (.string sT) ∧ V.grownBy w' none := fun V => by
    rw [hsKs, hsNs, hsBs, hsXs, hsTs, hTg]; exact rtag6_any V k n be t hk hnl (by omega) (by omega)
  have rOp : ∀ V, Calls Tryd.prog 10 #[.string sK, .string sN, .string sB, .string sX] V fun e w' => e = .returned (.tuple #[.string sO, .bool ob]) ∧ V.grownBy w' none := fun V => by
    rw [hsKs, hsNs, hsBs, hsXs, hsOs, ho, hob]; exact ropen6_any V k n be t hk hnl (by omega) (by omega)
  have vK : ∀ V, W3.grownBy V none → (convert 24 9 (.slice (some ⟨w.heap.size, 0, none⟩) 32 32)).run Tryd.prog V = .ok (.string sK) V := fun V gV => by
    have h := conv_str (blk_bytes (hK3.kept gV (by simp)) 32 (by omega) (by decide)); rw [hk, ← hsKs] at h; exact h
  have vN : ∀ V, W3.grownBy V none → (convert 24 9 (.slice (some ⟨w.heap.size + 1, 0, none⟩) 12 12)).run Tryd.prog V = .ok (.string sN) V := fun V gV => by
    have h := conv_str (blk_bytes (hN3.kept gV (by simp)) 12 (by omega) (by decide)); rw [hnl, ← hsNs] at h; exact h
  have vB : ∀ V, W3.grownBy V none → (convert 24 9 (.slice a0 E c0)).run Tryd.prog V = .ok (.string sB) V := fun V gV => by
    have h := conv_str (hbb.kept (tr hg3 gV) (fun _ e => by cases e)); rw [← hE, ← hsBs] at h; exact h
  have vX : ∀ V, W3.grownBy V none → (convert 24 9 (.slice a1 L c1)).run Tryd.prog V = .ok (.string sX) V := fun V gV => by
    have h := conv_str (hbt.kept (tr hg3 gV) (fun _ e => by cases e)); rw [← hL, ← hsXs] at h; exact h
  have slK : ∀ W, (Instr.sliceAt 23 (.pointer (some ⟨w.heap.size, 0, none⟩)) none none none).run Tryd.prog W = .ok (.slice (some ⟨w.heap.size, 0, none⟩) 32 32) W := fun W => slice_whole5 23 5 32 Tryd.underlying23 size_byte w.heap.size 0 (by omega) W
  have slN : ∀ W, (Instr.sliceAt 27 (.pointer (some ⟨w.heap.size + 1, 0, none⟩)) none none none).run Tryd.prog W = .ok (.slice (some ⟨w.heap.size + 1, 0, none⟩) 12 12) W := fun W => slice_whole5 27 5 12 Tryd.underlying27 size_byte (w.heap.size + 1) 0 (by omega) W
  have slT : ∀ (p : Nat) (W : World), (Instr.sliceAt 29 (.pointer (some ⟨p, 0, none⟩)) none none none).run Tryd.prog W = .ok (.slice (some ⟨p, 0, none⟩) 16 16) W := fun p W => slice_whole5 29 5 16 Tryd.underlying29 size_byte p 0 (by omega) W
  have c1' : ∀ V, w.grownBy V none → Calls Tryd.prog 13 #[] V fun e w' => e = .returned (.bool true) ∧ V.grownBy w' none := fun V gV => aone_any A V (hT.kept0 gV)
  rw [← hKA, ← hM0, ← hM1]
  have kb : ∀ V, W3.grownBy V none → V.heap[w.heap.size]? = some (.cells KA 23 (0, 0)) := fun V gV => by rw [hKA]; exact hK3.kept gV (by simp)
  have nb : ∀ V, W3.grownBy V none → V.heap[w.heap.size + 1]? = some (.cells (n.map bv).toArray 27 (0, 0)) := fun V gV => hN3.kept gV (by simp)
  have HKB := hide kb
  have HNB := hide nb
  have HSK := hide hsK
  have HSN := hide hsN
  have HST := hide hsT
  have HKA := hide hKA
  have HBN := hide hbn
  have HNE := hide hn
  have HW1 := hide hW1
  have HW2 := hide hW2
  have HW3 := hide hW3
  have HY2 := hide hY2
  have HZ := hide hZ
  have HG3 := hide hg3
  have HNN := hide hN
  have HDD := hide hD
  have HTL := hide hTl
  have HSY := hide hsYs
  have HSO := hide hsOs
  have HSTs := hide hsTs
  clear hKA hsK hn hnl hbn hsN hbe ht hbb hbt hL hE hM0 hM1 hY hZ hW1 hK1 hW2 hY2 hW3 hN3 hK3 hg3 hy hN hTg hTl hsT ho hD hob hsKs hsNs hsBs hsXs hsYs hsTs hsOs kb nb hb0 hb1 hT hk hx0 A
  go_enter Tryd.func3, Tryd.ntmps3
  go_wp2_with (first
    | (rw [← unhide HW1]; go_at_call 6; refine (cs0 _ hg1).mono ?_; rintro e _ ⟨rfl, rfl⟩; clear cs0)
    | (go_at_call 6; refine (cs1 _ hg1).mono ?_; rintro e _ ⟨rfl, rfl⟩; clear cs1)
    | (refine wpList_built rfl 27 _ rfl (n.map bv).toArray ?_ ?_; (first | exact unhide HBN | (rw [unhide HNE]; kernel_rfl)))
    | (rw [← unhide HW2]; refine wpList_store_row rfl 27 _ _ rfl (w.heap.size + 1) _ rfl rfl _ _ (unhide HY2) ?_ ?_ ?_ ?_; (rw [unhide HSN]; exact hi12); (rw [unhide HSN]; rfl); (exact all_oneCell_toArray (bv_one _)); rw [← unhide HW3]; clear HY2 HW2; have gg := gb_refl W3 none)
    | (refine wpList_load_row rfl 23 _ rfl w.heap.size rfl _ _ _ _ (unhide HKB _ gg) Tryd.underlying23 rfl ?_ ?_; (rw [unhide HSK]; exact hi32))
    | (refine wpList_load_row rfl 27 _ rfl (w.heap.size + 1) rfl _ _ _ _ (unhide HNB _ gg) Tryd.underlying27 rfl ?_ ?_; (rw [unhide HSN]; exact hi12))
    | (rw [unhide HKA]; go_at_call 7; refine (cSe _ (tr (unhide HG3) gg)).mono ?_; rintro e w4 ⟨so, cs, rfl, hB4, g4⟩; clear cSe; have hg4 := tr gg g4; clear gg; have gg := hg4; clear hg4; rw [← unhide HKA]))
  rw [unhide HKA]
  refine (cTg _ (tr (unhide HG3) gg)).mono ?_
  rintro e w5 ⟨rfl, g5⟩
  rw [← unhide HKA]
  have gg5 := tr gg g5
  go_wp2_with (first
    | (refine wpList_store_row rfl 29 _ _ rfl w5.heap.size _ rfl rfl _ _ (heap_alloc_new w5 (.cells Z 29)) ?_ ?_ ?_ ?_; (rw [unhide HST]; exact hi16); (rw [unhide HST, unhide HZ]; rfl); (exact all_oneCell_toArray (bv_one _)); obtain ⟨W6, hW6, hT6, g6⟩ := new_tag w5 Z (unhide HZ) T; rw [← hW6]; clear hW6; have gg6 := tr gg5 g6; have HT6 := hide hT6; clear hT6)
    | (refine wpList_load_row rfl 23 _ rfl w.heap.size rfl _ _ _ _ (unhide HKB _ gg6) Tryd.underlying23 rfl ?_ ?_; (rw [unhide HSK]; exact hi32))
    | (refine wpList_load_row rfl 27 _ rfl (w.heap.size + 1) rfl _ _ _ _ (unhide HNB _ gg6) Tryd.underlying27 rfl ?_ ?_; (rw [unhide HSN]; exact hi12))
    | (rw [unhide HKA]; go_at_call 9; refine (cOp _ (tr (unhide HG3) gg6)).mono ?_; rintro e w7 ⟨bo, cb, rfl, hB7, g7⟩; clear cOp; rw [← unhide HKA]))
  have gg7 := tr gg6 g7
  have h7 : w7.grownBy w7.drew none := gb_drew (gb_refl _ _)
  have hv7 : ∀ V, w7.grownBy V none → W3.grownBy V none := fun V gV => tr gg7 gV
  have HB4 := hide hB4
  have HB7 := hide hB7
  clear hB4 hB7
  go_upto_region 6 with fail
  refine wp_region_noPanic ?_
  refine wp_region_held_drew (S := fun V => w7.grownBy V none) (by kernel_rfl) h7 (fun _ => ?_)
  refine wpAnyH_take (i := 0) (oi := { dst := some 40, op := Op.slice 23 (Operand.tmp 3) none none none, type := _, pos := _, after := _, guard := _ }) (v := .slice (some ⟨w.heap.size, 0, none⟩) 32 32) rfl (by kernel_rfl) (by kernel_rfl) (by kernel_rfl) (fun _ _ _ h => h) (Or.inl ⟨by rfl, fun V (hV : w7.grownBy V none) => by go_simp⟩) h7 ?_
  (try simp only [Act.put, List.setIfInBounds_toArray, List.set_cons_zero, List.set_cons_succ])
  refine wpAnyH_take (i := 1) (oi := { dst := some 41, op := Op.convert 24 9 (Operand.tmp 40), type := _, pos := _, after := _, guard := _ }) (v := .string sK) rfl (by kernel_rfl) (by kernel_rfl) (by kernel_rfl) (fun _ _ _ h => h) (Or.inl ⟨by rfl, fun V (hV : w7.grownBy V none) => by (have hv9 := hv7 V hV; go_simp)⟩) h7 ?_
  (try simp only [Act.put, List.setIfInBounds_toArray, List.set_cons_zero, List.set_cons_succ])
  refine wpAnyH_take (i := 2) (oi := { dst := some 42, op := Op.slice 27 (Operand.tmp 7) none none none, type := _, pos := _, after := _, guard := _ }) (v := .slice (some ⟨w.heap.size + 1, 0, none⟩) 12 12) rfl (by kernel_rfl) (by kernel_rfl) (by kernel_rfl) (fun _ _ _ h => h) (Or.inl ⟨by rfl, fun V (hV : w7.grownBy V none) => by go_simp⟩) h7 ?_
  (try simp only [Act.put, List.setIfInBounds_toArray, List.set_cons_zero, List.set_cons_succ])
  refine wpAnyH_take (i := 3) (oi := { dst := some 43, op := Op.convert 24 9 (Operand.tmp 42), type := _, pos := _, after := _, guard := _ }) (v := .string sN) rfl (by kernel_rfl) (by kernel_rfl) (by kernel_rfl) (fun _ _ _ h => h) (Or.inl ⟨by rfl, fun V (hV : w7.grownBy V none) => by (have hv9 := hv7 V hV; go_simp)⟩) h7 ?_
  (try simp only [Act.put, List.setIfInBounds_toArray, List.set_cons_zero, List.set_cons_succ])
  refine wpAnyH_take (i := 4) (oi := { dst := some 44, op := Op.move (Operand.tmp 1), type := _, pos := _, after := _, guard := _ }) (v := .slice a0 E c0) rfl (by kernel_rfl) (by kernel_rfl) (by kernel_rfl) (fun _ _ _ h => h) (Or.inl ⟨by rfl, fun V (hV : w7.grownBy V none) => by go_simp⟩) h7 ?_
  (try simp only [Act.put, List.setIfInBounds_toArray, List.set_cons_zero, List.set_cons_succ])
  refine wpAnyH_take (i := 5) (oi := { dst := some 45, op := Op.convert 24 9 (Operand.tmp 44), type := _, pos := _, after := _, guard := _ }) (v := .string sB) rfl (by kernel_rfl) (by kernel_rfl) (by kernel_rfl) (fun _ _ _ h => h) (Or.inl ⟨by rfl, fun V (hV : w7.grownBy V none) => by (have hv9 := hv7 V hV; go_simp)⟩) h7 ?_
  (try simp only [Act.put, List.setIfInBounds_toArray, List.set_cons_zero, List.set_cons_succ])
  refine wpAnyH_take (i := 6) (oi := { dst := some 46, op := Op.move (Operand.tmp 2), type := _, pos := _, after := _, guard := _ }) (v := .slice a1 L c1) rfl (by kernel_rfl) (by kernel_rfl) (by kernel_rfl) (fun _ _ _ h => h) (Or.inl ⟨by rfl, fun V (hV : w7.grownBy V none) => by go_simp⟩) h7 ?_
  (try simp only [Act.put, List.setIfInBounds_toArray, List.set_cons_zero, List.set_cons_succ])
  refine wpAnyH_take (i := 7) (oi := { dst := some 47, op := Op.convert 24 9 (Operand.tmp 46), type := _, pos := _, after := _, guard := _ }) (v := .string sX) rfl (by kernel_rfl) (by kernel_rfl) (by kernel_rfl) (fun _ _ _ h => h) (Or.inl ⟨by rfl, fun V (hV : w7.grownBy V none) => by (have hv9 := hv7 V hV; go_simp)⟩) h7 ?_
  (try simp only [Act.put, List.setIfInBounds_toArray, List.set_cons_zero, List.set_cons_succ])
  refine wpAnyH_ready (rs := [8]) (by kernel_rfl) (by simp) ?_
  refine AllReadyH.cons (o := { dst := some 48, op := Op.call { callee := Callee.value (Operand.func 10), args := #[(Operand.tmp 41), (Operand.tmp 43), (Operand.tmp 45), (Operand.tmp 47)], argTypes := #[9, 9, 9, 9] }, type := _, pos := _, after := _, guard := _ }) rfl (fun K9 hK9 => ?_) AllReadyH.nil
  go_simp
  go_at_call 10
  refine (rOp _).mono ?_
  rintro e w8 ⟨rfl, g8⟩
  go_wp2_with fail
  refine hK9.out _ _ (tr h7 g8) (fun _ => ?_)
  clear hK9 K9
  (try simp only [Act.put, List.setIfInBounds_toArray, List.set_cons_zero, List.set_cons_succ])
  refine wpAnyH_take (i := 9) (oi := { dst := some 39, op := Op.move (Operand.tmp 48), type := _, pos := _, after := _, guard := _ }) (v := .tuple #[.string sO, .bool ob]) rfl (by kernel_rfl) (by kernel_rfl) (by kernel_rfl) (fun _ _ _ h => h) (Or.inl ⟨by rfl, fun V (hV : w7.grownBy V none) => by go_simp⟩) (tr h7 g8) ?_
  (try simp only [Act.put, List.setIfInBounds_toArray, List.set_cons_zero, List.set_cons_succ])
  refine wpAnyH_take (i := 10) (oi := { dst := some 49, op := Op.extract (Operand.tmp 39) 0, type := _, pos := _, after := _, guard := _ }) (v := .string sO) rfl (by kernel_rfl) (by kernel_rfl) (by kernel_rfl) (fun _ _ _ h => h) (Or.inl ⟨by rfl, fun V (hV : w7.grownBy V none) => by go_simp⟩) (tr h7 g8) ?_
  (try simp only [Act.put, List.setIfInBounds_toArray, List.set_cons_zero, List.set_cons_succ])
  refine wpAnyH_take (i := 11) (oi := { dst := some 50, op := Op.extract (Operand.tmp 39) 1, type := _, pos := _, after := _, guard := _ }) (v := .bool ob) rfl (by kernel_rfl) (by kernel_rfl) (by kernel_rfl) (fun _ _ _ h => h) (Or.inl ⟨by rfl, fun V (hV : w7.grownBy V none) => by go_simp⟩) (tr h7 g8) ?_
  (try simp only [Act.put, List.setIfInBounds_toArray, List.set_cons_zero, List.set_cons_succ])
  refine wpAnyH_take (i := 12) (oi := { dst := some 12, op := Op.assign (Operand.tmp 49), type := _, pos := _, after := _, guard := _ }) (v := .string sO) rfl (by kernel_rfl) (by kernel_rfl) (by kernel_rfl) (fun _ _ _ h => h) (Or.inl ⟨by rfl, fun V (hV : w7.grownBy V none) => by go_simp⟩) (tr h7 g8) ?_
  (try simp only [Act.put, List.setIfInBounds_toArray, List.set_cons_zero, List.set_cons_succ])
  refine wpAnyH_take (i := 13) (oi := { dst := some 13, op := Op.assign (Operand.tmp 50), type := _, pos := _, after := _, guard := _ }) (v := .bool ob) rfl (by kernel_rfl) (by kernel_rfl) (by kernel_rfl) (fun _ _ _ h => h) (Or.inl ⟨by rfl, fun V (hV : w7.grownBy V none) => by go_simp⟩) (tr h7 g8) ?_
  (try simp only [Act.put, List.setIfInBounds_toArray, List.set_cons_zero, List.set_cons_succ])
  refine wpAnyH_done (by kernel_rfl) ?_ _
  refine NoPanic.normal ?_
  have h8 : w8.grownBy w8.drew none := gb_drew (gb_refl _ _)
  have gg8 := tr gg7 (tr h7 g8)
  have hv8 : ∀ V, w8.grownBy V none → W3.grownBy V none := fun V gV => tr gg8 gV
  have vY : ∀ V, w8.grownBy V none → (convert 24 9 (.slice so N cs)).run Tryd.prog V = .ok (.string sY) V := fun V gV => by
    have h := conv_str ((unhide HB4).kept (tr g5 (tr g6 (tr g7 (tr h7 (tr g8 gV))))) (fun _ e => by cases e)); rw [← unhide HNN, ← unhide HSY] at h; exact h
  have vT : ∀ V, w8.grownBy V none → (convert 24 9 (.slice (some ⟨w5.heap.size, 0, none⟩) 16 16)).run Tryd.prog V = .ok (.string sT) V := fun V gV => by
    have h := conv_str (blk_bytes ((unhide HT6).kept (tr g7 (tr h7 (tr g8 gV))) (by simp)) 16 (by rw [unhide HTL]; omega) (by decide)); rw [unhide HTL, ← unhide HSTs] at h; exact h
  have vO : ∀ V, w8.grownBy V none → (convert 24 9 (.slice bo D cb)).run Tryd.prog V = .ok (.string sO) V := fun V gV => by
    have h := conv_str ((unhide HB7).kept (tr h7 (tr g8 gV)) (fun _ e => by cases e)); rw [← unhide HDD, ← unhide HSO] at h; exact h
  have vK8 := fun V gV => vK V (hv8 V gV)
  have vN8 := fun V gV => vN V (hv8 V gV)
  have vB8 := fun V gV => vB V (hv8 V gV)
  have vX8 := fun V gV => vX V (hv8 V gV)
  clear vK vN vB vX hv7 hv8 hc0
  go_upto_region 7 with fail
  refine wp_region_noPanic ?_
  refine wp_region_held_drew (S := fun V => w8.grownBy V none) (by kernel_rfl) h8 (fun _ => ?_)
  refine wpAnyH_take (i := 0) (oi := { dst := some 51, op := Op.move (Operand.tmp 8), type := _, pos := _, after := _, guard := _ }) (v := .slice so N cs) rfl (by kernel_rfl) (by kernel_rfl) (by kernel_rfl) (fun _ _ _ h => h) (Or.inl ⟨by rfl, fun V (hV : w8.grownBy V none) => by go_simp⟩) h8 ?_
  (try simp only [Act.put, List.setIfInBounds_toArray, List.set_cons_zero, List.set_cons_succ])
  refine wpAnyH_take (i := 1) (oi := { dst := some 52, op := Op.convert 24 9 (Operand.tmp 51), type := _, pos := _, after := _, guard := _ }) (v := .string sY) rfl (by kernel_rfl) (by kernel_rfl) (by kernel_rfl) (fun _ _ _ h => h) (Or.inl ⟨by rfl, fun V (hV : w8.grownBy V none) => by go_simp⟩) h8 ?_
  (try simp only [Act.put, List.setIfInBounds_toArray, List.set_cons_zero, List.set_cons_succ])
  refine wpAnyH_take (i := 2) (oi := { dst := some 53, op := Op.slice 23 (Operand.tmp 3) none none none, type := _, pos := _, after := _, guard := _ }) (v := .slice (some ⟨w.heap.size, 0, none⟩) 32 32) rfl (by kernel_rfl) (by kernel_rfl) (by kernel_rfl) (fun _ _ _ h => h) (Or.inl ⟨by rfl, fun V (hV : w8.grownBy V none) => by go_simp⟩) h8 ?_
  (try simp only [Act.put, List.setIfInBounds_toArray, List.set_cons_zero, List.set_cons_succ])
  refine wpAnyH_take (i := 3) (oi := { dst := some 54, op := Op.convert 24 9 (Operand.tmp 53), type := _, pos := _, after := _, guard := _ }) (v := .string sK) rfl (by kernel_rfl) (by kernel_rfl) (by kernel_rfl) (fun _ _ _ h => h) (Or.inl ⟨by rfl, fun V (hV : w8.grownBy V none) => by go_simp⟩) h8 ?_
  (try simp only [Act.put, List.setIfInBounds_toArray, List.set_cons_zero, List.set_cons_succ])
  refine wpAnyH_take (i := 4) (oi := { dst := some 55, op := Op.slice 27 (Operand.tmp 7) none none none, type := _, pos := _, after := _, guard := _ }) (v := .slice (some ⟨w.heap.size + 1, 0, none⟩) 12 12) rfl (by kernel_rfl) (by kernel_rfl) (by kernel_rfl) (fun _ _ _ h => h) (Or.inl ⟨by rfl, fun V (hV : w8.grownBy V none) => by go_simp⟩) h8 ?_
  (try simp only [Act.put, List.setIfInBounds_toArray, List.set_cons_zero, List.set_cons_succ])
  refine wpAnyH_take (i := 5) (oi := { dst := some 56, op := Op.convert 24 9 (Operand.tmp 55), type := _, pos := _, after := _, guard := _ }) (v := .string sN) rfl (by kernel_rfl) (by kernel_rfl) (by kernel_rfl) (fun _ _ _ h => h) (Or.inl ⟨by rfl, fun V (hV : w8.grownBy V none) => by go_simp⟩) h8 ?_
  (try simp only [Act.put, List.setIfInBounds_toArray, List.set_cons_zero, List.set_cons_succ])
  refine wpAnyH_take (i := 6) (oi := { dst := some 57, op := Op.move (Operand.tmp 1), type := _, pos := _, after := _, guard := _ }) (v := .slice a0 E c0) rfl (by kernel_rfl) (by kernel_rfl) (by kernel_rfl) (fun _ _ _ h => h) (Or.inl ⟨by rfl, fun V (hV : w8.grownBy V none) => by go_simp⟩) h8 ?_
  (try simp only [Act.put, List.setIfInBounds_toArray, List.set_cons_zero, List.set_cons_succ])
  refine wpAnyH_take (i := 7) (oi := { dst := some 58, op := Op.convert 24 9 (Operand.tmp 57), type := _, pos := _, after := _, guard := _ }) (v := .string sB) rfl (by kernel_rfl) (by kernel_rfl) (by kernel_rfl) (fun _ _ _ h => h) (Or.inl ⟨by rfl, fun V (hV : w8.grownBy V none) => by go_simp⟩) h8 ?_
  (try simp only [Act.put, List.setIfInBounds_toArray, List.set_cons_zero, List.set_cons_succ])
  refine wpAnyH_take (i := 8) (oi := { dst := some 59, op := Op.move (Operand.tmp 2), type := _, pos := _, after := _, guard := _ }) (v := .slice a1 L c1) rfl (by kernel_rfl) (by kernel_rfl) (by kernel_rfl) (fun _ _ _ h => h) (Or.inl ⟨by rfl, fun V (hV : w8.grownBy V none) => by go_simp⟩) h8 ?_
  (try simp only [Act.put, List.setIfInBounds_toArray, List.set_cons_zero, List.set_cons_succ])
  refine wpAnyH_take (i := 9) (oi := { dst := some 60, op := Op.convert 24 9 (Operand.tmp 59), type := _, pos := _, after := _, guard := _ }) (v := .string sX) rfl (by kernel_rfl) (by kernel_rfl) (by kernel_rfl) (fun _ _ _ h => h) (Or.inl ⟨by rfl, fun V (hV : w8.grownBy V none) => by go_simp⟩) h8 ?_
  (try simp only [Act.put, List.setIfInBounds_toArray, List.set_cons_zero, List.set_cons_succ])
  refine wpAnyH_ready (rs := [10]) (by kernel_rfl) (by simp) ?_
  refine AllReadyH.cons (o := { dst := some 61, op := Op.call { callee := Callee.value (Operand.func 11), args := #[(Operand.tmp 54), (Operand.tmp 56), (Operand.tmp 58), (Operand.tmp 60)], argTypes := #[9, 9, 9, 9] }, type := _, pos := _, after := _, guard := _ }) rfl (fun K9 hK9 => ?_) AllReadyH.nil
  go_simp
  go_at_call 11
  refine (rSe _).mono ?_
  rintro e w9 ⟨rfl, g9⟩
  go_wp2_with fail
  refine hK9.out _ _ (tr h8 g9) (fun _ => ?_)
  clear hK9 K9
  (try simp only [Act.put, List.setIfInBounds_toArray, List.set_cons_zero, List.set_cons_succ])
  refine wpAnyH_take (i := 11) (oi := { dst := some 62, op := Op.binOp BinOp.eql 9 (Operand.tmp 52) (Operand.tmp 61) 9, type := _, pos := _, after := _, guard := _ }) (v := .bool true) rfl (by kernel_rfl) (by kernel_rfl) (by kernel_rfl) (fun _ _ _ h => h) (Or.inl ⟨by rfl, fun V (hV : w8.grownBy V none) => by go_simp⟩) (tr h8 g9) ?_
  (try simp only [Act.put, List.setIfInBounds_toArray, List.set_cons_zero, List.set_cons_succ])
  refine wpAnyH_take (i := 12) (oi := { dst := some 63, op := Op.move (Operand.tmp 62), type := _, pos := _, after := _, guard := _ }) (v := .bool true) rfl (by kernel_rfl) (by kernel_rfl) (by kernel_rfl) (fun _ _ _ h => h) (Or.inl ⟨by rfl, fun V (hV : w8.grownBy V none) => by go_simp⟩) (tr h8 g9) ?_
  (try simp only [Act.put, List.setIfInBounds_toArray, List.set_cons_zero, List.set_cons_succ])
  refine wpAnyH_take (i := 13) (oi := { dst := some 64, op := Op.slice 29 (Operand.tmp 9) none none none, type := _, pos := _, after := _, guard := _ }) (v := .slice (some ⟨w5.heap.size, 0, none⟩) 16 16) rfl (by kernel_rfl) (by kernel_rfl) (by kernel_rfl) (fun _ _ _ h => h) (Or.inl ⟨by rfl, fun V (hV : w8.grownBy V none) => by go_simp⟩) (tr h8 g9) ?_
  (try simp only [Act.put, List.setIfInBounds_toArray, List.set_cons_zero, List.set_cons_succ])
  refine wpAnyH_take (i := 14) (oi := { dst := some 65, op := Op.convert 24 9 (Operand.tmp 64), type := _, pos := _, after := _, guard := _ }) (v := .string sT) rfl (by kernel_rfl) (by kernel_rfl) (by kernel_rfl) (fun _ _ _ h => h) (Or.inl ⟨by rfl, fun V (hV : w8.grownBy V none) => by go_simp⟩) (tr h8 g9) ?_
  (try simp only [Act.put, List.setIfInBounds_toArray, List.set_cons_zero, List.set_cons_succ])
  refine wpAnyH_take (i := 15) (oi := { dst := some 66, op := Op.slice 23 (Operand.tmp 3) none none none, type := _, pos := _, after := _, guard := _ }) (v := .slice (some ⟨w.heap.size, 0, none⟩) 32 32) rfl (by kernel_rfl) (by kernel_rfl) (by kernel_rfl) (fun _ _ _ h => h) (Or.inl ⟨by rfl, fun V (hV : w8.grownBy V none) => by go_simp⟩) (tr h8 g9) ?_
  (try simp only [Act.put, List.setIfInBounds_toArray, List.set_cons_zero, List.set_cons_succ])
  refine wpAnyH_take (i := 16) (oi := { dst := some 67, op := Op.convert 24 9 (Operand.tmp 66), type := _, pos := _, after := _, guard := _ }) (v := .string sK) rfl (by kernel_rfl) (by kernel_rfl) (by kernel_rfl) (fun _ _ _ h => h) (Or.inl ⟨by rfl, fun V (hV : w8.grownBy V none) => by go_simp⟩) (tr h8 g9) ?_
  (try simp only [Act.put, List.setIfInBounds_toArray, List.set_cons_zero, List.set_cons_succ])
  refine wpAnyH_take (i := 17) (oi := { dst := some 68, op := Op.slice 27 (Operand.tmp 7) none none none, type := _, pos := _, after := _, guard := _ }) (v := .slice (some ⟨w.heap.size + 1, 0, none⟩) 12 12) rfl (by kernel_rfl) (by kernel_rfl) (by kernel_rfl) (fun _ _ _ h => h) (Or.inl ⟨by rfl, fun V (hV : w8.grownBy V none) => by go_simp⟩) (tr h8 g9) ?_
  (try simp only [Act.put, List.setIfInBounds_toArray, List.set_cons_zero, List.set_cons_succ])
  refine wpAnyH_take (i := 18) (oi := { dst := some 69, op := Op.convert 24 9 (Operand.tmp 68), type := _, pos := _, after := _, guard := _ }) (v := .string sN) rfl (by kernel_rfl) (by kernel_rfl) (by kernel_rfl) (fun _ _ _ h => h) (Or.inl ⟨by rfl, fun V (hV : w8.grownBy V none) => by go_simp⟩) (tr h8 g9) ?_
  (try simp only [Act.put, List.setIfInBounds_toArray, List.set_cons_zero, List.set_cons_succ])
  refine wpAnyH_take (i := 19) (oi := { dst := some 70, op := Op.move (Operand.tmp 1), type := _, pos := _, after := _, guard := _ }) (v := .slice a0 E c0) rfl (by kernel_rfl) (by kernel_rfl) (by kernel_rfl) (fun _ _ _ h => h) (Or.inl ⟨by rfl, fun V (hV : w8.grownBy V none) => by go_simp⟩) (tr h8 g9) ?_
  (try simp only [Act.put, List.setIfInBounds_toArray, List.set_cons_zero, List.set_cons_succ])
  refine wpAnyH_take (i := 20) (oi := { dst := some 71, op := Op.convert 24 9 (Operand.tmp 70), type := _, pos := _, after := _, guard := _ }) (v := .string sB) rfl (by kernel_rfl) (by kernel_rfl) (by kernel_rfl) (fun _ _ _ h => h) (Or.inl ⟨by rfl, fun V (hV : w8.grownBy V none) => by go_simp⟩) (tr h8 g9) ?_
  (try simp only [Act.put, List.setIfInBounds_toArray, List.set_cons_zero, List.set_cons_succ])
  refine wpAnyH_take (i := 21) (oi := { dst := some 72, op := Op.move (Operand.tmp 2), type := _, pos := _, after := _, guard := _ }) (v := .slice a1 L c1) rfl (by kernel_rfl) (by kernel_rfl) (by kernel_rfl) (fun _ _ _ h => h) (Or.inl ⟨by rfl, fun V (hV : w8.grownBy V none) => by go_simp⟩) (tr h8 g9) ?_
  (try simp only [Act.put, List.setIfInBounds_toArray, List.set_cons_zero, List.set_cons_succ])
  refine wpAnyH_take (i := 22) (oi := { dst := some 73, op := Op.convert 24 9 (Operand.tmp 72), type := _, pos := _, after := _, guard := _ }) (v := .string sX) rfl (by kernel_rfl) (by kernel_rfl) (by kernel_rfl) (fun _ _ _ h => h) (Or.inl ⟨by rfl, fun V (hV : w8.grownBy V none) => by go_simp⟩) (tr h8 g9) ?_
  (try simp only [Act.put, List.setIfInBounds_toArray, List.set_cons_zero, List.set_cons_succ])
  refine wpAnyH_ready (rs := [23]) (by kernel_rfl) (by simp) ?_
  refine AllReadyH.cons (o := { dst := some 74, op := Op.call { callee := Callee.value (Operand.func 12), args := #[(Operand.tmp 67), (Operand.tmp 69), (Operand.tmp 71), (Operand.tmp 73)], argTypes := #[9, 9, 9, 9] }, type := _, pos := _, after := _, guard := _ }) rfl (fun K9 hK9 => ?_) AllReadyH.nil
  go_simp
  go_at_call 12
  refine (rTg _).mono ?_
  rintro e w10 ⟨rfl, g10⟩
  go_wp2_with fail
  refine hK9.out _ _ (tr h8 (tr g9 g10)) (fun _ => ?_)
  clear hK9 K9
  (try simp only [Act.put, List.setIfInBounds_toArray, List.set_cons_zero, List.set_cons_succ])
  refine wpAnyH_take (i := 24) (oi := { dst := some 75, op := Op.binOp BinOp.eql 9 (Operand.tmp 65) (Operand.tmp 74) 9, type := _, pos := _, after := _, guard := _ }) (v := .bool true) rfl (by kernel_rfl) (by kernel_rfl) (by kernel_rfl) (fun _ _ _ h => h) (Or.inl ⟨by rfl, fun V (hV : w8.grownBy V none) => by go_simp⟩) (tr h8 (tr g9 g10)) ?_
  (try simp only [Act.put, List.setIfInBounds_toArray, List.set_cons_zero, List.set_cons_succ])
  refine wpAnyH_take (i := 25) (oi := { dst := some 76, op := Op.pick (Operand.tmp 63) (Operand.tmp 75) (Operand.const (Value.bool false)), type := _, pos := _, after := _, guard := _ }) (v := .bool true) rfl (by kernel_rfl) (by kernel_rfl) (by kernel_rfl) (fun _ _ _ h => h) (Or.inl ⟨by rfl, fun V (hV : w8.grownBy V none) => by go_simp⟩) (tr h8 (tr g9 g10)) ?_
  (try simp only [Act.put, List.setIfInBounds_toArray, List.set_cons_zero, List.set_cons_succ])
  refine wpAnyH_take (i := 26) (oi := { dst := some 77, op := Op.move (Operand.tmp 76), type := _, pos := _, after := _, guard := _ }) (v := .bool true) rfl (by kernel_rfl) (by kernel_rfl) (by kernel_rfl) (fun _ _ _ h => h) (Or.inl ⟨by rfl, fun V (hV : w8.grownBy V none) => by go_simp⟩) (tr h8 (tr g9 g10)) ?_
  (try simp only [Act.put, List.setIfInBounds_toArray, List.set_cons_zero, List.set_cons_succ])
  refine wpAnyH_take (i := 27) (oi := { dst := some 78, op := Op.move (Operand.tmp 10), type := _, pos := _, after := _, guard := _ }) (v := .slice bo D cb) rfl (by kernel_rfl) (by kernel_rfl) (by kernel_rfl) (fun _ _ _ h => h) (Or.inl ⟨by rfl, fun V (hV : w8.grownBy V none) => by go_simp⟩) (tr h8 (tr g9 g10)) ?_
  (try simp only [Act.put, List.setIfInBounds_toArray, List.set_cons_zero, List.set_cons_succ])
  refine wpAnyH_take (i := 28) (oi := { dst := some 79, op := Op.convert 24 9 (Operand.tmp 78), type := _, pos := _, after := _, guard := _ }) (v := .string sO) rfl (by kernel_rfl) (by kernel_rfl) (by kernel_rfl) (fun _ _ _ h => h) (Or.inl ⟨by rfl, fun V (hV : w8.grownBy V none) => by go_simp⟩) (tr h8 (tr g9 g10)) ?_
  (try simp only [Act.put, List.setIfInBounds_toArray, List.set_cons_zero, List.set_cons_succ])
  refine wpAnyH_take (i := 29) (oi := { dst := some 80, op := Op.move (Operand.tmp 12), type := _, pos := _, after := _, guard := _ }) (v := .string sO) rfl (by kernel_rfl) (by kernel_rfl) (by kernel_rfl) (fun _ _ _ h => h) (Or.inl ⟨by rfl, fun V (hV : w8.grownBy V none) => by go_simp⟩) (tr h8 (tr g9 g10)) ?_
  (try simp only [Act.put, List.setIfInBounds_toArray, List.set_cons_zero, List.set_cons_succ])
  refine wpAnyH_take (i := 30) (oi := { dst := some 81, op := Op.binOp BinOp.eql 9 (Operand.tmp 79) (Operand.tmp 80) 9, type := _, pos := _, after := _, guard := _ }) (v := .bool true) rfl (by kernel_rfl) (by kernel_rfl) (by kernel_rfl) (fun _ _ _ h => h) (Or.inl ⟨by rfl, fun V (hV : w8.grownBy V none) => by go_simp⟩) (tr h8 (tr g9 g10)) ?_
  (try simp only [Act.put, List.setIfInBounds_toArray, List.set_cons_zero, List.set_cons_succ])
  refine wpAnyH_take (i := 31) (oi := { dst := some 82, op := Op.pick (Operand.tmp 77) (Operand.tmp 81) (Operand.const (Value.bool false)), type := _, pos := _, after := _, guard := _ }) (v := .bool true) rfl (by kernel_rfl) (by kernel_rfl) (by kernel_rfl) (fun _ _ _ h => h) (Or.inl ⟨by rfl, fun V (hV : w8.grownBy V none) => by go_simp⟩) (tr h8 (tr g9 g10)) ?_
  (try simp only [Act.put, List.setIfInBounds_toArray, List.set_cons_zero, List.set_cons_succ])
  refine wpAnyH_take (i := 32) (oi := { dst := some 83, op := Op.move (Operand.tmp 82), type := _, pos := _, after := _, guard := _ }) (v := .bool true) rfl (by kernel_rfl) (by kernel_rfl) (by kernel_rfl) (fun _ _ _ h => h) (Or.inl ⟨by rfl, fun V (hV : w8.grownBy V none) => by go_simp⟩) (tr h8 (tr g9 g10)) ?_
  (try simp only [Act.put, List.setIfInBounds_toArray, List.set_cons_zero, List.set_cons_succ])
  refine wpAnyH_take (i := 33) (oi := { dst := some 84, op := Op.move (Operand.tmp 11), type := _, pos := _, after := _, guard := _ }) (v := .bool ob) rfl (by kernel_rfl) (by kernel_rfl) (by kernel_rfl) (fun _ _ _ h => h) (Or.inl ⟨by rfl, fun V (hV : w8.grownBy V none) => by go_simp⟩) (tr h8 (tr g9 g10)) ?_
  (try simp only [Act.put, List.setIfInBounds_toArray, List.set_cons_zero, List.set_cons_succ])
  refine wpAnyH_take (i := 34) (oi := { dst := some 85, op := Op.move (Operand.tmp 13), type := _, pos := _, after := _, guard := _ }) (v := .bool ob) rfl (by kernel_rfl) (by kernel_rfl) (by kernel_rfl) (fun _ _ _ h => h) (Or.inl ⟨by rfl, fun V (hV : w8.grownBy V none) => by go_simp⟩) (tr h8 (tr g9 g10)) ?_
  (try simp only [Act.put, List.setIfInBounds_toArray, List.set_cons_zero, List.set_cons_succ])
  refine wpAnyH_take (i := 35) (oi := { dst := some 86, op := Op.binOp BinOp.eql 4 (Operand.tmp 84) (Operand.tmp 85) 4, type := _, pos := _, after := _, guard := _ }) (v := .bool true) rfl (by kernel_rfl) (by kernel_rfl) (by kernel_rfl) (fun _ _ _ h => h) (Or.inl ⟨by rfl, fun V (hV : w8.grownBy V none) => by go_simp⟩) (tr h8 (tr g9 g10)) ?_
  (try simp only [Act.put, List.setIfInBounds_toArray, List.set_cons_zero, List.set_cons_succ])
  refine wpAnyH_take (i := 36) (oi := { dst := some 87, op := Op.pick (Operand.tmp 83) (Operand.tmp 86) (Operand.const (Value.bool false)), type := _, pos := _, after := _, guard := _ }) (v := .bool true) rfl (by kernel_rfl) (by kernel_rfl) (by kernel_rfl) (fun _ _ _ h => h) (Or.inl ⟨by rfl, fun V (hV : w8.grownBy V none) => by go_simp⟩) (tr h8 (tr g9 g10)) ?_
  (try simp only [Act.put, List.setIfInBounds_toArray, List.set_cons_zero, List.set_cons_succ])
  refine wpAnyH_take (i := 37) (oi := { dst := some 88, op := Op.move (Operand.tmp 87), type := _, pos := _, after := _, guard := _ }) (v := .bool true) rfl (by kernel_rfl) (by kernel_rfl) (by kernel_rfl) (fun _ _ _ h => h) (Or.inl ⟨by rfl, fun V (hV : w8.grownBy V none) => by go_simp⟩) (tr h8 (tr g9 g10)) ?_
  (try simp only [Act.put, List.setIfInBounds_toArray, List.set_cons_zero, List.set_cons_succ])
  refine wpAnyH_ready (rs := [38]) (by kernel_rfl) (by simp) ?_
  refine AllReadyH.cons (o := { dst := some 89, op := Op.call { callee := Callee.value (Operand.func 13), args := #[], argTypes := #[] }, type := _, pos := _, after := _, guard := _ }) rfl (fun K9 hK9 => ?_) AllReadyH.nil
  go_simp
  go_at_call 13
  refine (c1' _ (tr (unhide HG3) (tr gg8 (tr h8 (tr g9 g10))))).mono ?_
  rintro e w11 ⟨rfl, g11⟩
  go_wp2_with fail
  refine hK9.out _ _ (tr h8 (tr g9 (tr g10 g11))) (fun _ => ?_)
  clear hK9 K9
  (try simp only [Act.put, List.setIfInBounds_toArray, List.set_cons_zero, List.set_cons_succ])
  refine wpAnyH_take (i := 39) (oi := { dst := some 90, op := Op.pick (Operand.tmp 88) (Operand.tmp 89) (Operand.const (Value.bool false)), type := _, pos := _, after := _, guard := _ }) (v := .bool true) rfl (by kernel_rfl) (by kernel_rfl) (by kernel_rfl) (fun _ _ _ h => h) (Or.inl ⟨by rfl, fun V (hV : w8.grownBy V none) => by go_simp⟩) (tr h8 (tr g9 (tr g10 g11))) ?_
  (try simp only [Act.put, List.setIfInBounds_toArray, List.set_cons_zero, List.set_cons_succ])
  refine wpAnyH_take (i := 40) (oi := { dst := some 6, op := Op.assign (Operand.tmp 90), type := _, pos := _, after := _, guard := _ }) (v := .bool true) rfl (by kernel_rfl) (by kernel_rfl) (by kernel_rfl) (fun _ _ _ h => h) (Or.inl ⟨by rfl, fun V (hV : w8.grownBy V none) => by go_simp⟩) (tr h8 (tr g9 (tr g10 g11))) ?_
  (try simp only [Act.put, List.setIfInBounds_toArray, List.set_cons_zero, List.set_cons_succ])
  refine wpAnyH_done (by kernel_rfl) ?_ _
  refine NoPanic.normal ?_
  go_wp2
  go_ret
  exact ⟨rfl, tr (unhide HG3) (tr gg8 (tr h8 (tr g9 (tr g10 g11))))⟩
end Go.Proofs.YtceiehkbhebnpaaDoor
