/- What the document's answer for layer 6 (package coffretref06) tells as the tag (Tag). No condition but that the key has 32 bytes, the nonce 12, and that the two texts have at most 2000 bytes. -/
import Derived.Test.YtjckdgapefaokaaDoorARef
import Derived.Test.YtjckdgapefaokaaDoorCRefB
import Derived.Test.YtjckdgapefaokaaDoorPRefS
import Derived.Test.YtjckdgapefaokaaDoorKEqual
import Derived.Test.YtjckdgapefaokaaDoorPRefK
import Derived.Deep.DrawnRows
import Derived.Deep.MidRow
import Derived.Deep.DeepCutAuto
import Derived.Deep.CutBlock
namespace Go.Proofs.YtjckdgapefaokaaDoor
open Go.RowKit
attribute [local go_sem ↓] Go.wp_at_zero Go.wp_at_succ

def zer16b : List UInt8 := List.replicate 16 0
theorem alloc_row16 (w2 : World) (Z : Array Value) (hZ : Z = (zer16b.map bv).toArray) : ∃ W3, W3 = w2.alloc (.cells Z 93) ∧ Blk W3 w2.heap.size 93 (zer16b.map bv) ∧ w2.grownBy W3 none := by
  refine ⟨_, rfl, ?_, gb_alloc (gb_refl _ _) _⟩
  subst hZ
  exact Blk.new w2 93 (zer16b.map bv)
theorem zero32a (w : World) : (zeroValue 36).run Tryd.prog w = .ok (.agg ((List.replicate 32 (0 : UInt8)).map bv).toArray) w := by kernel_rfl

set_option maxRecDepth 100000 in
set_option maxHeartbeats 4000000 in
theorem rtag6_any (w : World) (k n be x : List UInt8) (hk : k.length = 32) (hn : n.length = 12) (hbe : be.length ≤ 2000) (hx : x.length ≤ 2000) :
    Calls Tryd.prog 46 #[.string (str k), .string (str n), .string (str be), .string (str x)] w fun e w' => e = .returned (.string (str (tagA k n be x))) ∧ w.grownBy w' none := by
  have tr : ∀ {x y z : World}, x.grownBy y none → y.grownBy z none → x.grownBy z none := fun h k => gb_trans h k (fun _ e => by cases e)
  have hi16 : (Tryd.prog.info? 93).map (·.size) = some 16 := by kernel_rfl
  have hi32 : (Tryd.prog.info? 36).map (·.size) = some 32 := by kernel_rfl
  have hi64 : (Tryd.prog.info? 97).map (·.size) = some 64 := by kernel_rfl
  obtain ⟨Z, hZ⟩ : ∃ A : Array Value, A = (zer16b.map bv).toArray := ⟨_, rfl⟩
  have hz : ∀ w : World, (zeroValue 93).run Tryd.prog w = .ok (.agg Z) w := by rw [hZ]; exact zero16b
  obtain ⟨Y, hY⟩ : ∃ A : Array Value, A = ((List.replicate 64 (0 : UInt8)).map bv).toArray := ⟨_, rfl⟩
  have hy := zero64b
  rw [← hY] at hy
  obtain ⟨X2, hX2⟩ : ∃ A : Array Value, A = ((List.replicate 32 (0 : UInt8)).map bv).toArray := ⟨_, rfl⟩
  have hx2 := zero32a
  rw [← hX2] at hx2
  have hblk := rblock4_any w k n 0 hk hn
  obtain ⟨b, hb⟩ : ∃ b, b = blockL k n 0 := ⟨_, rfl⟩
  have hbl : b.length = 64 := by rw [hb]; exact blockL_length _ _ _
  rw [← hb] at hblk
  have hsb : ((b.map bv).toArray).size = 64 := by simp [hbl]
  have hw0 : wz 0 = 0 := rfl
  rw [hw0] at hblk
  obtain ⟨B, hB⟩ : ∃ B, B = str be := ⟨_, rfl⟩
  obtain ⟨X, hX⟩ : ∃ X, X = str x := ⟨_, rfl⟩
  obtain ⟨R, hR⟩ : ∃ R, R = tagA k n be x := ⟨_, rfl⟩
  rw [← hB, ← hX, ← hR]
  have HZ := hide hZ
  have HY := hide hY
  have HX2 := hide hX2
  have HB := hide hb
  have HBL := hide hbl
  have HSB := hide hsb
  have HBB := hide hB
  have HXX := hide hX
  have HR := hide hR
  have HBE := hide hbe
  have HXE := hide hx
  clear hZ hY hX2 hb hbl hsb hw0 hB hX hR hk hn hbe hx
  go_enter Tryd.func46, Tryd.ntmps46
  go_wp2_with (first
    | (go_at_call 61; refine hblk.mono ?_; rintro e w2 ⟨rfl, g2⟩; clear hblk)
    | (refine wpList_store_row rfl 97 _ _ rfl w2.heap.size _ rfl rfl _ _ (heap_alloc_new w2 (.cells Y 97)) ?_ ?_ ?_ ?_; (rw [unhide HSB]; exact hi64); (rw [unhide HSB, unhide HY]; rfl); (exact all_oneCell_toArray (bv_one _))))
  obtain ⟨W4, hW4⟩ : ∃ W4, W4 = ((w2.alloc (.cells Y 97)).setRow w2.heap.size (b.map bv).toArray).alloc (.cells X2 36) := ⟨_, rfl⟩
  rw [← hW4]
  have hb4 : Blk W4 w2.heap.size 97 (b.map bv) := by
    rw [hW4, unhide HY]; exact ((Blk.new w2 97 _).row _).alloc _
  have hk4 : Blk W4 (w2.heap.size + 1) 36 ((stepL 32 0 (fun j => b.getD j 0) (fun _ => 0)).map bv) := by
    have := Blk.new ((w2.alloc (.cells Y 97)).setRow w2.heap.size (b.map bv).toArray) 36 ((List.replicate 32 (0 : UInt8)).map bv)
    rw [show ((w2.alloc (.cells Y 97)).setRow w2.heap.size (b.map bv).toArray).heap.size = w2.heap.size + 1 by simp] at this
    rw [hW4, unhide HX2]; exact this
  have hg4 : w.grownBy W4 none := by
    rw [hW4]; exact gb_alloc (gb_row (gb_alloc g2 _) _ (Or.inl g2.size)) _
  have l2 := g2.size
  have HB4 := hide hb4
  have HK4 := hide hk4
  clear hb4 hk4 hW4 g2
  go_loopw [11] (fun i wr => ∃ r : Nat, r ≤ 32 ∧ i = .int .i64 (r : Int) ∧ Blk wr w2.heap.size 97 (b.map bv) ∧ Blk wr (w2.heap.size + 1) 36 ((stepL 32 r (fun j => b.getD j 0) (fun _ => 0)).map bv) ∧ w.grownBy wr none) (fun i _ => 32 - (intOf i).toNat)
  case atStart => exact ⟨0, Nat.zero_le _, rfl, unhide HB4, unhide HK4, hg4⟩
  case round =>
    clear HB4 HK4 hg4
    obtain ⟨r, hr, rfl, hb, hK, hg⟩ := hrel
    by_cases hlt : r < 32
    · have q0 : (0 : Int) ≤ (r : Int) := by omega
      have q1 : (r : Int) < 32 := by omega
      have q2 : (r : Int) < 64 := by omega
      obtain ⟨y, hy2⟩ : ∃ y, y = (b.getD r 0).toNat := ⟨_, rfl⟩
      have hc : wr.cell? ⟨w2.heap.size, r, none⟩ = some (.int .u8 (y : Int)) := by
        rw [hb.cell, List.getElem?_map, List.getElem?_eq_getElem (by rw [unhide HBL]; omega), hy2]
        simp [List.getD, show r < b.length by rw [unhide HBL]; omega, bv]
      have hc2 : wr.cell? ⟨w2.heap.size + 1, r, none⟩ = some (.int .u8 (0 : Int)) := by
        rw [hK.cell, List.getElem?_map, stepL_at _ _ _ _ _ hlt, if_neg (by omega)]; rfl
      have hfz := hK.fz r
      have hK2 : Blk (wr.setCell ⟨w2.heap.size + 1, r, none⟩ (.int .u8 (y : Int))) (w2.heap.size + 1) 36 ((stepL 32 (r + 1) (fun j => b.getD j 0) (fun _ => 0)).map bv) := by
        rw [← stepL_set, List.map_set, hy2]; exact hK.set r (bv (b.getD r 0))
      have HK2 := hide hK2
      have HB2 := hide (hb.other ⟨w2.heap.size + 1, r, none⟩ (.int .u8 (y : Int)) (by simp))
      clear hK hb hK2 hy2
      go_wp2
      go_roundw
      case rel => exact ⟨r + 1, by omega, by go_num, unhide HB2, unhide HK2, gb_setCell hg _ _ (Or.inl (by show _ ≤ w2.heap.size + 1; omega))⟩
      case measure => simp [intOf]; omega
    · obtain rfl : r = 32 := by omega
      rw [show ((32 : Nat) : Int) = 32 from rfl]
      rw [stepL_all] at hK
      obtain ⟨K, hKe⟩ : ∃ K, K = b.take 32 := ⟨_, rfl⟩
      have hK2 : Blk wr (w2.heap.size + 1) 36 (K.map bv) := by
        rw [hKe, show b.take 32 = (List.range 32).map (fun j => b.getD j 0) from ?_]
        · exact hK
        · apply List.ext_getElem
          · simp [unhide HBL]
          · intro i h1 h2
            have : i < b.length := by simp at h1; omega
            simp [List.getD, this]
      have hKl : K.length = 32 := by rw [hKe]; simp [unhide HBL]
      have hrK := blk_range5 hK2
      have hiK : (Tryd.prog.info? 36).map (·.size) = some (K.map bv).length := by rw [List.length_map, hKl]; exact hi32
      obtain ⟨nb, hnb⟩ : ∃ m, m = be.length := ⟨_, rfl⟩
      obtain ⟨nx, hnx⟩ : ∃ m, m = x.length := ⟨_, rfl⟩
      have e1 := unhide HBE
      have e2 := unhide HXE
      obtain ⟨ZB, hZB⟩ : ∃ s, s = str (zer16 nb) := ⟨_, rfl⟩
      obtain ⟨ZX, hZX⟩ : ∃ s, s = str (zer16 nx) := ⟨_, rfl⟩
      obtain ⟨LB, hLB⟩ : ∃ s, s = str (leB 8 nb) := ⟨_, rfl⟩
      obtain ⟨LX, hLX⟩ : ∃ s, s = str (leB 8 nx) := ⟨_, rfl⟩
      have czb : ∀ V, Calls Tryd.prog 63 #[.int .i64 (nb : Int)] V fun e w' => e = .returned (.string ZB) ∧ V.grownBy w' none := fun V => by rw [hZB]; exact rzeros_any V nb (by omega)
      have czx : ∀ V, Calls Tryd.prog 63 #[.int .i64 (nx : Int)] V fun e w' => e = .returned (.string ZX) ∧ V.grownBy w' none := fun V => by rw [hZX]; exact rzeros_any V nx (by omega)
      have clb : ∀ V, Calls Tryd.prog 64 #[.int .i64 (nb : Int)] V fun e w' => e = .returned (.string LB) ∧ V.grownBy w' none := fun V => by rw [hLB]; exact rlength_any V nb (by omega)
      have clx : ∀ V, Calls Tryd.prog 64 #[.int .i64 (nx : Int)] V fun e w' => e = .returned (.string LX) ∧ V.grownBy w' none := fun V => by rw [hLX]; exact rlength_any V nx (by omega)
      obtain ⟨T, hT⟩ : ∃ T, T = tagL K (macT be x) := ⟨_, rfl⟩
      have hTR : T = R := by rw [hT, unhide HR, tagA, hKe, unhide HB]
      have hmac : ((((B ++ ZB) ++ X) ++ ZX) ++ LB) ++ LX = str (macT be x) := by
        rw [unhide HBB, unhide HXX, hZB, hZX, hLB, hLX, hnb, hnx, str_app, str_app, str_app, str_app, str_app]; rfl
      have csum : ∀ V, Calls Tryd.prog 62 #[.agg (K.map bv).toArray, .string (((((B ++ ZB) ++ X) ++ ZX) ++ LB) ++ LX)] V fun e w' => e = .returned (.agg (T.map bv).toArray) ∧ V.grownBy w' none := fun V => by
        rw [hmac, hT]; exact rsum5_any V K (macT be x) hKl (by have := macT_length be x; omega)
      have s1 : B.size = nb := by rw [unhide HBB, str_size, hnb]
      have s2 : X.size = nx := by rw [unhide HXX, str_size, hnx]
      obtain ⟨zb, hzb⟩ : ∃ m, m = (zer16 nb).length := ⟨_, rfl⟩
      obtain ⟨zx, hzx⟩ : ∃ m, m = (zer16 nx).length := ⟨_, rfl⟩
      have u1 : zb ≤ 15 := by rw [hzb, zer16_length]; omega
      have u2 : zx ≤ 15 := by rw [hzx, zer16_length]; omega
      have s3 : ZB.size = zb := by rw [hZB, str_size, hzb]
      have s4 : ZX.size = zx := by rw [hZX, str_size, hzx]
      have s5 : LB.size = 8 := by rw [hLB, str_size, leB_length]
      have s6 : LX.size = 8 := by rw [hLX, str_size, leB_length]
      have p1 : (B ++ ZB).size = nb + zb := by rw [ByteArray.size_append, s1, s3]
      have p2 : ((B ++ ZB) ++ X).size = nb + zb + nx := by rw [ByteArray.size_append, p1, s2]
      have p3 : (((B ++ ZB) ++ X) ++ ZX).size = nb + zb + nx + zx := by rw [ByteArray.size_append, p2, s4]
      have p4 : ((((B ++ ZB) ++ X) ++ ZX) ++ LB).size = nb + zb + nx + zx + 8 := by rw [ByteArray.size_append, p3, s5]
      have c1 : ¬ 9223372036854775807 < nb + zb := by omega
      have c2 : ¬ 9223372036854775807 < nb + zb + nx := by omega
      have c3 : ¬ 9223372036854775807 < nb + zb + nx + zx := by omega
      have c4 : ¬ 9223372036854775807 < nb + zb + nx + zx + 8 := by omega
      have c5 : ¬ 9223372036854775807 < nb + zb + nx + zx + 8 + 8 := by omega
      have hTl : T.length = 16 := by rw [hT]; exact tagL_length _ _
      have hsT : ((T.map bv).toArray).size = 16 := by simp [hTl]
      have h0 : wr.grownBy wr.drew none := gb_drew (gb_refl _ _)
      have slA : ∀ (p : Nat) (W : World), (Instr.sliceAt 93 (.pointer (some ⟨p, 0, none⟩)) none none none).run Tryd.prog W = .ok (.slice (some ⟨p, 0, none⟩) 16 16) W := fun p W => slice_whole5 93 5 16 Tryd.underlying93 size_byte p 0 (by omega) W
      have HST := hide hsT
      have HTL := hide hTl
      have HTR := hide hTR
      clear hK hK2 hb hKe hKl hT hTR hTl hsT hmac hZB hZX hLB hLX hnb hnx hzb hzx u1 u2 e1 e2 hr hlt
      go_upto_region 7 with fail
      go_cut [12] (fun x9 wx => ∃ p : Nat, x9 = .pointer (some ⟨p, 0, none⟩) ∧ wr.heap.size ≤ p ∧ Blk wx p 93 (T.map bv) ∧ wr.grownBy wx none)
      case first =>
        refine wp_region_noPanic ?_
        refine wp_region_held_drew (S := fun V => wr.grownBy V none) (by kernel_rfl) h0 (fun _ => ?_)
        refine wpAnyH_take (i := 0) (oi := { dst := some 25, op := Op.load 36 (Operand.tmp 10), type := _, pos := _, after := _, guard := _ }) (v := .agg (K.map bv).toArray) rfl (by kernel_rfl) (by kernel_rfl) (by kernel_rfl) (fun _ _ _ h => h) (yieldsIf_load_mid (by rfl) _ _ rfl _ _ rfl (K.map bv) _ (fun V hV => range_kept hrK hV (by simp)) Tryd.underlying36 rfl hiK) h0 ?_
        (try simp only [Act.put, List.setIfInBounds_toArray, List.set_cons_zero, List.set_cons_succ])
        refine wpAnyH_take (i := 1) (oi := { dst := some 26, op := Op.move (Operand.tmp 2), type := _, pos := _, after := _, guard := _ }) (v := .string (B)) rfl (by kernel_rfl) (by kernel_rfl) (by kernel_rfl) (fun _ _ _ h => h) (Or.inl ⟨by rfl, fun V (hV : wr.grownBy V none) => by go_simp⟩) h0 ?_
        (try simp only [Act.put, List.setIfInBounds_toArray, List.set_cons_zero, List.set_cons_succ])
        refine wpAnyH_take (i := 2) (oi := { dst := some 27, op := Op.move (Operand.tmp 2), type := _, pos := _, after := _, guard := _ }) (v := .string (B)) rfl (by kernel_rfl) (by kernel_rfl) (by kernel_rfl) (fun _ _ _ h => h) (Or.inl ⟨by rfl, fun V (hV : wr.grownBy V none) => by go_simp⟩) h0 ?_
        (try simp only [Act.put, List.setIfInBounds_toArray, List.set_cons_zero, List.set_cons_succ])
        refine wpAnyH_take (i := 3) (oi := { dst := some 28, op := Op.call { callee := Callee.builtin Builtin.len, args := #[(Operand.tmp 27)], argTypes := #[9] }, type := _, pos := _, after := _, guard := _ }) (v := .int .i64 (nb : Int)) rfl (by kernel_rfl) (by kernel_rfl) (by kernel_rfl) (fun _ _ _ h => h) (Or.inl ⟨by rfl, fun V (hV : wr.grownBy V none) => by go_simp⟩) h0 ?_
        (try simp only [Act.put, List.setIfInBounds_toArray, List.set_cons_zero, List.set_cons_succ])
        refine wpAnyH_take (i := 6) (oi := { dst := some 31, op := Op.move (Operand.tmp 3), type := _, pos := _, after := _, guard := _ }) (v := .string (X)) rfl (by kernel_rfl) (by kernel_rfl) (by kernel_rfl) (fun _ _ _ h => h) (Or.inl ⟨by rfl, fun V (hV : wr.grownBy V none) => by go_simp⟩) h0 ?_
        (try simp only [Act.put, List.setIfInBounds_toArray, List.set_cons_zero, List.set_cons_succ])
        refine wpAnyH_take (i := 8) (oi := { dst := some 33, op := Op.move (Operand.tmp 3), type := _, pos := _, after := _, guard := _ }) (v := .string (X)) rfl (by kernel_rfl) (by kernel_rfl) (by kernel_rfl) (fun _ _ _ h => h) (Or.inl ⟨by rfl, fun V (hV : wr.grownBy V none) => by go_simp⟩) h0 ?_
        (try simp only [Act.put, List.setIfInBounds_toArray, List.set_cons_zero, List.set_cons_succ])
        refine wpAnyH_take (i := 9) (oi := { dst := some 34, op := Op.call { callee := Callee.builtin Builtin.len, args := #[(Operand.tmp 33)], argTypes := #[9] }, type := _, pos := _, after := _, guard := _ }) (v := .int .i64 (nx : Int)) rfl (by kernel_rfl) (by kernel_rfl) (by kernel_rfl) (fun _ _ _ h => h) (Or.inl ⟨by rfl, fun V (hV : wr.grownBy V none) => by go_simp⟩) h0 ?_
        (try simp only [Act.put, List.setIfInBounds_toArray, List.set_cons_zero, List.set_cons_succ])
        refine wpAnyH_take (i := 12) (oi := { dst := some 37, op := Op.move (Operand.tmp 2), type := _, pos := _, after := _, guard := _ }) (v := .string (B)) rfl (by kernel_rfl) (by kernel_rfl) (by kernel_rfl) (fun _ _ _ h => h) (Or.inl ⟨by rfl, fun V (hV : wr.grownBy V none) => by go_simp⟩) h0 ?_
        (try simp only [Act.put, List.setIfInBounds_toArray, List.set_cons_zero, List.set_cons_succ])
        refine wpAnyH_take (i := 13) (oi := { dst := some 38, op := Op.call { callee := Callee.builtin Builtin.len, args := #[(Operand.tmp 37)], argTypes := #[9] }, type := _, pos := _, after := _, guard := _ }) (v := .int .i64 (nb : Int)) rfl (by kernel_rfl) (by kernel_rfl) (by kernel_rfl) (fun _ _ _ h => h) (Or.inl ⟨by rfl, fun V (hV : wr.grownBy V none) => by go_simp⟩) h0 ?_
        (try simp only [Act.put, List.setIfInBounds_toArray, List.set_cons_zero, List.set_cons_succ])
        refine wpAnyH_take (i := 16) (oi := { dst := some 41, op := Op.move (Operand.tmp 3), type := _, pos := _, after := _, guard := _ }) (v := .string (X)) rfl (by kernel_rfl) (by kernel_rfl) (by kernel_rfl) (fun _ _ _ h => h) (Or.inl ⟨by rfl, fun V (hV : wr.grownBy V none) => by go_simp⟩) h0 ?_
        (try simp only [Act.put, List.setIfInBounds_toArray, List.set_cons_zero, List.set_cons_succ])
        refine wpAnyH_take (i := 17) (oi := { dst := some 42, op := Op.call { callee := Callee.builtin Builtin.len, args := #[(Operand.tmp 41)], argTypes := #[9] }, type := _, pos := _, after := _, guard := _ }) (v := .int .i64 (nx : Int)) rfl (by kernel_rfl) (by kernel_rfl) (by kernel_rfl) (fun _ _ _ h => h) (Or.inl ⟨by rfl, fun V (hV : wr.grownBy V none) => by go_simp⟩) h0 ?_
        (try simp only [Act.put, List.setIfInBounds_toArray, List.set_cons_zero, List.set_cons_succ])
        refine wpAnyH_ready (rs := [4, 21]) (by kernel_rfl) (by simp) ?_
        refine AllReadyH.cons (o := { dst := some 29, op := Op.call { callee := Callee.value (Operand.func 63), args := #[(Operand.tmp 28)], argTypes := #[3] }, type := _, pos := _, after := _, guard := _ }) rfl (fun K9 hK9 => ?_) (AllReadyH.cons (o := { dst := some 12, op := Op.alloc 93, type := _, pos := _, after := _, guard := _ }) rfl (fun K9 hK9 => ?_) AllReadyH.nil)
        · go_simp
          go_at_call 63
          refine (czb _).mono ?_
          rintro e w11 ⟨rfl, g11⟩
          go_wp2_with fail
          refine hK9.out _ _ (tr h0 g11) (fun _ => ?_)
          clear hK9 K9
          (try simp only [Act.put, List.setIfInBounds_toArray, List.set_cons_zero, List.set_cons_succ])
          refine wpAnyH_take (i := 5) (oi := { dst := some 30, op := Op.binOp BinOp.add 9 (Operand.tmp 26) (Operand.tmp 29) 9, type := _, pos := _, after := _, guard := _ }) (v := .string (B ++ ZB)) rfl (by kernel_rfl) (by kernel_rfl) (by kernel_rfl) (fun _ _ _ h => h) (Or.inl ⟨by rfl, fun V (hV : wr.grownBy V none) => by go_simp⟩) (tr h0 g11) ?_
          (try simp only [Act.put, List.setIfInBounds_toArray, List.set_cons_zero, List.set_cons_succ])
          refine wpAnyH_take (i := 7) (oi := { dst := some 32, op := Op.binOp BinOp.add 9 (Operand.tmp 30) (Operand.tmp 31) 9, type := _, pos := _, after := _, guard := _ }) (v := .string ((B ++ ZB) ++ X)) rfl (by kernel_rfl) (by kernel_rfl) (by kernel_rfl) (fun _ _ _ h => h) (Or.inl ⟨by rfl, fun V (hV : wr.grownBy V none) => by go_simp⟩) (tr h0 g11) ?_
          (try simp only [Act.put, List.setIfInBounds_toArray, List.set_cons_zero, List.set_cons_succ])
          refine wpAnyH_ready (rs := [10, 21]) (by kernel_rfl) (by simp) ?_
          refine AllReadyH.cons (o := { dst := some 35, op := Op.call { callee := Callee.value (Operand.func 63), args := #[(Operand.tmp 34)], argTypes := #[3] }, type := _, pos := _, after := _, guard := _ }) rfl (fun K9 hK9 => ?_) (AllReadyH.cons (o := { dst := some 12, op := Op.alloc 93, type := _, pos := _, after := _, guard := _ }) rfl (fun K9 hK9 => ?_) AllReadyH.nil)
          · go_simp
            go_at_call 63
            refine (czx _).mono ?_
            rintro e w12 ⟨rfl, g12⟩
            go_wp2_with fail
            refine hK9.out _ _ (tr (tr h0 g11) g12) (fun _ => ?_)
            clear hK9 K9
            (try simp only [Act.put, List.setIfInBounds_toArray, List.set_cons_zero, List.set_cons_succ])
            refine wpAnyH_take (i := 11) (oi := { dst := some 36, op := Op.binOp BinOp.add 9 (Operand.tmp 32) (Operand.tmp 35) 9, type := _, pos := _, after := _, guard := _ }) (v := .string (((B ++ ZB) ++ X) ++ ZX)) rfl (by kernel_rfl) (by kernel_rfl) (by kernel_rfl) (fun _ _ _ h => h) (Or.inl ⟨by rfl, fun V (hV : wr.grownBy V none) => by go_simp⟩) (tr (tr h0 g11) g12) ?_
            (try simp only [Act.put, List.setIfInBounds_toArray, List.set_cons_zero, List.set_cons_succ])
            refine wpAnyH_ready (rs := [14, 21]) (by kernel_rfl) (by simp) ?_
            refine AllReadyH.cons (o := { dst := some 39, op := Op.call { callee := Callee.value (Operand.func 64), args := #[(Operand.tmp 38)], argTypes := #[3] }, type := _, pos := _, after := _, guard := _ }) rfl (fun K9 hK9 => ?_) (AllReadyH.cons (o := { dst := some 12, op := Op.alloc 93, type := _, pos := _, after := _, guard := _ }) rfl (fun K9 hK9 => ?_) AllReadyH.nil)
            · go_simp
              go_at_call 64
              refine (clb _).mono ?_
              rintro e w13 ⟨rfl, g13⟩
              go_wp2_with fail
              refine hK9.out _ _ (tr (tr (tr h0 g11) g12) g13) (fun _ => ?_)
              clear hK9 K9
              (try simp only [Act.put, List.setIfInBounds_toArray, List.set_cons_zero, List.set_cons_succ])
              refine wpAnyH_take (i := 15) (oi := { dst := some 40, op := Op.binOp BinOp.add 9 (Operand.tmp 36) (Operand.tmp 39) 9, type := _, pos := _, after := _, guard := _ }) (v := .string ((((B ++ ZB) ++ X) ++ ZX) ++ LB)) rfl (by kernel_rfl) (by kernel_rfl) (by kernel_rfl) (fun _ _ _ h => h) (Or.inl ⟨by rfl, fun V (hV : wr.grownBy V none) => by go_simp⟩) (tr (tr (tr h0 g11) g12) g13) ?_
              (try simp only [Act.put, List.setIfInBounds_toArray, List.set_cons_zero, List.set_cons_succ])
              refine wpAnyH_ready (rs := [18, 21]) (by kernel_rfl) (by simp) ?_
              refine AllReadyH.cons (o := { dst := some 43, op := Op.call { callee := Callee.value (Operand.func 64), args := #[(Operand.tmp 42)], argTypes := #[3] }, type := _, pos := _, after := _, guard := _ }) rfl (fun K9 hK9 => ?_) (AllReadyH.cons (o := { dst := some 12, op := Op.alloc 93, type := _, pos := _, after := _, guard := _ }) rfl (fun K9 hK9 => ?_) AllReadyH.nil)
              · go_simp
                go_at_call 64
                refine (clx _).mono ?_
                rintro e w14 ⟨rfl, g14⟩
                go_wp2_with fail
                refine hK9.out _ _ (tr (tr (tr (tr h0 g11) g12) g13) g14) (fun _ => ?_)
                clear hK9 K9
                (try simp only [Act.put, List.setIfInBounds_toArray, List.set_cons_zero, List.set_cons_succ])
                refine wpAnyH_take (i := 19) (oi := { dst := some 44, op := Op.binOp BinOp.add 9 (Operand.tmp 40) (Operand.tmp 43) 9, type := _, pos := _, after := _, guard := _ }) (v := .string (((((B ++ ZB) ++ X) ++ ZX) ++ LB) ++ LX)) rfl (by kernel_rfl) (by kernel_rfl) (by kernel_rfl) (fun _ _ _ h => h) (Or.inl ⟨by rfl, fun V (hV : wr.grownBy V none) => by go_simp⟩) (tr (tr (tr (tr h0 g11) g12) g13) g14) ?_
                (try simp only [Act.put, List.setIfInBounds_toArray, List.set_cons_zero, List.set_cons_succ])
                refine wpAnyH_ready (rs := [20, 21]) (by kernel_rfl) (by simp) ?_
                refine AllReadyH.cons (o := { dst := some 45, op := Op.call { callee := Callee.value (Operand.func 62), args := #[(Operand.tmp 25), (Operand.tmp 44)], argTypes := #[36, 9] }, type := _, pos := _, after := _, guard := _ }) rfl (fun K9 hK9 => ?_) (AllReadyH.cons (o := { dst := some 12, op := Op.alloc 93, type := _, pos := _, after := _, guard := _ }) rfl (fun K9 hK9 => ?_) AllReadyH.nil)
                · go_simp
                  go_at_call 62
                  refine (csum _).mono ?_
                  rintro e w15 ⟨rfl, g15⟩
                  go_wp2_with fail
                  refine hK9.out _ _ (tr (tr (tr (tr (tr h0 g11) g12) g13) g14) g15) (fun _ => ?_)
                  clear hK9 K9
                  (try simp only [Act.put, List.setIfInBounds_toArray, List.set_cons_zero, List.set_cons_succ])
                  refine wpAnyH_ready (rs := [21]) (by kernel_rfl) (by simp) ?_
                  refine AllReadyH.cons (o := { dst := some 12, op := Op.alloc 93, type := _, pos := _, after := _, guard := _ }) rfl (fun K9 hK9 => ?_) AllReadyH.nil
                  go_simp
                  refine hK9.out _ _ (gb_alloc (tr (tr (tr (tr (tr h0 g11) g12) g13) g14) g15) _) (fun _ => ?_)
                  clear hK9 K9
                  (try simp only [Act.put, List.setIfInBounds_toArray, List.set_cons_zero, List.set_cons_succ])
                  obtain ⟨Wa, hWa, hBa, gA⟩ := alloc_row16 (w15) Z (unhide HZ)
                  rw [← hWa]
                  have hp : wr.heap.size ≤ (w15).heap.size := ((tr (tr (tr (tr (tr h0 g11) g12) g13) g14) g15)).size
                  clear hWa
                  refine wpAnyH_ready (rs := [22]) (by kernel_rfl) (by simp) ?_
                  refine AllReadyH.cons (o := { dst := none, op := Op.store 93 (Operand.tmp 12) (Operand.tmp 45), type := _, pos := _, after := _, guard := _ }) rfl (fun K9 hK9 => ?_) AllReadyH.nil
                  rw [if_pos (by rfl)]
                  refine wp_store_row _ _ _ rfl ((w15).heap.size) _ rfl rfl _ _ hBa (by rw [unhide HST]; exact hi16) (by rw [unhide HST]; rfl) (all_oneCell_toArray (bv_one _)) ?_
                  refine hK9.out _ _ (gb_row (tr (tr (tr (tr (tr (tr h0 g11) g12) g13) g14) g15) gA) _ (Or.inl hp)) (fun _ => ?_)
                  clear hK9 K9
                  (try simp only [Act.put])
                  refine wpAnyH_done (by kernel_rfl) ?_ _
                  refine NoPanic.normal ?_
                  have hfB := (hBa).row (T.map bv)
                  have hfG := gb_row (tr (tr (tr (tr (tr (tr h0 g11) g12) g13) g14) g15) gA) (T.map bv).toArray (Or.inl hp)
                  have HFB := hide hfB
                  have HFG := hide hfG
                  clear hfB hfG
                  go_wp2
                  go_meet
                  case rel => exact ⟨_, rfl, hp, unhide HFB, unhide HFG⟩
                · go_simp
                  refine hK9.out _ _ (gb_alloc (tr (tr (tr (tr h0 g11) g12) g13) g14) _) (fun _ => ?_)
                  clear hK9 K9
                  (try simp only [Act.put, List.setIfInBounds_toArray, List.set_cons_zero, List.set_cons_succ])
                  obtain ⟨Wa, hWa, hBa, gA⟩ := alloc_row16 (w14) Z (unhide HZ)
                  rw [← hWa]
                  have hp : wr.heap.size ≤ (w14).heap.size := ((tr (tr (tr (tr h0 g11) g12) g13) g14)).size
                  clear hWa
                  refine wpAnyH_ready (rs := [20]) (by kernel_rfl) (by simp) ?_
                  refine AllReadyH.cons (o := { dst := some 45, op := Op.call { callee := Callee.value (Operand.func 62), args := #[(Operand.tmp 25), (Operand.tmp 44)], argTypes := #[36, 9] }, type := _, pos := _, after := _, guard := _ }) rfl (fun K9 hK9 => ?_) AllReadyH.nil
                  go_simp
                  go_at_call 62
                  refine (csum _).mono ?_
                  rintro e w15 ⟨rfl, g15⟩
                  go_wp2_with fail
                  refine hK9.out _ _ (tr (tr (tr (tr (tr (tr h0 g11) g12) g13) g14) gA) g15) (fun _ => ?_)
                  clear hK9 K9
                  (try simp only [Act.put, List.setIfInBounds_toArray, List.set_cons_zero, List.set_cons_succ])
                  refine wpAnyH_ready (rs := [22]) (by kernel_rfl) (by simp) ?_
                  refine AllReadyH.cons (o := { dst := none, op := Op.store 93 (Operand.tmp 12) (Operand.tmp 45), type := _, pos := _, after := _, guard := _ }) rfl (fun K9 hK9 => ?_) AllReadyH.nil
                  rw [if_pos (by rfl)]
                  refine wp_store_row _ _ _ rfl ((w14).heap.size) _ rfl rfl _ _ (hBa.kept g15 (by simp)) (by rw [unhide HST]; exact hi16) (by rw [unhide HST]; rfl) (all_oneCell_toArray (bv_one _)) ?_
                  refine hK9.out _ _ (gb_row (tr (tr (tr (tr (tr (tr h0 g11) g12) g13) g14) gA) g15) _ (Or.inl hp)) (fun _ => ?_)
                  clear hK9 K9
                  (try simp only [Act.put])
                  refine wpAnyH_done (by kernel_rfl) ?_ _
                  refine NoPanic.normal ?_
                  have hfB := ((hBa.kept g15 (by simp))).row (T.map bv)
                  have hfG := gb_row (tr (tr (tr (tr (tr (tr h0 g11) g12) g13) g14) gA) g15) (T.map bv).toArray (Or.inl hp)
                  have HFB := hide hfB
                  have HFG := hide hfG
                  clear hfB hfG
                  go_wp2
                  go_meet
                  case rel => exact ⟨_, rfl, hp, unhide HFB, unhide HFG⟩
              · go_simp
                refine hK9.out _ _ (gb_alloc (tr (tr (tr h0 g11) g12) g13) _) (fun _ => ?_)
                clear hK9 K9
                (try simp only [Act.put, List.setIfInBounds_toArray, List.set_cons_zero, List.set_cons_succ])
                obtain ⟨Wa, hWa, hBa, gA⟩ := alloc_row16 (w13) Z (unhide HZ)
                rw [← hWa]
                have hp : wr.heap.size ≤ (w13).heap.size := ((tr (tr (tr h0 g11) g12) g13)).size
                clear hWa
                refine wpAnyH_ready (rs := [18]) (by kernel_rfl) (by simp) ?_
                refine AllReadyH.cons (o := { dst := some 43, op := Op.call { callee := Callee.value (Operand.func 64), args := #[(Operand.tmp 42)], argTypes := #[3] }, type := _, pos := _, after := _, guard := _ }) rfl (fun K9 hK9 => ?_) AllReadyH.nil
                go_simp
                go_at_call 64
                refine (clx _).mono ?_
                rintro e w14 ⟨rfl, g14⟩
                go_wp2_with fail
                refine hK9.out _ _ (tr (tr (tr (tr (tr h0 g11) g12) g13) gA) g14) (fun _ => ?_)
                clear hK9 K9
                (try simp only [Act.put, List.setIfInBounds_toArray, List.set_cons_zero, List.set_cons_succ])
                refine wpAnyH_take (i := 19) (oi := { dst := some 44, op := Op.binOp BinOp.add 9 (Operand.tmp 40) (Operand.tmp 43) 9, type := _, pos := _, after := _, guard := _ }) (v := .string (((((B ++ ZB) ++ X) ++ ZX) ++ LB) ++ LX)) rfl (by kernel_rfl) (by kernel_rfl) (by kernel_rfl) (fun _ _ _ h => h) (Or.inl ⟨by rfl, fun V (hV : wr.grownBy V none) => by go_simp⟩) (tr (tr (tr (tr (tr h0 g11) g12) g13) gA) g14) ?_
                (try simp only [Act.put, List.setIfInBounds_toArray, List.set_cons_zero, List.set_cons_succ])
                refine wpAnyH_ready (rs := [20]) (by kernel_rfl) (by simp) ?_
                refine AllReadyH.cons (o := { dst := some 45, op := Op.call { callee := Callee.value (Operand.func 62), args := #[(Operand.tmp 25), (Operand.tmp 44)], argTypes := #[36, 9] }, type := _, pos := _, after := _, guard := _ }) rfl (fun K9 hK9 => ?_) AllReadyH.nil
                go_simp
                go_at_call 62
                refine (csum _).mono ?_
                rintro e w15 ⟨rfl, g15⟩
                go_wp2_with fail
                refine hK9.out _ _ (tr (tr (tr (tr (tr (tr h0 g11) g12) g13) gA) g14) g15) (fun _ => ?_)
                clear hK9 K9
                (try simp only [Act.put, List.setIfInBounds_toArray, List.set_cons_zero, List.set_cons_succ])
                refine wpAnyH_ready (rs := [22]) (by kernel_rfl) (by simp) ?_
                refine AllReadyH.cons (o := { dst := none, op := Op.store 93 (Operand.tmp 12) (Operand.tmp 45), type := _, pos := _, after := _, guard := _ }) rfl (fun K9 hK9 => ?_) AllReadyH.nil
                rw [if_pos (by rfl)]
                refine wp_store_row _ _ _ rfl ((w13).heap.size) _ rfl rfl _ _ ((hBa.kept g14 (by simp)).kept g15 (by simp)) (by rw [unhide HST]; exact hi16) (by rw [unhide HST]; rfl) (all_oneCell_toArray (bv_one _)) ?_
                refine hK9.out _ _ (gb_row (tr (tr (tr (tr (tr (tr h0 g11) g12) g13) gA) g14) g15) _ (Or.inl hp)) (fun _ => ?_)
                clear hK9 K9
                (try simp only [Act.put])
                refine wpAnyH_done (by kernel_rfl) ?_ _
                refine NoPanic.normal ?_
                have hfB := (((hBa.kept g14 (by simp)).kept g15 (by simp))).row (T.map bv)
                have hfG := gb_row (tr (tr (tr (tr (tr (tr h0 g11) g12) g13) gA) g14) g15) (T.map bv).toArray (Or.inl hp)
                have HFB := hide hfB
                have HFG := hide hfG
                clear hfB hfG
                go_wp2
                go_meet
                case rel => exact ⟨_, rfl, hp, unhide HFB, unhide HFG⟩
            · go_simp
              refine hK9.out _ _ (gb_alloc (tr (tr h0 g11) g12) _) (fun _ => ?_)
              clear hK9 K9
              (try simp only [Act.put, List.setIfInBounds_toArray, List.set_cons_zero, List.set_cons_succ])
              obtain ⟨Wa, hWa, hBa, gA⟩ := alloc_row16 (w12) Z (unhide HZ)
              rw [← hWa]
              have hp : wr.heap.size ≤ (w12).heap.size := ((tr (tr h0 g11) g12)).size
              clear hWa
              refine wpAnyH_ready (rs := [14]) (by kernel_rfl) (by simp) ?_
              refine AllReadyH.cons (o := { dst := some 39, op := Op.call { callee := Callee.value (Operand.func 64), args := #[(Operand.tmp 38)], argTypes := #[3] }, type := _, pos := _, after := _, guard := _ }) rfl (fun K9 hK9 => ?_) AllReadyH.nil
              go_simp
              go_at_call 64
              refine (clb _).mono ?_
              rintro e w13 ⟨rfl, g13⟩
              go_wp2_with fail
              refine hK9.out _ _ (tr (tr (tr (tr h0 g11) g12) gA) g13) (fun _ => ?_)
              clear hK9 K9
              (try simp only [Act.put, List.setIfInBounds_toArray, List.set_cons_zero, List.set_cons_succ])
              refine wpAnyH_take (i := 15) (oi := { dst := some 40, op := Op.binOp BinOp.add 9 (Operand.tmp 36) (Operand.tmp 39) 9, type := _, pos := _, after := _, guard := _ }) (v := .string ((((B ++ ZB) ++ X) ++ ZX) ++ LB)) rfl (by kernel_rfl) (by kernel_rfl) (by kernel_rfl) (fun _ _ _ h => h) (Or.inl ⟨by rfl, fun V (hV : wr.grownBy V none) => by go_simp⟩) (tr (tr (tr (tr h0 g11) g12) gA) g13) ?_
              (try simp only [Act.put, List.setIfInBounds_toArray, List.set_cons_zero, List.set_cons_succ])
              refine wpAnyH_ready (rs := [18]) (by kernel_rfl) (by simp) ?_
              refine AllReadyH.cons (o := { dst := some 43, op := Op.call { callee := Callee.value (Operand.func 64), args := #[(Operand.tmp 42)], argTypes := #[3] }, type := _, pos := _, after := _, guard := _ }) rfl (fun K9 hK9 => ?_) AllReadyH.nil
              go_simp
              go_at_call 64
              refine (clx _).mono ?_
              rintro e w14 ⟨rfl, g14⟩
              go_wp2_with fail
              refine hK9.out _ _ (tr (tr (tr (tr (tr h0 g11) g12) gA) g13) g14) (fun _ => ?_)
              clear hK9 K9
              (try simp only [Act.put, List.setIfInBounds_toArray, List.set_cons_zero, List.set_cons_succ])
              refine wpAnyH_take (i := 19) (oi := { dst := some 44, op := Op.binOp BinOp.add 9 (Operand.tmp 40) (Operand.tmp 43) 9, type := _, pos := _, after := _, guard := _ }) (v := .string (((((B ++ ZB) ++ X) ++ ZX) ++ LB) ++ LX)) rfl (by kernel_rfl) (by kernel_rfl) (by kernel_rfl) (fun _ _ _ h => h) (Or.inl ⟨by rfl, fun V (hV : wr.grownBy V none) => by go_simp⟩) (tr (tr (tr (tr (tr h0 g11) g12) gA) g13) g14) ?_
              (try simp only [Act.put, List.setIfInBounds_toArray, List.set_cons_zero, List.set_cons_succ])
              refine wpAnyH_ready (rs := [20]) (by kernel_rfl) (by simp) ?_
              refine AllReadyH.cons (o := { dst := some 45, op := Op.call { callee := Callee.value (Operand.func 62), args := #[(Operand.tmp 25), (Operand.tmp 44)], argTypes := #[36, 9] }, type := _, pos := _, after := _, guard := _ }) rfl (fun K9 hK9 => ?_) AllReadyH.nil
              go_simp
              go_at_call 62
              refine (csum _).mono ?_
              rintro e w15 ⟨rfl, g15⟩
              go_wp2_with fail
              refine hK9.out _ _ (tr (tr (tr (tr (tr (tr h0 g11) g12) gA) g13) g14) g15) (fun _ => ?_)
              clear hK9 K9
              (try simp only [Act.put, List.setIfInBounds_toArray, List.set_cons_zero, List.set_cons_succ])
              refine wpAnyH_ready (rs := [22]) (by kernel_rfl) (by simp) ?_
              refine AllReadyH.cons (o := { dst := none, op := Op.store 93 (Operand.tmp 12) (Operand.tmp 45), type := _, pos := _, after := _, guard := _ }) rfl (fun K9 hK9 => ?_) AllReadyH.nil
              rw [if_pos (by rfl)]
              refine wp_store_row _ _ _ rfl ((w12).heap.size) _ rfl rfl _ _ (((hBa.kept g13 (by simp)).kept g14 (by simp)).kept g15 (by simp)) (by rw [unhide HST]; exact hi16) (by rw [unhide HST]; rfl) (all_oneCell_toArray (bv_one _)) ?_
              refine hK9.out _ _ (gb_row (tr (tr (tr (tr (tr (tr h0 g11) g12) gA) g13) g14) g15) _ (Or.inl hp)) (fun _ => ?_)
              clear hK9 K9
              (try simp only [Act.put])
              refine wpAnyH_done (by kernel_rfl) ?_ _
              refine NoPanic.normal ?_
              have hfB := ((((hBa.kept g13 (by simp)).kept g14 (by simp)).kept g15 (by simp))).row (T.map bv)
              have hfG := gb_row (tr (tr (tr (tr (tr (tr h0 g11) g12) gA) g13) g14) g15) (T.map bv).toArray (Or.inl hp)
              have HFB := hide hfB
              have HFG := hide hfG
              clear hfB hfG
              go_wp2
              go_meet
              case rel => exact ⟨_, rfl, hp, unhide HFB, unhide HFG⟩
          · go_simp
            refine hK9.out _ _ (gb_alloc (tr h0 g11) _) (fun _ => ?_)
            clear hK9 K9
            (try simp only [Act.put, List.setIfInBounds_toArray, List.set_cons_zero, List.set_cons_succ])
            obtain ⟨Wa, hWa, hBa, gA⟩ := alloc_row16 (w11) Z (unhide HZ)
            rw [← hWa]
            have hp : wr.heap.size ≤ (w11).heap.size := ((tr h0 g11)).size
            clear hWa
            refine wpAnyH_ready (rs := [10]) (by kernel_rfl) (by simp) ?_
            refine AllReadyH.cons (o := { dst := some 35, op := Op.call { callee := Callee.value (Operand.func 63), args := #[(Operand.tmp 34)], argTypes := #[3] }, type := _, pos := _, after := _, guard := _ }) rfl (fun K9 hK9 => ?_) AllReadyH.nil
            go_simp
            go_at_call 63
            refine (czx _).mono ?_
            rintro e w12 ⟨rfl, g12⟩
            go_wp2_with fail
            refine hK9.out _ _ (tr (tr (tr h0 g11) gA) g12) (fun _ => ?_)
            clear hK9 K9
            (try simp only [Act.put, List.setIfInBounds_toArray, List.set_cons_zero, List.set_cons_succ])
            refine wpAnyH_take (i := 11) (oi := { dst := some 36, op := Op.binOp BinOp.add 9 (Operand.tmp 32) (Operand.tmp 35) 9, type := _, pos := _, after := _, guard := _ }) (v := .string (((B ++ ZB) ++ X) ++ ZX)) rfl (by kernel_rfl) (by kernel_rfl) (by kernel_rfl) (fun _ _ _ h => h) (Or.inl ⟨by rfl, fun V (hV : wr.grownBy V none) => by go_simp⟩) (tr (tr (tr h0 g11) gA) g12) ?_
            (try simp only [Act.put, List.setIfInBounds_toArray, List.set_cons_zero, List.set_cons_succ])
            refine wpAnyH_ready (rs := [14]) (by kernel_rfl) (by simp) ?_
            refine AllReadyH.cons (o := { dst := some 39, op := Op.call { callee := Callee.value (Operand.func 64), args := #[(Operand.tmp 38)], argTypes := #[3] }, type := _, pos := _, after := _, guard := _ }) rfl (fun K9 hK9 => ?_) AllReadyH.nil
            go_simp
            go_at_call 64
            refine (clb _).mono ?_
            rintro e w13 ⟨rfl, g13⟩
            go_wp2_with fail
            refine hK9.out _ _ (tr (tr (tr (tr h0 g11) gA) g12) g13) (fun _ => ?_)
            clear hK9 K9
            (try simp only [Act.put, List.setIfInBounds_toArray, List.set_cons_zero, List.set_cons_succ])
            refine wpAnyH_take (i := 15) (oi := { dst := some 40, op := Op.binOp BinOp.add 9 (Operand.tmp 36) (Operand.tmp 39) 9, type := _, pos := _, after := _, guard := _ }) (v := .string ((((B ++ ZB) ++ X) ++ ZX) ++ LB)) rfl (by kernel_rfl) (by kernel_rfl) (by kernel_rfl) (fun _ _ _ h => h) (Or.inl ⟨by rfl, fun V (hV : wr.grownBy V none) => by go_simp⟩) (tr (tr (tr (tr h0 g11) gA) g12) g13) ?_
            (try simp only [Act.put, List.setIfInBounds_toArray, List.set_cons_zero, List.set_cons_succ])
            refine wpAnyH_ready (rs := [18]) (by kernel_rfl) (by simp) ?_
            refine AllReadyH.cons (o := { dst := some 43, op := Op.call { callee := Callee.value (Operand.func 64), args := #[(Operand.tmp 42)], argTypes := #[3] }, type := _, pos := _, after := _, guard := _ }) rfl (fun K9 hK9 => ?_) AllReadyH.nil
            go_simp
            go_at_call 64
            refine (clx _).mono ?_
            rintro e w14 ⟨rfl, g14⟩
            go_wp2_with fail
            refine hK9.out _ _ (tr (tr (tr (tr (tr h0 g11) gA) g12) g13) g14) (fun _ => ?_)
            clear hK9 K9
            (try simp only [Act.put, List.setIfInBounds_toArray, List.set_cons_zero, List.set_cons_succ])
            refine wpAnyH_take (i := 19) (oi := { dst := some 44, op := Op.binOp BinOp.add 9 (Operand.tmp 40) (Operand.tmp 43) 9, type := _, pos := _, after := _, guard := _ }) (v := .string (((((B ++ ZB) ++ X) ++ ZX) ++ LB) ++ LX)) rfl (by kernel_rfl) (by kernel_rfl) (by kernel_rfl) (fun _ _ _ h => h) (Or.inl ⟨by rfl, fun V (hV : wr.grownBy V none) => by go_simp⟩) (tr (tr (tr (tr (tr h0 g11) gA) g12) g13) g14) ?_
            (try simp only [Act.put, List.setIfInBounds_toArray, List.set_cons_zero, List.set_cons_succ])
            refine wpAnyH_ready (rs := [20]) (by kernel_rfl) (by simp) ?_
            refine AllReadyH.cons (o := { dst := some 45, op := Op.call { callee := Callee.value (Operand.func 62), args := #[(Operand.tmp 25), (Operand.tmp 44)], argTypes := #[36, 9] }, type := _, pos := _, after := _, guard := _ }) rfl (fun K9 hK9 => ?_) AllReadyH.nil
            go_simp
            go_at_call 62
            refine (csum _).mono ?_
            rintro e w15 ⟨rfl, g15⟩
            go_wp2_with fail
            refine hK9.out _ _ (tr (tr (tr (tr (tr (tr h0 g11) gA) g12) g13) g14) g15) (fun _ => ?_)
            clear hK9 K9
            (try simp only [Act.put, List.setIfInBounds_toArray, List.set_cons_zero, List.set_cons_succ])
            refine wpAnyH_ready (rs := [22]) (by kernel_rfl) (by simp) ?_
            refine AllReadyH.cons (o := { dst := none, op := Op.store 93 (Operand.tmp 12) (Operand.tmp 45), type := _, pos := _, after := _, guard := _ }) rfl (fun K9 hK9 => ?_) AllReadyH.nil
            rw [if_pos (by rfl)]
            refine wp_store_row _ _ _ rfl ((w11).heap.size) _ rfl rfl _ _ ((((hBa.kept g12 (by simp)).kept g13 (by simp)).kept g14 (by simp)).kept g15 (by simp)) (by rw [unhide HST]; exact hi16) (by rw [unhide HST]; rfl) (all_oneCell_toArray (bv_one _)) ?_
            refine hK9.out _ _ (gb_row (tr (tr (tr (tr (tr (tr h0 g11) gA) g12) g13) g14) g15) _ (Or.inl hp)) (fun _ => ?_)
            clear hK9 K9
            (try simp only [Act.put])
            refine wpAnyH_done (by kernel_rfl) ?_ _
            refine NoPanic.normal ?_
            have hfB := (((((hBa.kept g12 (by simp)).kept g13 (by simp)).kept g14 (by simp)).kept g15 (by simp))).row (T.map bv)
            have hfG := gb_row (tr (tr (tr (tr (tr (tr h0 g11) gA) g12) g13) g14) g15) (T.map bv).toArray (Or.inl hp)
            have HFB := hide hfB
            have HFG := hide hfG
            clear hfB hfG
            go_wp2
            go_meet
            case rel => exact ⟨_, rfl, hp, unhide HFB, unhide HFG⟩
        · go_simp
          refine hK9.out _ _ (gb_alloc h0 _) (fun _ => ?_)
          clear hK9 K9
          (try simp only [Act.put, List.setIfInBounds_toArray, List.set_cons_zero, List.set_cons_succ])
          obtain ⟨Wa, hWa, hBa, gA⟩ := alloc_row16 (wr.drew) Z (unhide HZ)
          rw [show (wr.alloc (.cells Z 93)).drew = Wa by rw [hWa]; rfl]
          have hp : wr.heap.size ≤ (wr.drew).heap.size := (h0).size
          clear hWa
          refine wpAnyH_ready (rs := [4]) (by kernel_rfl) (by simp) ?_
          refine AllReadyH.cons (o := { dst := some 29, op := Op.call { callee := Callee.value (Operand.func 63), args := #[(Operand.tmp 28)], argTypes := #[3] }, type := _, pos := _, after := _, guard := _ }) rfl (fun K9 hK9 => ?_) AllReadyH.nil
          go_simp
          go_at_call 63
          refine (czb _).mono ?_
          rintro e w11 ⟨rfl, g11⟩
          go_wp2_with fail
          refine hK9.out _ _ (tr (tr h0 gA) g11) (fun _ => ?_)
          clear hK9 K9
          (try simp only [Act.put, List.setIfInBounds_toArray, List.set_cons_zero, List.set_cons_succ])
          refine wpAnyH_take (i := 5) (oi := { dst := some 30, op := Op.binOp BinOp.add 9 (Operand.tmp 26) (Operand.tmp 29) 9, type := _, pos := _, after := _, guard := _ }) (v := .string (B ++ ZB)) rfl (by kernel_rfl) (by kernel_rfl) (by kernel_rfl) (fun _ _ _ h => h) (Or.inl ⟨by rfl, fun V (hV : wr.grownBy V none) => by go_simp⟩) (tr (tr h0 gA) g11) ?_
          (try simp only [Act.put, List.setIfInBounds_toArray, List.set_cons_zero, List.set_cons_succ])
          refine wpAnyH_take (i := 7) (oi := { dst := some 32, op := Op.binOp BinOp.add 9 (Operand.tmp 30) (Operand.tmp 31) 9, type := _, pos := _, after := _, guard := _ }) (v := .string ((B ++ ZB) ++ X)) rfl (by kernel_rfl) (by kernel_rfl) (by kernel_rfl) (fun _ _ _ h => h) (Or.inl ⟨by rfl, fun V (hV : wr.grownBy V none) => by go_simp⟩) (tr (tr h0 gA) g11) ?_
          (try simp only [Act.put, List.setIfInBounds_toArray, List.set_cons_zero, List.set_cons_succ])
          refine wpAnyH_ready (rs := [10]) (by kernel_rfl) (by simp) ?_
          refine AllReadyH.cons (o := { dst := some 35, op := Op.call { callee := Callee.value (Operand.func 63), args := #[(Operand.tmp 34)], argTypes := #[3] }, type := _, pos := _, after := _, guard := _ }) rfl (fun K9 hK9 => ?_) AllReadyH.nil
          go_simp
          go_at_call 63
          refine (czx _).mono ?_
          rintro e w12 ⟨rfl, g12⟩
          go_wp2_with fail
          refine hK9.out _ _ (tr (tr (tr h0 gA) g11) g12) (fun _ => ?_)
          clear hK9 K9
          (try simp only [Act.put, List.setIfInBounds_toArray, List.set_cons_zero, List.set_cons_succ])
          refine wpAnyH_take (i := 11) (oi := { dst := some 36, op := Op.binOp BinOp.add 9 (Operand.tmp 32) (Operand.tmp 35) 9, type := _, pos := _, after := _, guard := _ }) (v := .string (((B ++ ZB) ++ X) ++ ZX)) rfl (by kernel_rfl) (by kernel_rfl) (by kernel_rfl) (fun _ _ _ h => h) (Or.inl ⟨by rfl, fun V (hV : wr.grownBy V none) => by go_simp⟩) (tr (tr (tr h0 gA) g11) g12) ?_
          (try simp only [Act.put, List.setIfInBounds_toArray, List.set_cons_zero, List.set_cons_succ])
          refine wpAnyH_ready (rs := [14]) (by kernel_rfl) (by simp) ?_
          refine AllReadyH.cons (o := { dst := some 39, op := Op.call { callee := Callee.value (Operand.func 64), args := #[(Operand.tmp 38)], argTypes := #[3] }, type := _, pos := _, after := _, guard := _ }) rfl (fun K9 hK9 => ?_) AllReadyH.nil
          go_simp
          go_at_call 64
          refine (clb _).mono ?_
          rintro e w13 ⟨rfl, g13⟩
          go_wp2_with fail
          refine hK9.out _ _ (tr (tr (tr (tr h0 gA) g11) g12) g13) (fun _ => ?_)
          clear hK9 K9
          (try simp only [Act.put, List.setIfInBounds_toArray, List.set_cons_zero, List.set_cons_succ])
          refine wpAnyH_take (i := 15) (oi := { dst := some 40, op := Op.binOp BinOp.add 9 (Operand.tmp 36) (Operand.tmp 39) 9, type := _, pos := _, after := _, guard := _ }) (v := .string ((((B ++ ZB) ++ X) ++ ZX) ++ LB)) rfl (by kernel_rfl) (by kernel_rfl) (by kernel_rfl) (fun _ _ _ h => h) (Or.inl ⟨by rfl, fun V (hV : wr.grownBy V none) => by go_simp⟩) (tr (tr (tr (tr h0 gA) g11) g12) g13) ?_
          (try simp only [Act.put, List.setIfInBounds_toArray, List.set_cons_zero, List.set_cons_succ])
          refine wpAnyH_ready (rs := [18]) (by kernel_rfl) (by simp) ?_
          refine AllReadyH.cons (o := { dst := some 43, op := Op.call { callee := Callee.value (Operand.func 64), args := #[(Operand.tmp 42)], argTypes := #[3] }, type := _, pos := _, after := _, guard := _ }) rfl (fun K9 hK9 => ?_) AllReadyH.nil
          go_simp
          go_at_call 64
          refine (clx _).mono ?_
          rintro e w14 ⟨rfl, g14⟩
          go_wp2_with fail
          refine hK9.out _ _ (tr (tr (tr (tr (tr h0 gA) g11) g12) g13) g14) (fun _ => ?_)
          clear hK9 K9
          (try simp only [Act.put, List.setIfInBounds_toArray, List.set_cons_zero, List.set_cons_succ])
          refine wpAnyH_take (i := 19) (oi := { dst := some 44, op := Op.binOp BinOp.add 9 (Operand.tmp 40) (Operand.tmp 43) 9, type := _, pos := _, after := _, guard := _ }) (v := .string (((((B ++ ZB) ++ X) ++ ZX) ++ LB) ++ LX)) rfl (by kernel_rfl) (by kernel_rfl) (by kernel_rfl) (fun _ _ _ h => h) (Or.inl ⟨by rfl, fun V (hV : wr.grownBy V none) => by go_simp⟩) (tr (tr (tr (tr (tr h0 gA) g11) g12) g13) g14) ?_
          (try simp only [Act.put, List.setIfInBounds_toArray, List.set_cons_zero, List.set_cons_succ])
          refine wpAnyH_ready (rs := [20]) (by kernel_rfl) (by simp) ?_
          refine AllReadyH.cons (o := { dst := some 45, op := Op.call { callee := Callee.value (Operand.func 62), args := #[(Operand.tmp 25), (Operand.tmp 44)], argTypes := #[36, 9] }, type := _, pos := _, after := _, guard := _ }) rfl (fun K9 hK9 => ?_) AllReadyH.nil
          go_simp
          go_at_call 62
          refine (csum _).mono ?_
          rintro e w15 ⟨rfl, g15⟩
          go_wp2_with fail
          refine hK9.out _ _ (tr (tr (tr (tr (tr (tr h0 gA) g11) g12) g13) g14) g15) (fun _ => ?_)
          clear hK9 K9
          (try simp only [Act.put, List.setIfInBounds_toArray, List.set_cons_zero, List.set_cons_succ])
          refine wpAnyH_ready (rs := [22]) (by kernel_rfl) (by simp) ?_
          refine AllReadyH.cons (o := { dst := none, op := Op.store 93 (Operand.tmp 12) (Operand.tmp 45), type := _, pos := _, after := _, guard := _ }) rfl (fun K9 hK9 => ?_) AllReadyH.nil
          rw [if_pos (by rfl)]
          refine wp_store_row _ _ _ rfl ((wr.drew).heap.size) _ rfl rfl _ _ (((((hBa.kept g11 (by simp)).kept g12 (by simp)).kept g13 (by simp)).kept g14 (by simp)).kept g15 (by simp)) (by rw [unhide HST]; exact hi16) (by rw [unhide HST]; rfl) (all_oneCell_toArray (bv_one _)) ?_
          refine hK9.out _ _ (gb_row (tr (tr (tr (tr (tr (tr h0 gA) g11) g12) g13) g14) g15) _ (Or.inl hp)) (fun _ => ?_)
          clear hK9 K9
          (try simp only [Act.put])
          refine wpAnyH_done (by kernel_rfl) ?_ _
          refine NoPanic.normal ?_
          have hfB := ((((((hBa.kept g11 (by simp)).kept g12 (by simp)).kept g13 (by simp)).kept g14 (by simp)).kept g15 (by simp))).row (T.map bv)
          have hfG := gb_row (tr (tr (tr (tr (tr (tr h0 gA) g11) g12) g13) g14) g15) (T.map bv).toArray (Or.inl hp)
          have HFB := hide hfB
          have HFG := hide hfG
          clear hfB hfG
          go_wp2
          go_meet
          case rel => exact ⟨_, rfl, hp, unhide HFB, unhide HFG⟩
      case rest =>
        obtain ⟨p, rfl, hp, hX, gc⟩ := hcut
        have hcv := conv_str (blk_bytes hX 16 (by rw [unhide HTL]; omega) (by decide))
        rw [unhide HTL] at hcv
        clear hX hp
        go_wp2
        go_ret
        exact ⟨by rw [unhide HTR]; rfl, tr hg gc⟩
end Go.Proofs.YtjckdgapefaokaaDoor
