/- PolyLinear's walk: whatever the three arrays, the call returns true and nothing that was in memory has changed. -/
import Derived.Test.YtagdileacidnjaaPKey
import Derived.Test.YtagdileacidnjaaMApp
import Derived.Deep.DrawnRows
import Derived.Deep.MidRow
import Derived.Deep.DeepCutAuto
import Derived.Deep.CutBlock
import Derived.Laws.Cover3
namespace Go.Proofs.Ytagdileacidnjaa
open Go.RowKit
attribute [local go_sem ↓] Go.wp_at_zero Go.wp_at_succ

def k1 : List UInt8 := 1 :: List.replicate 31 0
theorem built_k1 : Try.prog.built 22 [(0, .int .u8 1)] = some (k1.map bv).toArray := by kernel_rfl
theorem alloc_tag (w2 : World) (Z : Array Value) (hZ : Z = (zero16L.map bv).toArray) : ∃ W3, W3 = w2.alloc (.cells Z 24) ∧ Blk W3 w2.heap.size 24 (zero16L.map bv) ∧ w2.grownBy W3 none := by
  refine ⟨_, rfl, ?_, gb_alloc (gb_refl _ _) _⟩
  subst hZ
  exact Blk.new w2 24 (zero16L.map bv)

/-- A region whose operations go in their order: the row of them has a name, so that nothing is reckoned ahead of time. -/
theorem region_named {P : Program} {Q : Exit → Act → World → Prop} {a : Act} {w : World} {id : Nat} {l : List Oper} (h : ∀ O : Array Oper, O = l.toArray → wpList P O Q l a w) : (Code.region id l.toArray false).wp P Q a w :=
  wp_region_lit (h _ rfl)
/-- An operation that hangs on a guard: where it says yes, by its value, or by its call; and where it says no. -/
theorem wpList_val {P : Program} {ops : Array Oper} {rest : List Oper} {o : Oper} {a : Act} {w : World} {Q : Exit → Act → World → Prop} (hw : Region.wanted o (yielded ops a.tmps) = true) (v : Value)
    (hv : ∀ K : Act → World → Prop, K (a.put o.dst v) w → o.wp P a w K Q) (h : wpList P ops Q rest (a.put o.dst v) w) : wpList P ops Q (o :: rest) a w :=
  wpList_step fun K hK => by rw [if_pos hw]; exact hv K (hK _ _ h)
theorem wpList_want {P : Program} {ops : Array Oper} {rest : List Oper} {o : Oper} {a : Act} {w : World} {Q : Exit → Act → World → Prop} (hw : Region.wanted o (yielded ops a.tmps) = true)
    (h : ∀ K : Act → World → Prop, (∀ a w, wpList P ops Q rest a w → K a w) → o.wp P a w K Q) : wpList P ops Q (o :: rest) a w :=
  wpList_step fun K hK => by rw [if_pos hw]; exact h K hK
theorem wpList_skip {P : Program} {ops : Array Oper} {rest : List Oper} {o : Oper} {a : Act} {w : World} {Q : Exit → Act → World → Prop} (hw : Region.wanted o (yielded ops a.tmps) = false)
    (h : wpList P ops Q rest (a.put o.dst undef) w) : wpList P ops Q (o :: rest) a w :=
  wpList_step fun K hK => by rw [hw, if_neg (by simp)]; exact hK _ _ h

set_option maxRecDepth 100000 in
set_option maxHeartbeats 4000000 in
theorem polyLinear_any (w : World) (a : List UInt8) (ha : a.length = 16) (b : List UInt8) (hb : b.length = 16) (s : List UInt8) (hs : s.length = 16) :
    Calls Try.prog 5 #[.agg (a.map bv).toArray, .agg (b.map bv).toArray, .agg (s.map bv).toArray] w fun e w' => e = .returned (.bool true) ∧ w.grownBy w' none := by
  have tr : ∀ {x y z : World}, x.grownBy y none → y.grownBy z none → x.grownBy z none := fun h k => gb_trans h k (fun _ e => by cases e)
  have hi16 : (Try.prog.info? 24).map (·.size) = some 16 := by kernel_rfl
  have hi32 : (Try.prog.info? 22).map (·.size) = some 32 := by kernel_rfl
  obtain ⟨AA, hAA⟩ : ∃ A : Array Value, A = (a.map bv).toArray := ⟨_, rfl⟩
  obtain ⟨BA, hBA⟩ : ∃ A : Array Value, A = (b.map bv).toArray := ⟨_, rfl⟩
  obtain ⟨SA, hSA⟩ : ∃ A : Array Value, A = (s.map bv).toArray := ⟨_, rfl⟩
  obtain ⟨Z, hZ⟩ : ∃ A : Array Value, A = (zero16L.map bv).toArray := ⟨_, rfl⟩
  have hz : ∀ w : World, (zeroValue 24).run Try.prog w = .ok (.agg Z) w := by rw [hZ]; exact zero16b
  obtain ⟨Y, hY⟩ : ∃ A : Array Value, A = ((List.replicate 32 (0 : UInt8)).map bv).toArray := ⟨_, rfl⟩
  have hy := zero32b
  rw [← hY] at hy
  obtain ⟨k, hk⟩ : ∃ k, k = k1 := ⟨_, rfl⟩
  have hbk := built_k1
  rw [← hk] at hbk
  have hkl : k.length = 32 := by rw [hk]; rfl
  have hsK : ((k.map bv).toArray).size = 32 := by simp [hkl]
  obtain ⟨W1, hW1⟩ : ∃ W1, W1 = ((w.alloc (.cells AA 24)).alloc (.cells BA 24)).alloc (.cells SA 24) := ⟨_, rfl⟩
  have hs1 : W1.heap.size = w.heap.size + 3 := by rw [hW1, World.size_alloc, World.size_alloc, World.size_alloc]
  have hg1 : w.grownBy W1 none := by rw [hW1]; exact gb_alloc (gb_alloc (gb_alloc (gb_refl _ _) _) _) _
  have hA1 : Blk W1 w.heap.size 24 (a.map bv) := by rw [hW1, hAA]; exact ((Blk.new w 24 _).alloc _).alloc _
  have hB1 : Blk W1 (w.heap.size + 1) 24 (b.map bv) := by
    have := (Blk.new (w.alloc (.cells AA 24)) 24 (b.map bv)).alloc (.cells SA 24)
    rw [World.size_alloc] at this
    rw [hW1, hBA]; exact this
  have hS1 : Blk W1 (w.heap.size + 2) 24 (s.map bv) := by
    have := Blk.new ((w.alloc (.cells AA 24)).alloc (.cells BA 24)) 24 (s.map bv)
    rw [World.size_alloc, World.size_alloc] at this
    rw [hW1, hSA]; exact this
  obtain ⟨W2, hW2⟩ : ∃ W2, W2 = W1.alloc (.cells Y 22) := ⟨_, rfl⟩
  have hN2 : Blk W2 (w.heap.size + 3) 22 ((List.replicate 32 (0 : UInt8)).map bv) := by
    have := Blk.new W1 22 ((List.replicate 32 (0 : UInt8)).map bv)
    rw [hs1] at this
    rw [hW2, hY]; exact this
  obtain ⟨W3, hW3⟩ : ∃ W3, W3 = W2.setRow (w.heap.size + 3) (k.map bv).toArray := ⟨_, rfl⟩
  have hK3 : Blk W3 (w.heap.size + 3) 22 ((keyS k s 0).map bv) := by rw [hW3, keyS_none k s hkl]; exact hN2.row _
  have hA3 : Blk W3 w.heap.size 24 (a.map bv) := by rw [hW3, hW2]; exact (hA1.alloc _).row_other _ _ (by omega)
  have hB3 : Blk W3 (w.heap.size + 1) 24 (b.map bv) := by rw [hW3, hW2]; exact (hB1.alloc _).row_other _ _ (by omega)
  have hS3 : Blk W3 (w.heap.size + 2) 24 (s.map bv) := by rw [hW3, hW2]; exact (hS1.alloc _).row_other _ _ (by omega)
  have hg3 : w.grownBy W3 none := by rw [hW3, hW2]; exact gb_row (gb_alloc hg1 _) _ (Or.inl (by omega))
  rw [← hAA, ← hBA, ← hSA]
  have HA := hide ha
  have HB := hide hb
  have HS := hide hs
  have HKL := hide hkl
  have HKE := hide hk
  have HBK := hide hbk
  have HSK := hide hsK
  have HZ := hide hZ
  have HW1 := hide hW1
  have HW2 := hide hW2
  have HN2 := hide hN2
  have HW3 := hide hW3
  have HK3 := hide hK3
  have HA3 := hide hA3
  have HB3 := hide hB3
  have HS3 := hide hS3
  clear ha hb hs hAA hBA hSA hZ hY hk hbk hkl hsK hW1 hg1 hA1 hB1 hS1 hW2 hN2 hW3 hK3 hA3 hB3 hS3
  go_enter Try.func5, Try.ntmps5
  go_wp2_with (first
    | (rw [← unhide HW1]; refine wpList_known rfl 22 _ rfl (k.map bv).toArray ?_ ?_; (first | exact unhide HBK | (rw [unhide HKE]; kernel_rfl)))
    | (rw [← unhide HW2]; refine wpList_store_row rfl 22 _ _ rfl (w.heap.size + 3) _ rfl rfl _ _ (unhide HN2) ?_ ?_ ?_ ?_; (rw [unhide HSK]; exact hi32); (rw [unhide HSK]; rfl); (exact all_oneCell_toArray (bv_one _)); rw [← unhide HW3]))
  go_loopw [8] (fun i wr => ∃ r : Nat, r ≤ 16 ∧ i = .int .i64 (r : Int) ∧ Blk wr (w.heap.size + 3) 22 ((keyS k s r).map bv) ∧ Blk wr w.heap.size 24 (a.map bv) ∧ Blk wr (w.heap.size + 1) 24 (b.map bv) ∧ Blk wr (w.heap.size + 2) 24 (s.map bv) ∧ w.grownBy wr none) (fun i _ => 16 - (intOf i).toNat)
  case atStart => exact ⟨0, Nat.zero_le _, rfl, unhide HK3, unhide HA3, unhide HB3, unhide HS3, hg3⟩
  case round =>
    clear HK3 HA3 HB3 HS3 hg3 HW1 HW2 HW3 HN2
    obtain ⟨r, hr, rfl, hK, hA, hB, hS, hg⟩ := hrel
    by_cases hlt : r < 16
    · have q0 : (0 : Int) ≤ (r : Int) := by omega
      have q1 : (r : Int) < 16 := by omega
      obtain ⟨q, hq⟩ : ∃ q, q = 16 + r := ⟨_, rfl⟩
      have q2 : (16 : Int) + (r : Int) = (q : Int) := by omega
      have q3 : (q : Int) < 32 := by omega
      have q4 : (0 : Int) ≤ (q : Int) := by omega
      have q5 : IntKind.i64.wrap (q : Int) = (q : Int) := by rw [IntKind.wrap_i64]; omega
      obtain ⟨x, hx⟩ : ∃ x, x = at8 s r := ⟨_, rfl⟩
      have hc := byte_at hS r (by rw [unhide HS]; exact hlt)
      rw [← hx] at hc
      obtain ⟨y, hy2⟩ : ∃ y, y = (k.getD (16 + r) 0).toNat := ⟨_, rfl⟩
      have hc2 : wr.cell? ⟨w.heap.size + 3, q, none⟩ = some (.int .u8 (y : Int)) := by
        rw [hK.cell, hq, keyS_at k s r hlt, hy2]; rfl
      have hfz := hK.fz q
      have hK2 : Blk (wr.setCell ⟨w.heap.size + 3, q, none⟩ (.int .u8 (x : Int))) (w.heap.size + 3) 22 ((keyS k s (r + 1)).map bv) := by
        rw [← keyS_set, List.map_set, ← hq, hx]; exact hK.set q (bv (s.getD r 0))
      have HK2 := hide hK2
      have HA2 := hide (hA.other ⟨w.heap.size + 3, q, none⟩ (.int .u8 (x : Int)) (by simp))
      have HB2 := hide (hB.other ⟨w.heap.size + 3, q, none⟩ (.int .u8 (x : Int)) (by simp))
      have HS2 := hide (hS.other ⟨w.heap.size + 3, q, none⟩ (.int .u8 (x : Int)) (by simp))
      clear hK hA hB hS hK2 hq hx hy2
      go_wp2
      go_roundw
      case rel => exact ⟨r + 1, by omega, by go_num, unhide HK2, unhide HA2, unhide HB2, unhide HS2, gb_setCell hg _ _ (Or.inl (by simp))⟩
      case measure => simp [intOf]; omega
    · obtain rfl : r = 16 := by omega
      rw [show ((16 : Nat) : Int) = 16 from rfl]
      rw [keyS_all k s (unhide HKL) (unhide HS)] at hK
      obtain ⟨K, hKe⟩ : ∃ K, K = (1 :: List.replicate 15 0) ++ s := ⟨_, rfl⟩
      rw [show k.take 16 ++ s = K by rw [hKe, unhide HKE]; rfl] at hK
      have hKl : K.length = 32 := by rw [hKe]; simp [unhide HS]
      obtain ⟨T, hT⟩ : ∃ T, T = tagL K (a ++ b) := ⟨_, rfl⟩
      have hT2 : T = tagL K (b ++ a) := by rw [hT, hKe]; exact tag_turned s a b (unhide HA) (unhide HB)
      have hTl : T.length = 16 := by rw [hT]; exact tagL_length _ _
      have hsT : ((T.map bv).toArray).size = 16 := by simp [hTl]
      have hrK := blk_range5 hK
      have hiK : (Try.prog.info? 22).map (·.size) = some (K.map bv).length := by rw [List.length_map, hKl]; exact hi32
      have slA : ∀ (p : Nat) (W : World), (Instr.sliceAt 24 (.pointer (some ⟨p, 0, none⟩)) none none none).run Try.prog W = .ok (.slice (some ⟨p, 0, none⟩) 16 16) W := fun p W => slice_whole5 24 5 16 Try.underlying24 size_byte p 0 (by omega) W
      have bA : ∀ V, wr.grownBy V none → Bts V (some ⟨w.heap.size, 0, none⟩) 16 a := fun V gV => blk_bytes (hA.kept gV (by simp)) 16 (by rw [unhide HA]; omega) (by decide)
      have bB : ∀ V, wr.grownBy V none → Bts V (some ⟨w.heap.size + 1, 0, none⟩) 16 b := fun V gV => blk_bytes (hB.kept gV (by simp)) 16 (by rw [unhide HB]; omega) (by decide)
      have lA : 16 = a.length := (unhide HA).symm
      have lB : 16 = b.length := (unhide HB).symm
      have csum : ∀ (U V : World) v x y, (T = tagL K (x ++ y)) → x.length = 16 → y.length = 16 → U.grownBy V none → V.ownsRow U.heap.size 5 1 v (0 + x.length + y.length) (([] ++ x.map bv) ++ y.map bv) → Calls Try.prog 7 #[.agg (K.map bv).toArray, v] V fun e w' => e = .returned (.agg (T.map bv).toArray) ∧ V.grownBy w' none := by
        intro U V v x y hTe hx hy gV hO
        have hO2 : V.ownsRow U.heap.size 5 1 v (x ++ y).length ((x ++ y).map bv) := by
          rw [List.length_append, List.map_append]; simpa using hO
        obtain ⟨lo, c5, rfl, hb5, -⟩ := NewB.own hO2
        rw [hTe]
        exact psum_any V K hKl lo c5 (x ++ y) hb5 (by rw [List.length_append]; omega)
      have h0 : wr.grownBy wr.drew none := gb_drew (gb_refl _ _)
      have HK := hide hK
      have HA4 := hide hA
      have HB4 := hide hB
      have HS4 := hide hS
      have HT := hide hT
      have HT2 := hide hT2
      have HTL := hide hTl
      have HST := hide hsT
      have HKE2 := hide hKe
      have HLA := hide lA
      have HLB := hide lB
      clear hK hA hB hS hT hT2 hTl hsT hKe hr hlt lA lB
      go_upto_region 6 with fail
      go_cut [9] (fun x9 wx => ∃ p : Nat, x9 = .pointer (some ⟨p, 0, none⟩) ∧ wr.heap.size ≤ p ∧ Blk wx p 24 (T.map bv) ∧ wr.grownBy wx none)
      case first =>
        refine wp_region_noPanic ?_
        refine wp_region_held_drew (S := fun V => wr.grownBy V none) (by kernel_rfl) h0 (fun _ => ?_)
        refine wpAnyH_take (i := 0) (oi := { dst := some 25, op := Op.load 22 (Operand.tmp 7), type := _, pos := _, after := _, guard := _ }) (v := .agg (K.map bv).toArray) rfl (by kernel_rfl) (by kernel_rfl) (by kernel_rfl) (fun _ _ _ h => h) (yieldsIf_load_mid (by rfl) _ _ rfl _ _ rfl (K.map bv) _ (fun V hV => range_kept hrK hV (by simp)) Try.underlying22 rfl hiK) h0 ?_
        (try simp only [Act.put, List.setIfInBounds_toArray, List.set_cons_zero, List.set_cons_succ])
        refine wpAnyH_take (i := 2) (oi := { dst := some 27, op := Op.slice 24 (Operand.tmp 3) none none none, type := _, pos := _, after := _, guard := _ }) (v := .slice (some ⟨w.heap.size, 0, none⟩) 16 16) rfl (by kernel_rfl) (by kernel_rfl) (by kernel_rfl) (fun _ _ _ h => h) (Or.inl ⟨by rfl, fun V (hV : wr.grownBy V none) => by go_simp⟩) h0 ?_
        (try simp only [Act.put, List.setIfInBounds_toArray, List.set_cons_zero, List.set_cons_succ])
        refine wpAnyH_take (i := 4) (oi := { dst := some 29, op := Op.slice 24 (Operand.tmp 4) none none none, type := _, pos := _, after := _, guard := _ }) (v := .slice (some ⟨w.heap.size + 1, 0, none⟩) 16 16) rfl (by kernel_rfl) (by kernel_rfl) (by kernel_rfl) (fun _ _ _ h => h) (Or.inl ⟨by rfl, fun V (hV : wr.grownBy V none) => by go_simp⟩) h0 ?_
        (try simp only [Act.put, List.setIfInBounds_toArray, List.set_cons_zero, List.set_cons_succ])
        refine wpAnyH_ready (rs := [1, 7]) (by kernel_rfl) (by simp) ?_
        refine AllReadyH.cons (o := { dst := some 26, op := Op.buildSlice 23 0 #[], type := _, pos := _, after := _, guard := _ }) rfl (fun K9 hK9 => ?_) (AllReadyH.cons (o := { dst := some 9, op := Op.alloc 24, type := _, pos := _, after := _, guard := _ }) rfl (fun K9 hK9 => ?_) AllReadyH.nil)
        · go_simp
          refine hK9.out _ _ (gb_alloc h0 _) (fun _ => ?_)
          clear hK9 K9
          (try simp only [Act.put, List.setIfInBounds_toArray, List.set_cons_zero, List.set_cons_succ])
          obtain ⟨Wb, hWb, oB, gB⟩ := own_new (wr.drew) wr.heap.size (h0).size
          rw [show (wr.alloc (.cells #[] 5)).drew = Wb by rw [hWb]; rfl]
          clear hWb
          refine wpAnyH_ready (rs := [3, 7]) (by kernel_rfl) (by simp) ?_
          refine AllReadyH.cons (o := { dst := some 28, op := Op.call { callee := Callee.builtin Builtin.append, args := #[(Operand.tmp 26), (Operand.tmp 27)], argTypes := #[23, 23] }, type := _, pos := _, after := _, guard := _ }) rfl (fun K9 hK9 => ?_) (AllReadyH.cons (o := { dst := some 9, op := Op.alloc 24, type := _, pos := _, after := _, guard := _ }) rfl (fun K9 hK9 => ?_) AllReadyH.nil)
          · refine step_append_bts (by rfl) _ _ rfl wr.heap.size _ 0 [] rfl oB (some ⟨w.heap.size, 0, none⟩) 16 a (bA _ (tr h0 gB)) 16 (unhide HLA) rfl (by have := unhide HLA; have := unhide HLB; omega) ((tr h0 gB)).size (fun v3 V3 o3 q3 => ?_)
            refine hK9.out _ _ (own_grow (tr h0 gB) oB q3) (fun _ => ?_)
            clear hK9 K9
            (try simp only [Act.put, List.setIfInBounds_toArray, List.set_cons_zero, List.set_cons_succ])
            refine wpAnyH_ready (rs := [5, 7]) (by kernel_rfl) (by simp) ?_
            refine AllReadyH.cons (o := { dst := some 30, op := Op.call { callee := Callee.builtin Builtin.append, args := #[(Operand.tmp 28), (Operand.tmp 29)], argTypes := #[23, 23] }, type := _, pos := _, after := _, guard := _ }) rfl (fun K9 hK9 => ?_) (AllReadyH.cons (o := { dst := some 9, op := Op.alloc 24, type := _, pos := _, after := _, guard := _ }) rfl (fun K9 hK9 => ?_) AllReadyH.nil)
            · refine step_append_bts (by rfl) _ _ rfl wr.heap.size _ (0 + a.length) ([] ++ a.map bv) rfl o3 (some ⟨w.heap.size + 1, 0, none⟩) 16 b (bB _ (own_grow (tr h0 gB) oB q3)) 16 (unhide HLB) rfl (by have := unhide HLA; have := unhide HLB; omega) ((own_grow (tr h0 gB) oB q3)).size (fun v5 V5 o5 q5 => ?_)
              refine hK9.out _ _ (own_grow (own_grow (tr h0 gB) oB q3) o3 q5) (fun _ => ?_)
              clear hK9 K9
              (try simp only [Act.put, List.setIfInBounds_toArray, List.set_cons_zero, List.set_cons_succ])
              refine wpAnyH_ready (rs := [6, 7]) (by kernel_rfl) (by simp) ?_
              refine AllReadyH.cons (o := { dst := some 31, op := Op.call { callee := Callee.value (Operand.func 7), args := #[(Operand.tmp 25), (Operand.tmp 30)], argTypes := #[22, 23] }, type := _, pos := _, after := _, guard := _ }) rfl (fun K9 hK9 => ?_) (AllReadyH.cons (o := { dst := some 9, op := Op.alloc 24, type := _, pos := _, after := _, guard := _ }) rfl (fun K9 hK9 => ?_) AllReadyH.nil)
              · go_simp
                go_at_call 7
                refine (csum _ _ _ a b (unhide HT) (unhide HA) (unhide HB) (own_grow (own_grow (tr h0 gB) oB q3) o3 q5) o5).mono ?_
                rintro e w8 ⟨rfl, g8⟩
                go_wp2_with fail
                refine hK9.out _ _ (tr (own_grow (own_grow (tr h0 gB) oB q3) o3 q5) g8) (fun _ => ?_)
                clear hK9 K9
                (try simp only [Act.put, List.setIfInBounds_toArray, List.set_cons_zero, List.set_cons_succ])
                refine wpAnyH_ready (rs := [7]) (by kernel_rfl) (by simp) ?_
                refine AllReadyH.cons (o := { dst := some 9, op := Op.alloc 24, type := _, pos := _, after := _, guard := _ }) rfl (fun K9 hK9 => ?_) AllReadyH.nil
                go_simp
                refine hK9.out _ _ (gb_alloc (tr (own_grow (own_grow (tr h0 gB) oB q3) o3 q5) g8) _) (fun _ => ?_)
                clear hK9 K9
                (try simp only [Act.put, List.setIfInBounds_toArray, List.set_cons_zero, List.set_cons_succ])
                obtain ⟨Wa, hWa, hBa, gA⟩ := alloc_tag (w8) Z (unhide HZ)
                rw [← hWa]
                have hp : wr.heap.size ≤ (w8).heap.size := ((tr (own_grow (own_grow (tr h0 gB) oB q3) o3 q5) g8)).size
                clear hWa
                refine wpAnyH_ready (rs := [8]) (by kernel_rfl) (by simp) ?_
                refine AllReadyH.cons (o := { dst := none, op := Op.store 24 (Operand.tmp 9) (Operand.tmp 31), type := _, pos := _, after := _, guard := _ }) rfl (fun K9 hK9 => ?_) AllReadyH.nil
                rw [if_pos (by rfl)]
                refine wp_store_row _ _ _ rfl ((w8).heap.size) _ rfl rfl _ _ hBa (by rw [unhide HST]; exact hi16) (by rw [unhide HST]; rfl) (all_oneCell_toArray (bv_one _)) ?_
                refine hK9.out _ _ (gb_row (tr (tr (own_grow (own_grow (tr h0 gB) oB q3) o3 q5) g8) gA) _ (Or.inl hp)) (fun _ => ?_)
                clear hK9 K9
                (try simp only [Act.put])
                refine wpAnyH_done (by kernel_rfl) ?_ _
                refine NoPanic.normal ?_
                have hfB := (hBa).row (T.map bv)
                have hfG := gb_row (tr (tr (own_grow (own_grow (tr h0 gB) oB q3) o3 q5) g8) gA) (T.map bv).toArray (Or.inl hp)
                have HFB := hide hfB
                have HFG := hide hfG
                clear hfB hfG
                go_wp2
                go_meet
                case rel => exact ⟨_, rfl, hp, unhide HFB, unhide HFG⟩
              · go_simp
                refine hK9.out _ _ (gb_alloc (own_grow (own_grow (tr h0 gB) oB q3) o3 q5) _) (fun _ => ?_)
                clear hK9 K9
                (try simp only [Act.put, List.setIfInBounds_toArray, List.set_cons_zero, List.set_cons_succ])
                obtain ⟨Wa, hWa, hBa, gA⟩ := alloc_tag (V5) Z (unhide HZ)
                rw [← hWa]
                have hp : wr.heap.size ≤ (V5).heap.size := ((own_grow (own_grow (tr h0 gB) oB q3) o3 q5)).size
                clear hWa
                refine wpAnyH_ready (rs := [6]) (by kernel_rfl) (by simp) ?_
                refine AllReadyH.cons (o := { dst := some 31, op := Op.call { callee := Callee.value (Operand.func 7), args := #[(Operand.tmp 25), (Operand.tmp 30)], argTypes := #[22, 23] }, type := _, pos := _, after := _, guard := _ }) rfl (fun K9 hK9 => ?_) AllReadyH.nil
                go_simp
                go_at_call 7
                refine (csum _ _ _ a b (unhide HT) (unhide HA) (unhide HB) (tr (own_grow (own_grow (tr h0 gB) oB q3) o3 q5) gA) (own_keep o5 gA)).mono ?_
                rintro e w8 ⟨rfl, g8⟩
                go_wp2_with fail
                refine hK9.out _ _ (tr (tr (own_grow (own_grow (tr h0 gB) oB q3) o3 q5) gA) g8) (fun _ => ?_)
                clear hK9 K9
                (try simp only [Act.put, List.setIfInBounds_toArray, List.set_cons_zero, List.set_cons_succ])
                refine wpAnyH_ready (rs := [8]) (by kernel_rfl) (by simp) ?_
                refine AllReadyH.cons (o := { dst := none, op := Op.store 24 (Operand.tmp 9) (Operand.tmp 31), type := _, pos := _, after := _, guard := _ }) rfl (fun K9 hK9 => ?_) AllReadyH.nil
                rw [if_pos (by rfl)]
                refine wp_store_row _ _ _ rfl ((V5).heap.size) _ rfl rfl _ _ (hBa.kept g8 (by simp)) (by rw [unhide HST]; exact hi16) (by rw [unhide HST]; rfl) (all_oneCell_toArray (bv_one _)) ?_
                refine hK9.out _ _ (gb_row (tr (tr (own_grow (own_grow (tr h0 gB) oB q3) o3 q5) gA) g8) _ (Or.inl hp)) (fun _ => ?_)
                clear hK9 K9
                (try simp only [Act.put])
                refine wpAnyH_done (by kernel_rfl) ?_ _
                refine NoPanic.normal ?_
                have hfB := ((hBa.kept g8 (by simp))).row (T.map bv)
                have hfG := gb_row (tr (tr (own_grow (own_grow (tr h0 gB) oB q3) o3 q5) gA) g8) (T.map bv).toArray (Or.inl hp)
                have HFB := hide hfB
                have HFG := hide hfG
                clear hfB hfG
                go_wp2
                go_meet
                case rel => exact ⟨_, rfl, hp, unhide HFB, unhide HFG⟩
            · go_simp
              refine hK9.out _ _ (gb_alloc (own_grow (tr h0 gB) oB q3) _) (fun _ => ?_)
              clear hK9 K9
              (try simp only [Act.put, List.setIfInBounds_toArray, List.set_cons_zero, List.set_cons_succ])
              obtain ⟨Wa, hWa, hBa, gA⟩ := alloc_tag (V3) Z (unhide HZ)
              rw [← hWa]
              have hp : wr.heap.size ≤ (V3).heap.size := ((own_grow (tr h0 gB) oB q3)).size
              clear hWa
              refine wpAnyH_ready (rs := [5]) (by kernel_rfl) (by simp) ?_
              refine AllReadyH.cons (o := { dst := some 30, op := Op.call { callee := Callee.builtin Builtin.append, args := #[(Operand.tmp 28), (Operand.tmp 29)], argTypes := #[23, 23] }, type := _, pos := _, after := _, guard := _ }) rfl (fun K9 hK9 => ?_) AllReadyH.nil
              refine step_append_bts (by rfl) _ _ rfl wr.heap.size _ (0 + a.length) ([] ++ a.map bv) rfl (own_keep o3 gA) (some ⟨w.heap.size + 1, 0, none⟩) 16 b (bB _ (tr (own_grow (tr h0 gB) oB q3) gA)) 16 (unhide HLB) rfl (by have := unhide HLA; have := unhide HLB; omega) ((tr (own_grow (tr h0 gB) oB q3) gA)).size (fun v5 V5 o5 q5 => ?_)
              refine hK9.out _ _ (own_grow (tr (own_grow (tr h0 gB) oB q3) gA) (own_keep o3 gA) q5) (fun _ => ?_)
              clear hK9 K9
              (try simp only [Act.put, List.setIfInBounds_toArray, List.set_cons_zero, List.set_cons_succ])
              refine wpAnyH_ready (rs := [6]) (by kernel_rfl) (by simp) ?_
              refine AllReadyH.cons (o := { dst := some 31, op := Op.call { callee := Callee.value (Operand.func 7), args := #[(Operand.tmp 25), (Operand.tmp 30)], argTypes := #[22, 23] }, type := _, pos := _, after := _, guard := _ }) rfl (fun K9 hK9 => ?_) AllReadyH.nil
              go_simp
              go_at_call 7
              refine (csum _ _ _ a b (unhide HT) (unhide HA) (unhide HB) (own_grow (tr (own_grow (tr h0 gB) oB q3) gA) (own_keep o3 gA) q5) o5).mono ?_
              rintro e w8 ⟨rfl, g8⟩
              go_wp2_with fail
              refine hK9.out _ _ (tr (own_grow (tr (own_grow (tr h0 gB) oB q3) gA) (own_keep o3 gA) q5) g8) (fun _ => ?_)
              clear hK9 K9
              (try simp only [Act.put, List.setIfInBounds_toArray, List.set_cons_zero, List.set_cons_succ])
              refine wpAnyH_ready (rs := [8]) (by kernel_rfl) (by simp) ?_
              refine AllReadyH.cons (o := { dst := none, op := Op.store 24 (Operand.tmp 9) (Operand.tmp 31), type := _, pos := _, after := _, guard := _ }) rfl (fun K9 hK9 => ?_) AllReadyH.nil
              rw [if_pos (by rfl)]
              refine wp_store_row _ _ _ rfl ((V3).heap.size) _ rfl rfl _ _ ((hBa.kept q5 (own_apart (own_keep o3 gA) hBa (by decide))).kept g8 (by simp)) (by rw [unhide HST]; exact hi16) (by rw [unhide HST]; rfl) (all_oneCell_toArray (bv_one _)) ?_
              refine hK9.out _ _ (gb_row (tr (own_grow (tr (own_grow (tr h0 gB) oB q3) gA) (own_keep o3 gA) q5) g8) _ (Or.inl hp)) (fun _ => ?_)
              clear hK9 K9
              (try simp only [Act.put])
              refine wpAnyH_done (by kernel_rfl) ?_ _
              refine NoPanic.normal ?_
              have hfB := (((hBa.kept q5 (own_apart (own_keep o3 gA) hBa (by decide))).kept g8 (by simp))).row (T.map bv)
              have hfG := gb_row (tr (own_grow (tr (own_grow (tr h0 gB) oB q3) gA) (own_keep o3 gA) q5) g8) (T.map bv).toArray (Or.inl hp)
              have HFB := hide hfB
              have HFG := hide hfG
              clear hfB hfG
              go_wp2
              go_meet
              case rel => exact ⟨_, rfl, hp, unhide HFB, unhide HFG⟩
          · go_simp
            refine hK9.out _ _ (gb_alloc (tr h0 gB) _) (fun _ => ?_)
            clear hK9 K9
            (try simp only [Act.put, List.setIfInBounds_toArray, List.set_cons_zero, List.set_cons_succ])
            obtain ⟨Wa, hWa, hBa, gA⟩ := alloc_tag (Wb) Z (unhide HZ)
            rw [← hWa]
            have hp : wr.heap.size ≤ (Wb).heap.size := ((tr h0 gB)).size
            clear hWa
            refine wpAnyH_ready (rs := [3]) (by kernel_rfl) (by simp) ?_
            refine AllReadyH.cons (o := { dst := some 28, op := Op.call { callee := Callee.builtin Builtin.append, args := #[(Operand.tmp 26), (Operand.tmp 27)], argTypes := #[23, 23] }, type := _, pos := _, after := _, guard := _ }) rfl (fun K9 hK9 => ?_) AllReadyH.nil
            refine step_append_bts (by rfl) _ _ rfl wr.heap.size _ 0 [] rfl (own_keep oB gA) (some ⟨w.heap.size, 0, none⟩) 16 a (bA _ (tr (tr h0 gB) gA)) 16 (unhide HLA) rfl (by have := unhide HLA; have := unhide HLB; omega) ((tr (tr h0 gB) gA)).size (fun v3 V3 o3 q3 => ?_)
            refine hK9.out _ _ (own_grow (tr (tr h0 gB) gA) (own_keep oB gA) q3) (fun _ => ?_)
            clear hK9 K9
            (try simp only [Act.put, List.setIfInBounds_toArray, List.set_cons_zero, List.set_cons_succ])
            refine wpAnyH_ready (rs := [5]) (by kernel_rfl) (by simp) ?_
            refine AllReadyH.cons (o := { dst := some 30, op := Op.call { callee := Callee.builtin Builtin.append, args := #[(Operand.tmp 28), (Operand.tmp 29)], argTypes := #[23, 23] }, type := _, pos := _, after := _, guard := _ }) rfl (fun K9 hK9 => ?_) AllReadyH.nil
            refine step_append_bts (by rfl) _ _ rfl wr.heap.size _ (0 + a.length) ([] ++ a.map bv) rfl o3 (some ⟨w.heap.size + 1, 0, none⟩) 16 b (bB _ (own_grow (tr (tr h0 gB) gA) (own_keep oB gA) q3)) 16 (unhide HLB) rfl (by have := unhide HLA; have := unhide HLB; omega) ((own_grow (tr (tr h0 gB) gA) (own_keep oB gA) q3)).size (fun v5 V5 o5 q5 => ?_)
            refine hK9.out _ _ (own_grow (own_grow (tr (tr h0 gB) gA) (own_keep oB gA) q3) o3 q5) (fun _ => ?_)
            clear hK9 K9
            (try simp only [Act.put, List.setIfInBounds_toArray, List.set_cons_zero, List.set_cons_succ])
            refine wpAnyH_ready (rs := [6]) (by kernel_rfl) (by simp) ?_
            refine AllReadyH.cons (o := { dst := some 31, op := Op.call { callee := Callee.value (Operand.func 7), args := #[(Operand.tmp 25), (Operand.tmp 30)], argTypes := #[22, 23] }, type := _, pos := _, after := _, guard := _ }) rfl (fun K9 hK9 => ?_) AllReadyH.nil
            go_simp
            go_at_call 7
            refine (csum _ _ _ a b (unhide HT) (unhide HA) (unhide HB) (own_grow (own_grow (tr (tr h0 gB) gA) (own_keep oB gA) q3) o3 q5) o5).mono ?_
            rintro e w8 ⟨rfl, g8⟩
            go_wp2_with fail
            refine hK9.out _ _ (tr (own_grow (own_grow (tr (tr h0 gB) gA) (own_keep oB gA) q3) o3 q5) g8) (fun _ => ?_)
            clear hK9 K9
            (try simp only [Act.put, List.setIfInBounds_toArray, List.set_cons_zero, List.set_cons_succ])
            refine wpAnyH_ready (rs := [8]) (by kernel_rfl) (by simp) ?_
            refine AllReadyH.cons (o := { dst := none, op := Op.store 24 (Operand.tmp 9) (Operand.tmp 31), type := _, pos := _, after := _, guard := _ }) rfl (fun K9 hK9 => ?_) AllReadyH.nil
            rw [if_pos (by rfl)]
            refine wp_store_row _ _ _ rfl ((Wb).heap.size) _ rfl rfl _ _ (((hBa.kept q3 (own_apart (own_keep oB gA) hBa (by decide))).kept q5 (own_apart o3 (hBa.kept q3 (own_apart (own_keep oB gA) hBa (by decide))) (by decide))).kept g8 (by simp)) (by rw [unhide HST]; exact hi16) (by rw [unhide HST]; rfl) (all_oneCell_toArray (bv_one _)) ?_
            refine hK9.out _ _ (gb_row (tr (own_grow (own_grow (tr (tr h0 gB) gA) (own_keep oB gA) q3) o3 q5) g8) _ (Or.inl hp)) (fun _ => ?_)
            clear hK9 K9
            (try simp only [Act.put])
            refine wpAnyH_done (by kernel_rfl) ?_ _
            refine NoPanic.normal ?_
            have hfB := ((((hBa.kept q3 (own_apart (own_keep oB gA) hBa (by decide))).kept q5 (own_apart o3 (hBa.kept q3 (own_apart (own_keep oB gA) hBa (by decide))) (by decide))).kept g8 (by simp))).row (T.map bv)
            have hfG := gb_row (tr (own_grow (own_grow (tr (tr h0 gB) gA) (own_keep oB gA) q3) o3 q5) g8) (T.map bv).toArray (Or.inl hp)
            have HFB := hide hfB
            have HFG := hide hfG
            clear hfB hfG
            go_wp2
            go_meet
            case rel => exact ⟨_, rfl, hp, unhide HFB, unhide HFG⟩
        · go_simp
          refine hK9.out _ _ (gb_alloc h0 _) (fun _ => ?_)
          clear hK9 K9
          (try simp only [Act.put, List.setIfInBounds_toArray, List.set_cons_zero, List.set_cons_succ])
          obtain ⟨Wa, hWa, hBa, gA⟩ := alloc_tag (wr.drew) Z (unhide HZ)
          rw [show (wr.alloc (.cells Z 24)).drew = Wa by rw [hWa]; rfl]
          have hp : wr.heap.size ≤ (wr.drew).heap.size := (h0).size
          clear hWa
          refine wpAnyH_ready (rs := [1]) (by kernel_rfl) (by simp) ?_
          refine AllReadyH.cons (o := { dst := some 26, op := Op.buildSlice 23 0 #[], type := _, pos := _, after := _, guard := _ }) rfl (fun K9 hK9 => ?_) AllReadyH.nil
          go_simp
          refine hK9.out _ _ (gb_alloc (tr h0 gA) _) (fun _ => ?_)
          clear hK9 K9
          (try simp only [Act.put, List.setIfInBounds_toArray, List.set_cons_zero, List.set_cons_succ])
          obtain ⟨Wb, hWb, oB, gB⟩ := own_new (Wa) wr.heap.size ((tr h0 gA)).size
          rw [← hWb]
          clear hWb
          refine wpAnyH_ready (rs := [3]) (by kernel_rfl) (by simp) ?_
          refine AllReadyH.cons (o := { dst := some 28, op := Op.call { callee := Callee.builtin Builtin.append, args := #[(Operand.tmp 26), (Operand.tmp 27)], argTypes := #[23, 23] }, type := _, pos := _, after := _, guard := _ }) rfl (fun K9 hK9 => ?_) AllReadyH.nil
          refine step_append_bts (by rfl) _ _ rfl wr.heap.size _ 0 [] rfl oB (some ⟨w.heap.size, 0, none⟩) 16 a (bA _ (tr (tr h0 gA) gB)) 16 (unhide HLA) rfl (by have := unhide HLA; have := unhide HLB; omega) ((tr (tr h0 gA) gB)).size (fun v3 V3 o3 q3 => ?_)
          refine hK9.out _ _ (own_grow (tr (tr h0 gA) gB) oB q3) (fun _ => ?_)
          clear hK9 K9
          (try simp only [Act.put, List.setIfInBounds_toArray, List.set_cons_zero, List.set_cons_succ])
          refine wpAnyH_ready (rs := [5]) (by kernel_rfl) (by simp) ?_
          refine AllReadyH.cons (o := { dst := some 30, op := Op.call { callee := Callee.builtin Builtin.append, args := #[(Operand.tmp 28), (Operand.tmp 29)], argTypes := #[23, 23] }, type := _, pos := _, after := _, guard := _ }) rfl (fun K9 hK9 => ?_) AllReadyH.nil
          refine step_append_bts (by rfl) _ _ rfl wr.heap.size _ (0 + a.length) ([] ++ a.map bv) rfl o3 (some ⟨w.heap.size + 1, 0, none⟩) 16 b (bB _ (own_grow (tr (tr h0 gA) gB) oB q3)) 16 (unhide HLB) rfl (by have := unhide HLA; have := unhide HLB; omega) ((own_grow (tr (tr h0 gA) gB) oB q3)).size (fun v5 V5 o5 q5 => ?_)
          refine hK9.out _ _ (own_grow (own_grow (tr (tr h0 gA) gB) oB q3) o3 q5) (fun _ => ?_)
          clear hK9 K9
          (try simp only [Act.put, List.setIfInBounds_toArray, List.set_cons_zero, List.set_cons_succ])
          refine wpAnyH_ready (rs := [6]) (by kernel_rfl) (by simp) ?_
          refine AllReadyH.cons (o := { dst := some 31, op := Op.call { callee := Callee.value (Operand.func 7), args := #[(Operand.tmp 25), (Operand.tmp 30)], argTypes := #[22, 23] }, type := _, pos := _, after := _, guard := _ }) rfl (fun K9 hK9 => ?_) AllReadyH.nil
          go_simp
          go_at_call 7
          refine (csum _ _ _ a b (unhide HT) (unhide HA) (unhide HB) (own_grow (own_grow (tr (tr h0 gA) gB) oB q3) o3 q5) o5).mono ?_
          rintro e w8 ⟨rfl, g8⟩
          go_wp2_with fail
          refine hK9.out _ _ (tr (own_grow (own_grow (tr (tr h0 gA) gB) oB q3) o3 q5) g8) (fun _ => ?_)
          clear hK9 K9
          (try simp only [Act.put, List.setIfInBounds_toArray, List.set_cons_zero, List.set_cons_succ])
          refine wpAnyH_ready (rs := [8]) (by kernel_rfl) (by simp) ?_
          refine AllReadyH.cons (o := { dst := none, op := Op.store 24 (Operand.tmp 9) (Operand.tmp 31), type := _, pos := _, after := _, guard := _ }) rfl (fun K9 hK9 => ?_) AllReadyH.nil
          rw [if_pos (by rfl)]
          refine wp_store_row _ _ _ rfl ((wr.drew).heap.size) _ rfl rfl _ _ ((((hBa.kept gB (by simp)).kept q3 (own_apart oB (hBa.kept gB (by simp)) (by decide))).kept q5 (own_apart o3 ((hBa.kept gB (by simp)).kept q3 (own_apart oB (hBa.kept gB (by simp)) (by decide))) (by decide))).kept g8 (by simp)) (by rw [unhide HST]; exact hi16) (by rw [unhide HST]; rfl) (all_oneCell_toArray (bv_one _)) ?_
          refine hK9.out _ _ (gb_row (tr (own_grow (own_grow (tr (tr h0 gA) gB) oB q3) o3 q5) g8) _ (Or.inl hp)) (fun _ => ?_)
          clear hK9 K9
          (try simp only [Act.put])
          refine wpAnyH_done (by kernel_rfl) ?_ _
          refine NoPanic.normal ?_
          have hfB := (((((hBa.kept gB (by simp)).kept q3 (own_apart oB (hBa.kept gB (by simp)) (by decide))).kept q5 (own_apart o3 ((hBa.kept gB (by simp)).kept q3 (own_apart oB (hBa.kept gB (by simp)) (by decide))) (by decide))).kept g8 (by simp))).row (T.map bv)
          have hfG := gb_row (tr (own_grow (own_grow (tr (tr h0 gA) gB) oB q3) o3 q5) g8) (T.map bv).toArray (Or.inl hp)
          have HFB := hide hfB
          have HFG := hide hfG
          clear hfB hfG
          go_wp2
          go_meet
          case rel => exact ⟨_, rfl, hp, unhide HFB, unhide HFG⟩
      case rest =>
        obtain ⟨p, rfl, hp, hX, gc⟩ := hcut
        generalize wc = wd at *
        have hrK1 := range_kept hrK gc (by simp)
        have bA1 : ∀ V, wd.grownBy V none → Bts V (some ⟨w.heap.size, 0, none⟩) 16 a := fun V gV => bA V (tr gc gV)
        have bB1 : ∀ V, wd.grownBy V none → Bts V (some ⟨w.heap.size + 1, 0, none⟩) 16 b := fun V gV => bB V (tr gc gV)
        have h1 : wd.grownBy wd.drew none := gb_drew (gb_refl _ _)
        have HX := hide hX
        have HP := hide hp
        clear hX hp hrK h0 bA bB
        go_upto_region 7 with fail
        go_cut [10] (fun x9 wx => ∃ p : Nat, x9 = .pointer (some ⟨p, 0, none⟩) ∧ wd.heap.size ≤ p ∧ Blk wx p 24 (T.map bv) ∧ wd.grownBy wx none)
        case first =>
          refine wp_region_noPanic ?_
          refine wp_region_held_drew (S := fun V => wd.grownBy V none) (by kernel_rfl) h1 (fun _ => ?_)
          refine wpAnyH_take (i := 0) (oi := { dst := some 32, op := Op.load 22 (Operand.tmp 7), type := _, pos := _, after := _, guard := _ }) (v := .agg (K.map bv).toArray) rfl (by kernel_rfl) (by kernel_rfl) (by kernel_rfl) (fun _ _ _ h => h) (yieldsIf_load_mid (by rfl) _ _ rfl _ _ rfl (K.map bv) _ (fun V hV => range_kept hrK1 hV (by simp)) Try.underlying22 rfl hiK) h1 ?_
          (try simp only [Act.put, List.setIfInBounds_toArray, List.set_cons_zero, List.set_cons_succ])
          refine wpAnyH_take (i := 2) (oi := { dst := some 34, op := Op.slice 24 (Operand.tmp 4) none none none, type := _, pos := _, after := _, guard := _ }) (v := .slice (some ⟨w.heap.size + 1, 0, none⟩) 16 16) rfl (by kernel_rfl) (by kernel_rfl) (by kernel_rfl) (fun _ _ _ h => h) (Or.inl ⟨by rfl, fun V (hV : wd.grownBy V none) => by go_simp⟩) h1 ?_
          (try simp only [Act.put, List.setIfInBounds_toArray, List.set_cons_zero, List.set_cons_succ])
          refine wpAnyH_take (i := 4) (oi := { dst := some 36, op := Op.slice 24 (Operand.tmp 3) none none none, type := _, pos := _, after := _, guard := _ }) (v := .slice (some ⟨w.heap.size, 0, none⟩) 16 16) rfl (by kernel_rfl) (by kernel_rfl) (by kernel_rfl) (fun _ _ _ h => h) (Or.inl ⟨by rfl, fun V (hV : wd.grownBy V none) => by go_simp⟩) h1 ?_
          (try simp only [Act.put, List.setIfInBounds_toArray, List.set_cons_zero, List.set_cons_succ])
          refine wpAnyH_ready (rs := [1, 7]) (by kernel_rfl) (by simp) ?_
          refine AllReadyH.cons (o := { dst := some 33, op := Op.buildSlice 23 0 #[], type := _, pos := _, after := _, guard := _ }) rfl (fun K9 hK9 => ?_) (AllReadyH.cons (o := { dst := some 10, op := Op.alloc 24, type := _, pos := _, after := _, guard := _ }) rfl (fun K9 hK9 => ?_) AllReadyH.nil)
          · go_simp
            refine hK9.out _ _ (gb_alloc h1 _) (fun _ => ?_)
            clear hK9 K9
            (try simp only [Act.put, List.setIfInBounds_toArray, List.set_cons_zero, List.set_cons_succ])
            obtain ⟨Wb, hWb, oB, gB⟩ := own_new (wd.drew) wd.heap.size (h1).size
            rw [show (wd.alloc (.cells #[] 5)).drew = Wb by rw [hWb]; rfl]
            clear hWb
            refine wpAnyH_ready (rs := [3, 7]) (by kernel_rfl) (by simp) ?_
            refine AllReadyH.cons (o := { dst := some 35, op := Op.call { callee := Callee.builtin Builtin.append, args := #[(Operand.tmp 33), (Operand.tmp 34)], argTypes := #[23, 23] }, type := _, pos := _, after := _, guard := _ }) rfl (fun K9 hK9 => ?_) (AllReadyH.cons (o := { dst := some 10, op := Op.alloc 24, type := _, pos := _, after := _, guard := _ }) rfl (fun K9 hK9 => ?_) AllReadyH.nil)
            · refine step_append_bts (by rfl) _ _ rfl wd.heap.size _ 0 [] rfl oB (some ⟨w.heap.size + 1, 0, none⟩) 16 b (bB1 _ (tr h1 gB)) 16 (unhide HLB) rfl (by have := unhide HLA; have := unhide HLB; omega) ((tr h1 gB)).size (fun v3 V3 o3 q3 => ?_)
              refine hK9.out _ _ (own_grow (tr h1 gB) oB q3) (fun _ => ?_)
              clear hK9 K9
              (try simp only [Act.put, List.setIfInBounds_toArray, List.set_cons_zero, List.set_cons_succ])
              refine wpAnyH_ready (rs := [5, 7]) (by kernel_rfl) (by simp) ?_
              refine AllReadyH.cons (o := { dst := some 37, op := Op.call { callee := Callee.builtin Builtin.append, args := #[(Operand.tmp 35), (Operand.tmp 36)], argTypes := #[23, 23] }, type := _, pos := _, after := _, guard := _ }) rfl (fun K9 hK9 => ?_) (AllReadyH.cons (o := { dst := some 10, op := Op.alloc 24, type := _, pos := _, after := _, guard := _ }) rfl (fun K9 hK9 => ?_) AllReadyH.nil)
              · refine step_append_bts (by rfl) _ _ rfl wd.heap.size _ (0 + b.length) ([] ++ b.map bv) rfl o3 (some ⟨w.heap.size, 0, none⟩) 16 a (bA1 _ (own_grow (tr h1 gB) oB q3)) 16 (unhide HLA) rfl (by have := unhide HLA; have := unhide HLB; omega) ((own_grow (tr h1 gB) oB q3)).size (fun v5 V5 o5 q5 => ?_)
                refine hK9.out _ _ (own_grow (own_grow (tr h1 gB) oB q3) o3 q5) (fun _ => ?_)
                clear hK9 K9
                (try simp only [Act.put, List.setIfInBounds_toArray, List.set_cons_zero, List.set_cons_succ])
                refine wpAnyH_ready (rs := [6, 7]) (by kernel_rfl) (by simp) ?_
                refine AllReadyH.cons (o := { dst := some 38, op := Op.call { callee := Callee.value (Operand.func 7), args := #[(Operand.tmp 32), (Operand.tmp 37)], argTypes := #[22, 23] }, type := _, pos := _, after := _, guard := _ }) rfl (fun K9 hK9 => ?_) (AllReadyH.cons (o := { dst := some 10, op := Op.alloc 24, type := _, pos := _, after := _, guard := _ }) rfl (fun K9 hK9 => ?_) AllReadyH.nil)
                · go_simp
                  go_at_call 7
                  refine (csum _ _ _ b a (unhide HT2) (unhide HB) (unhide HA) (own_grow (own_grow (tr h1 gB) oB q3) o3 q5) o5).mono ?_
                  rintro e w8 ⟨rfl, g8⟩
                  go_wp2_with fail
                  refine hK9.out _ _ (tr (own_grow (own_grow (tr h1 gB) oB q3) o3 q5) g8) (fun _ => ?_)
                  clear hK9 K9
                  (try simp only [Act.put, List.setIfInBounds_toArray, List.set_cons_zero, List.set_cons_succ])
                  refine wpAnyH_ready (rs := [7]) (by kernel_rfl) (by simp) ?_
                  refine AllReadyH.cons (o := { dst := some 10, op := Op.alloc 24, type := _, pos := _, after := _, guard := _ }) rfl (fun K9 hK9 => ?_) AllReadyH.nil
                  go_simp
                  refine hK9.out _ _ (gb_alloc (tr (own_grow (own_grow (tr h1 gB) oB q3) o3 q5) g8) _) (fun _ => ?_)
                  clear hK9 K9
                  (try simp only [Act.put, List.setIfInBounds_toArray, List.set_cons_zero, List.set_cons_succ])
                  obtain ⟨Wa, hWa, hBa, gA⟩ := alloc_tag (w8) Z (unhide HZ)
                  rw [← hWa]
                  have hp : wd.heap.size ≤ (w8).heap.size := ((tr (own_grow (own_grow (tr h1 gB) oB q3) o3 q5) g8)).size
                  clear hWa
                  refine wpAnyH_ready (rs := [8]) (by kernel_rfl) (by simp) ?_
                  refine AllReadyH.cons (o := { dst := none, op := Op.store 24 (Operand.tmp 10) (Operand.tmp 38), type := _, pos := _, after := _, guard := _ }) rfl (fun K9 hK9 => ?_) AllReadyH.nil
                  rw [if_pos (by rfl)]
                  refine wp_store_row _ _ _ rfl ((w8).heap.size) _ rfl rfl _ _ hBa (by rw [unhide HST]; exact hi16) (by rw [unhide HST]; rfl) (all_oneCell_toArray (bv_one _)) ?_
                  refine hK9.out _ _ (gb_row (tr (tr (own_grow (own_grow (tr h1 gB) oB q3) o3 q5) g8) gA) _ (Or.inl hp)) (fun _ => ?_)
                  clear hK9 K9
                  (try simp only [Act.put])
                  refine wpAnyH_done (by kernel_rfl) ?_ _
                  refine NoPanic.normal ?_
                  have hfB := (hBa).row (T.map bv)
                  have hfG := gb_row (tr (tr (own_grow (own_grow (tr h1 gB) oB q3) o3 q5) g8) gA) (T.map bv).toArray (Or.inl hp)
                  have HFB := hide hfB
                  have HFG := hide hfG
                  clear hfB hfG
                  go_wp2
                  go_meet
                  case rel => exact ⟨_, rfl, hp, unhide HFB, unhide HFG⟩
                · go_simp
                  refine hK9.out _ _ (gb_alloc (own_grow (own_grow (tr h1 gB) oB q3) o3 q5) _) (fun _ => ?_)
                  clear hK9 K9
                  (try simp only [Act.put, List.setIfInBounds_toArray, List.set_cons_zero, List.set_cons_succ])
                  obtain ⟨Wa, hWa, hBa, gA⟩ := alloc_tag (V5) Z (unhide HZ)
                  rw [← hWa]
                  have hp : wd.heap.size ≤ (V5).heap.size := ((own_grow (own_grow (tr h1 gB) oB q3) o3 q5)).size
                  clear hWa
                  refine wpAnyH_ready (rs := [6]) (by kernel_rfl) (by simp) ?_
                  refine AllReadyH.cons (o := { dst := some 38, op := Op.call { callee := Callee.value (Operand.func 7), args := #[(Operand.tmp 32), (Operand.tmp 37)], argTypes := #[22, 23] }, type := _, pos := _, after := _, guard := _ }) rfl (fun K9 hK9 => ?_) AllReadyH.nil
                  go_simp
                  go_at_call 7
                  refine (csum _ _ _ b a (unhide HT2) (unhide HB) (unhide HA) (tr (own_grow (own_grow (tr h1 gB) oB q3) o3 q5) gA) (own_keep o5 gA)).mono ?_
                  rintro e w8 ⟨rfl, g8⟩
                  go_wp2_with fail
                  refine hK9.out _ _ (tr (tr (own_grow (own_grow (tr h1 gB) oB q3) o3 q5) gA) g8) (fun _ => ?_)
                  clear hK9 K9
                  (try simp only [Act.put, List.setIfInBounds_toArray, List.set_cons_zero, List.set_cons_succ])
                  refine wpAnyH_ready (rs := [8]) (by kernel_rfl) (by simp) ?_
                  refine AllReadyH.cons (o := { dst := none, op := Op.store 24 (Operand.tmp 10) (Operand.tmp 38), type := _, pos := _, after := _, guard := _ }) rfl (fun K9 hK9 => ?_) AllReadyH.nil
                  rw [if_pos (by rfl)]
                  refine wp_store_row _ _ _ rfl ((V5).heap.size) _ rfl rfl _ _ (hBa.kept g8 (by simp)) (by rw [unhide HST]; exact hi16) (by rw [unhide HST]; rfl) (all_oneCell_toArray (bv_one _)) ?_
                  refine hK9.out _ _ (gb_row (tr (tr (own_grow (own_grow (tr h1 gB) oB q3) o3 q5) gA) g8) _ (Or.inl hp)) (fun _ => ?_)
                  clear hK9 K9
                  (try simp only [Act.put])
                  refine wpAnyH_done (by kernel_rfl) ?_ _
                  refine NoPanic.normal ?_
                  have hfB := ((hBa.kept g8 (by simp))).row (T.map bv)
                  have hfG := gb_row (tr (tr (own_grow (own_grow (tr h1 gB) oB q3) o3 q5) gA) g8) (T.map bv).toArray (Or.inl hp)
                  have HFB := hide hfB
                  have HFG := hide hfG
                  clear hfB hfG
                  go_wp2
                  go_meet
                  case rel => exact ⟨_, rfl, hp, unhide HFB, unhide HFG⟩
              · go_simp
                refine hK9.out _ _ (gb_alloc (own_grow (tr h1 gB) oB q3) _) (fun _ => ?_)
                clear hK9 K9
                (try simp only [Act.put, List.setIfInBounds_toArray, List.set_cons_zero, List.set_cons_succ])
                obtain ⟨Wa, hWa, hBa, gA⟩ := alloc_tag (V3) Z (unhide HZ)
                rw [← hWa]
                have hp : wd.heap.size ≤ (V3).heap.size := ((own_grow (tr h1 gB) oB q3)).size
                clear hWa
                refine wpAnyH_ready (rs := [5]) (by kernel_rfl) (by simp) ?_
                refine AllReadyH.cons (o := { dst := some 37, op := Op.call { callee := Callee.builtin Builtin.append, args := #[(Operand.tmp 35), (Operand.tmp 36)], argTypes := #[23, 23] }, type := _, pos := _, after := _, guard := _ }) rfl (fun K9 hK9 => ?_) AllReadyH.nil
                refine step_append_bts (by rfl) _ _ rfl wd.heap.size _ (0 + b.length) ([] ++ b.map bv) rfl (own_keep o3 gA) (some ⟨w.heap.size, 0, none⟩) 16 a (bA1 _ (tr (own_grow (tr h1 gB) oB q3) gA)) 16 (unhide HLA) rfl (by have := unhide HLA; have := unhide HLB; omega) ((tr (own_grow (tr h1 gB) oB q3) gA)).size (fun v5 V5 o5 q5 => ?_)
                refine hK9.out _ _ (own_grow (tr (own_grow (tr h1 gB) oB q3) gA) (own_keep o3 gA) q5) (fun _ => ?_)
                clear hK9 K9
                (try simp only [Act.put, List.setIfInBounds_toArray, List.set_cons_zero, List.set_cons_succ])
                refine wpAnyH_ready (rs := [6]) (by kernel_rfl) (by simp) ?_
                refine AllReadyH.cons (o := { dst := some 38, op := Op.call { callee := Callee.value (Operand.func 7), args := #[(Operand.tmp 32), (Operand.tmp 37)], argTypes := #[22, 23] }, type := _, pos := _, after := _, guard := _ }) rfl (fun K9 hK9 => ?_) AllReadyH.nil
                go_simp
                go_at_call 7
                refine (csum _ _ _ b a (unhide HT2) (unhide HB) (unhide HA) (own_grow (tr (own_grow (tr h1 gB) oB q3) gA) (own_keep o3 gA) q5) o5).mono ?_
                rintro e w8 ⟨rfl, g8⟩
                go_wp2_with fail
                refine hK9.out _ _ (tr (own_grow (tr (own_grow (tr h1 gB) oB q3) gA) (own_keep o3 gA) q5) g8) (fun _ => ?_)
                clear hK9 K9
                (try simp only [Act.put, List.setIfInBounds_toArray, List.set_cons_zero, List.set_cons_succ])
                refine wpAnyH_ready (rs := [8]) (by kernel_rfl) (by simp) ?_
                refine AllReadyH.cons (o := { dst := none, op := Op.store 24 (Operand.tmp 10) (Operand.tmp 38), type := _, pos := _, after := _, guard := _ }) rfl (fun K9 hK9 => ?_) AllReadyH.nil
                rw [if_pos (by rfl)]
                refine wp_store_row _ _ _ rfl ((V3).heap.size) _ rfl rfl _ _ ((hBa.kept q5 (own_apart (own_keep o3 gA) hBa (by decide))).kept g8 (by simp)) (by rw [unhide HST]; exact hi16) (by rw [unhide HST]; rfl) (all_oneCell_toArray (bv_one _)) ?_
                refine hK9.out _ _ (gb_row (tr (own_grow (tr (own_grow (tr h1 gB) oB q3) gA) (own_keep o3 gA) q5) g8) _ (Or.inl hp)) (fun _ => ?_)
                clear hK9 K9
                (try simp only [Act.put])
                refine wpAnyH_done (by kernel_rfl) ?_ _
                refine NoPanic.normal ?_
                have hfB := (((hBa.kept q5 (own_apart (own_keep o3 gA) hBa (by decide))).kept g8 (by simp))).row (T.map bv)
                have hfG := gb_row (tr (own_grow (tr (own_grow (tr h1 gB) oB q3) gA) (own_keep o3 gA) q5) g8) (T.map bv).toArray (Or.inl hp)
                have HFB := hide hfB
                have HFG := hide hfG
                clear hfB hfG
                go_wp2
                go_meet
                case rel => exact ⟨_, rfl, hp, unhide HFB, unhide HFG⟩
            · go_simp
              refine hK9.out _ _ (gb_alloc (tr h1 gB) _) (fun _ => ?_)
              clear hK9 K9
              (try simp only [Act.put, List.setIfInBounds_toArray, List.set_cons_zero, List.set_cons_succ])
              obtain ⟨Wa, hWa, hBa, gA⟩ := alloc_tag (Wb) Z (unhide HZ)
              rw [← hWa]
              have hp : wd.heap.size ≤ (Wb).heap.size := ((tr h1 gB)).size
              clear hWa
              refine wpAnyH_ready (rs := [3]) (by kernel_rfl) (by simp) ?_
              refine AllReadyH.cons (o := { dst := some 35, op := Op.call { callee := Callee.builtin Builtin.append, args := #[(Operand.tmp 33), (Operand.tmp 34)], argTypes := #[23, 23] }, type := _, pos := _, after := _, guard := _ }) rfl (fun K9 hK9 => ?_) AllReadyH.nil
              refine step_append_bts (by rfl) _ _ rfl wd.heap.size _ 0 [] rfl (own_keep oB gA) (some ⟨w.heap.size + 1, 0, none⟩) 16 b (bB1 _ (tr (tr h1 gB) gA)) 16 (unhide HLB) rfl (by have := unhide HLA; have := unhide HLB; omega) ((tr (tr h1 gB) gA)).size (fun v3 V3 o3 q3 => ?_)
              refine hK9.out _ _ (own_grow (tr (tr h1 gB) gA) (own_keep oB gA) q3) (fun _ => ?_)
              clear hK9 K9
              (try simp only [Act.put, List.setIfInBounds_toArray, List.set_cons_zero, List.set_cons_succ])
              refine wpAnyH_ready (rs := [5]) (by kernel_rfl) (by simp) ?_
              refine AllReadyH.cons (o := { dst := some 37, op := Op.call { callee := Callee.builtin Builtin.append, args := #[(Operand.tmp 35), (Operand.tmp 36)], argTypes := #[23, 23] }, type := _, pos := _, after := _, guard := _ }) rfl (fun K9 hK9 => ?_) AllReadyH.nil
              refine step_append_bts (by rfl) _ _ rfl wd.heap.size _ (0 + b.length) ([] ++ b.map bv) rfl o3 (some ⟨w.heap.size, 0, none⟩) 16 a (bA1 _ (own_grow (tr (tr h1 gB) gA) (own_keep oB gA) q3)) 16 (unhide HLA) rfl (by have := unhide HLA; have := unhide HLB; omega) ((own_grow (tr (tr h1 gB) gA) (own_keep oB gA) q3)).size (fun v5 V5 o5 q5 => ?_)
              refine hK9.out _ _ (own_grow (own_grow (tr (tr h1 gB) gA) (own_keep oB gA) q3) o3 q5) (fun _ => ?_)
              clear hK9 K9
              (try simp only [Act.put, List.setIfInBounds_toArray, List.set_cons_zero, List.set_cons_succ])
              refine wpAnyH_ready (rs := [6]) (by kernel_rfl) (by simp) ?_
              refine AllReadyH.cons (o := { dst := some 38, op := Op.call { callee := Callee.value (Operand.func 7), args := #[(Operand.tmp 32), (Operand.tmp 37)], argTypes := #[22, 23] }, type := _, pos := _, after := _, guard := _ }) rfl (fun K9 hK9 => ?_) AllReadyH.nil
              go_simp
              go_at_call 7
              refine (csum _ _ _ b a (unhide HT2) (unhide HB) (unhide HA) (own_grow (own_grow (tr (tr h1 gB) gA) (own_keep oB gA) q3) o3 q5) o5).mono ?_
              rintro e w8 ⟨rfl, g8⟩
              go_wp2_with fail
              refine hK9.out _ _ (tr (own_grow (own_grow (tr (tr h1 gB) gA) (own_keep oB gA) q3) o3 q5) g8) (fun _ => ?_)
              clear hK9 K9
              (try simp only [Act.put, List.setIfInBounds_toArray, List.set_cons_zero, List.set_cons_succ])
              refine wpAnyH_ready (rs := [8]) (by kernel_rfl) (by simp) ?_
              refine AllReadyH.cons (o := { dst := none, op := Op.store 24 (Operand.tmp 10) (Operand.tmp 38), type := _, pos := _, after := _, guard := _ }) rfl (fun K9 hK9 => ?_) AllReadyH.nil
              rw [if_pos (by rfl)]
              refine wp_store_row _ _ _ rfl ((Wb).heap.size) _ rfl rfl _ _ (((hBa.kept q3 (own_apart (own_keep oB gA) hBa (by decide))).kept q5 (own_apart o3 (hBa.kept q3 (own_apart (own_keep oB gA) hBa (by decide))) (by decide))).kept g8 (by simp)) (by rw [unhide HST]; exact hi16) (by rw [unhide HST]; rfl) (all_oneCell_toArray (bv_one _)) ?_
              refine hK9.out _ _ (gb_row (tr (own_grow (own_grow (tr (tr h1 gB) gA) (own_keep oB gA) q3) o3 q5) g8) _ (Or.inl hp)) (fun _ => ?_)
              clear hK9 K9
              (try simp only [Act.put])
              refine wpAnyH_done (by kernel_rfl) ?_ _
              refine NoPanic.normal ?_
              have hfB := ((((hBa.kept q3 (own_apart (own_keep oB gA) hBa (by decide))).kept q5 (own_apart o3 (hBa.kept q3 (own_apart (own_keep oB gA) hBa (by decide))) (by decide))).kept g8 (by simp))).row (T.map bv)
              have hfG := gb_row (tr (own_grow (own_grow (tr (tr h1 gB) gA) (own_keep oB gA) q3) o3 q5) g8) (T.map bv).toArray (Or.inl hp)
              have HFB := hide hfB
              have HFG := hide hfG
              clear hfB hfG
              go_wp2
              go_meet
              case rel => exact ⟨_, rfl, hp, unhide HFB, unhide HFG⟩
          · go_simp
            refine hK9.out _ _ (gb_alloc h1 _) (fun _ => ?_)
            clear hK9 K9
            (try simp only [Act.put, List.setIfInBounds_toArray, List.set_cons_zero, List.set_cons_succ])
            obtain ⟨Wa, hWa, hBa, gA⟩ := alloc_tag (wd.drew) Z (unhide HZ)
            rw [show (wd.alloc (.cells Z 24)).drew = Wa by rw [hWa]; rfl]
            have hp : wd.heap.size ≤ (wd.drew).heap.size := (h1).size
            clear hWa
            refine wpAnyH_ready (rs := [1]) (by kernel_rfl) (by simp) ?_
            refine AllReadyH.cons (o := { dst := some 33, op := Op.buildSlice 23 0 #[], type := _, pos := _, after := _, guard := _ }) rfl (fun K9 hK9 => ?_) AllReadyH.nil
            go_simp
            refine hK9.out _ _ (gb_alloc (tr h1 gA) _) (fun _ => ?_)
            clear hK9 K9
            (try simp only [Act.put, List.setIfInBounds_toArray, List.set_cons_zero, List.set_cons_succ])
            obtain ⟨Wb, hWb, oB, gB⟩ := own_new (Wa) wd.heap.size ((tr h1 gA)).size
            rw [← hWb]
            clear hWb
            refine wpAnyH_ready (rs := [3]) (by kernel_rfl) (by simp) ?_
            refine AllReadyH.cons (o := { dst := some 35, op := Op.call { callee := Callee.builtin Builtin.append, args := #[(Operand.tmp 33), (Operand.tmp 34)], argTypes := #[23, 23] }, type := _, pos := _, after := _, guard := _ }) rfl (fun K9 hK9 => ?_) AllReadyH.nil
            refine step_append_bts (by rfl) _ _ rfl wd.heap.size _ 0 [] rfl oB (some ⟨w.heap.size + 1, 0, none⟩) 16 b (bB1 _ (tr (tr h1 gA) gB)) 16 (unhide HLB) rfl (by have := unhide HLA; have := unhide HLB; omega) ((tr (tr h1 gA) gB)).size (fun v3 V3 o3 q3 => ?_)
            refine hK9.out _ _ (own_grow (tr (tr h1 gA) gB) oB q3) (fun _ => ?_)
            clear hK9 K9
            (try simp only [Act.put, List.setIfInBounds_toArray, List.set_cons_zero, List.set_cons_succ])
            refine wpAnyH_ready (rs := [5]) (by kernel_rfl) (by simp) ?_
            refine AllReadyH.cons (o := { dst := some 37, op := Op.call { callee := Callee.builtin Builtin.append, args := #[(Operand.tmp 35), (Operand.tmp 36)], argTypes := #[23, 23] }, type := _, pos := _, after := _, guard := _ }) rfl (fun K9 hK9 => ?_) AllReadyH.nil
            refine step_append_bts (by rfl) _ _ rfl wd.heap.size _ (0 + b.length) ([] ++ b.map bv) rfl o3 (some ⟨w.heap.size, 0, none⟩) 16 a (bA1 _ (own_grow (tr (tr h1 gA) gB) oB q3)) 16 (unhide HLA) rfl (by have := unhide HLA; have := unhide HLB; omega) ((own_grow (tr (tr h1 gA) gB) oB q3)).size (fun v5 V5 o5 q5 => ?_)
            refine hK9.out _ _ (own_grow (own_grow (tr (tr h1 gA) gB) oB q3) o3 q5) (fun _ => ?_)
            clear hK9 K9
            (try simp only [Act.put, List.setIfInBounds_toArray, List.set_cons_zero, List.set_cons_succ])
            refine wpAnyH_ready (rs := [6]) (by kernel_rfl) (by simp) ?_
            refine AllReadyH.cons (o := { dst := some 38, op := Op.call { callee := Callee.value (Operand.func 7), args := #[(Operand.tmp 32), (Operand.tmp 37)], argTypes := #[22, 23] }, type := _, pos := _, after := _, guard := _ }) rfl (fun K9 hK9 => ?_) AllReadyH.nil
            go_simp
            go_at_call 7
            refine (csum _ _ _ b a (unhide HT2) (unhide HB) (unhide HA) (own_grow (own_grow (tr (tr h1 gA) gB) oB q3) o3 q5) o5).mono ?_
            rintro e w8 ⟨rfl, g8⟩
            go_wp2_with fail
            refine hK9.out _ _ (tr (own_grow (own_grow (tr (tr h1 gA) gB) oB q3) o3 q5) g8) (fun _ => ?_)
            clear hK9 K9
            (try simp only [Act.put, List.setIfInBounds_toArray, List.set_cons_zero, List.set_cons_succ])
            refine wpAnyH_ready (rs := [8]) (by kernel_rfl) (by simp) ?_
            refine AllReadyH.cons (o := { dst := none, op := Op.store 24 (Operand.tmp 10) (Operand.tmp 38), type := _, pos := _, after := _, guard := _ }) rfl (fun K9 hK9 => ?_) AllReadyH.nil
            rw [if_pos (by rfl)]
            refine wp_store_row _ _ _ rfl ((wd.drew).heap.size) _ rfl rfl _ _ ((((hBa.kept gB (by simp)).kept q3 (own_apart oB (hBa.kept gB (by simp)) (by decide))).kept q5 (own_apart o3 ((hBa.kept gB (by simp)).kept q3 (own_apart oB (hBa.kept gB (by simp)) (by decide))) (by decide))).kept g8 (by simp)) (by rw [unhide HST]; exact hi16) (by rw [unhide HST]; rfl) (all_oneCell_toArray (bv_one _)) ?_
            refine hK9.out _ _ (gb_row (tr (own_grow (own_grow (tr (tr h1 gA) gB) oB q3) o3 q5) g8) _ (Or.inl hp)) (fun _ => ?_)
            clear hK9 K9
            (try simp only [Act.put])
            refine wpAnyH_done (by kernel_rfl) ?_ _
            refine NoPanic.normal ?_
            have hfB := (((((hBa.kept gB (by simp)).kept q3 (own_apart oB (hBa.kept gB (by simp)) (by decide))).kept q5 (own_apart o3 ((hBa.kept gB (by simp)).kept q3 (own_apart oB (hBa.kept gB (by simp)) (by decide))) (by decide))).kept g8 (by simp))).row (T.map bv)
            have hfG := gb_row (tr (own_grow (own_grow (tr (tr h1 gA) gB) oB q3) o3 q5) g8) (T.map bv).toArray (Or.inl hp)
            have HFB := hide hfB
            have HFG := hide hfG
            clear hfB hfG
            go_wp2
            go_meet
            case rel => exact ⟨_, rfl, hp, unhide HFB, unhide HFG⟩
        case rest =>
          obtain ⟨p2, rfl, hp2, hY2, gd⟩ := hcut
          clear hrK1 bA1 bB1 h1 csum
          have G5 : wr.grownBy wc none := tr gc gd
          have hA5 := (unhide HA4).kept G5 (by simp)
          have hB5 := (unhide HB4).kept G5 (by simp)
          have hS5 := (unhide HS4).kept G5 (by simp)
          have hX5 := (unhide HX).kept gd (by simp)
          have hg5 := tr hg G5
          have l1 := hX5.lt
          have l2 := hY2.lt
          have l3 := hS5.lt
          obtain ⟨pw, hpw⟩ : ∃ pw, pw = wc.heap.size := ⟨_, rfl⟩
          have l4 : pw ≠ p := by omega
          have l5 : pw ≠ p2 := by omega
          have l6 : pw ≠ w.heap.size := by omega
          have l7 : pw ≠ w.heap.size + 1 := by omega
          have l8 : pw ≠ w.heap.size + 2 := by omega
          have l9 : w.heap.size ≤ pw := by omega
          obtain ⟨W6, hW6⟩ : ∃ W6, W6 = wc.alloc (.cells Z 24) := ⟨_, rfl⟩
          obtain ⟨D, hD⟩ : ∃ D : Nat → Nat, D = fun j => at8 a j + at8 b j + at8 s j := ⟨_, rfl⟩
          have hDb : ∀ i, D i ≤ 3 * 255 := fun i => by rw [hD]; have := at8_lt a i; have := at8_lt b i; have := at8_lt s i; show at8 a i + at8 b i + at8 s i ≤ _; omega
          have hD16 : pre D 16 = leN a + leN b + leN s := by
            rw [hD, pre_add (fun j => at8 a j + at8 b j) (at8 s), pre_add (at8 a) (at8 b)]
            rw [pre_at8 a 16 (by rw [unhide HA]; omega), pre_at8 b 16 (by rw [unhide HB]; omega), pre_at8 s 16 (by rw [unhide HS]; omega)]
          have hw6 : Blk W6 pw 24 ((stepL 16 0 (fun j => UInt8.ofNat (pre D 16 / 256 ^ j)) (fun _ => 0)).map bv) := by
            rw [hpw, hW6, unhide HZ]; exact Blk.new wc 24 (zero16L.map bv)
          have hA6 : Blk W6 w.heap.size 24 (a.map bv) := by rw [hW6]; exact hA5.alloc _
          have hB6 : Blk W6 (w.heap.size + 1) 24 (b.map bv) := by rw [hW6]; exact hB5.alloc _
          have hS6 : Blk W6 (w.heap.size + 2) 24 (s.map bv) := by rw [hW6]; exact hS5.alloc _
          have hX6 : Blk W6 p 24 (T.map bv) := by rw [hW6]; exact hX5.alloc _
          have hY6 : Blk W6 p2 24 (T.map bv) := by rw [hW6]; exact hY2.alloc _
          have hg6 : w.grownBy W6 none := by rw [hW6]; exact gb_alloc hg5 _
          have HW6 := hide hW6
          have HPW := hide hpw
          have Hw6 := hide hw6
          have HA6 := hide hA6
          have HB6 := hide hB6
          have HS6 := hide hS6
          have HX6 := hide hX6
          have HY6 := hide hY6
          have HD := hide hD
          have HDB := hide hDb
          have HD16 := hide hD16
          clear hA5 hB5 hS5 hX5 hY2 hg5 hW6 hpw hw6 hA6 hB6 hS6 hX6 hY6 hD hDb hD16 HA4 HB4 HS4 HX gc gd G5 hp2 l1 l2 l3 hg
          go_wp2
          rw [← unhide HW6, ← unhide HPW]
          go_loopw [12, 13] (fun cv i wr => ∃ r : Nat, r ≤ 16 ∧ i = .int .i64 (r : Int) ∧ cv = .int .i64 (pre D r / 256 ^ r : Nat) ∧ Blk wr pw 24 ((stepL 16 r (fun j => UInt8.ofNat (pre D 16 / 256 ^ j)) (fun _ => 0)).map bv) ∧ Blk wr w.heap.size 24 (a.map bv) ∧ Blk wr (w.heap.size + 1) 24 (b.map bv) ∧ Blk wr (w.heap.size + 2) 24 (s.map bv) ∧ Blk wr p 24 (T.map bv) ∧ Blk wr p2 24 (T.map bv) ∧ w.grownBy wr none) (fun _ i _ => 16 - (intOf i).toNat)
          case atStart => exact ⟨0, Nat.zero_le _, rfl, by simp [pre], unhide Hw6, unhide HA6, unhide HB6, unhide HS6, unhide HX6, unhide HY6, hg6⟩
          case round =>
            clear Hw6 HA6 HB6 HS6 HX6 HY6 hg6 HW6 HPW
            obtain ⟨r, hr, rfl, rfl, hw, hA, hB, hS, hX, hY, hg⟩ := hrel
            by_cases hlt : r < 16
            · have q0 : (0 : Int) ≤ (r : Int) := by omega
              have q1 : (r : Int) < 16 := by omega
              have b1 := pre_small D 3 (unhide HDB) r
              have b2 := carry_digit D r 16 hlt
              have b3 := carry_out D r
              obtain ⟨cr, hcr⟩ : ∃ c, c = pre D r / 256 ^ r := ⟨_, rfl⟩
              rw [← hcr] at b1 b2 b3 ⊢
              obtain ⟨xa, hxa⟩ : ∃ x, x = at8 a r := ⟨_, rfl⟩
              obtain ⟨xb, hxb⟩ : ∃ x, x = at8 b r := ⟨_, rfl⟩
              obtain ⟨xs, hxs⟩ : ∃ x, x = at8 s r := ⟨_, rfl⟩
              have a1 : xa < 256 := by rw [hxa]; exact at8_lt _ _
              have a2 : xb < 256 := by rw [hxb]; exact at8_lt _ _
              have a3 : xs < 256 := by rw [hxs]; exact at8_lt _ _
              have hDr : D r = xa + xb + xs := by rw [unhide HD, hxa, hxb, hxs]
              rw [hDr] at b2 b3
              obtain ⟨c1, hc1⟩ : ∃ c, c = cr + xa := ⟨_, rfl⟩
              obtain ⟨c2, hc2⟩ : ∃ c, c = c1 + xb := ⟨_, rfl⟩
              obtain ⟨c3, hc3⟩ : ∃ c, c = c2 + xs := ⟨_, rfl⟩
              have e3 : cr + (xa + xb + xs) = c3 := by omega
              rw [e3] at b2 b3
              have f1 : (cr : Int) + (xa : Int) = (c1 : Int) := by omega
              have f2 : (c1 : Int) + (xb : Int) = (c2 : Int) := by omega
              have f3 : (c2 : Int) + (xs : Int) = (c3 : Int) := by omega
              have g1 : IntKind.i64.wrap (c1 : Int) = (c1 : Int) := by rw [IntKind.wrap_i64]; omega
              have g2 : IntKind.i64.wrap (c2 : Int) = (c2 : Int) := by rw [IntKind.wrap_i64]; omega
              have g3 : IntKind.i64.wrap (c3 : Int) = (c3 : Int) := by rw [IntKind.wrap_i64]; omega
              have g4 : IntKind.i64.wrap (xa : Int) = (xa : Int) := by rw [IntKind.wrap_i64]; omega
              have g5 : IntKind.i64.wrap (xb : Int) = (xb : Int) := by rw [IntKind.wrap_i64]; omega
              have g6 : IntKind.i64.wrap (xs : Int) = (xs : Int) := by rw [IntKind.wrap_i64]; omega
              obtain ⟨c4, hc4⟩ : ∃ c, c = c3 / 256 := ⟨_, rfl⟩
              have g7 : Int.tdiv (c3 : Int) 256 = (c4 : Int) := by rw [Int.tdiv_eq_ediv_of_nonneg (by omega)]; omega
              have g8 : (c3 : Int) / 256 = (c4 : Int) := by omega
              have g12 : IntKind.i64.wrap (c4 : Int) = (c4 : Int) := by rw [IntKind.wrap_i64]; omega
              obtain ⟨y, hy2⟩ : ∃ y, y = (UInt8.ofNat (pre D 16 / 256 ^ r)).toNat := ⟨_, rfl⟩
              have hy3 : y = c3 % 256 := by rw [hy2, UInt8.toNat_ofNat', b2]
              have g9 : (c3 : Int) % 256 = (y : Int) := by omega
              have g10 : IntKind.u8.wrap (c3 : Int) = (y : Int) := by rw [IntKind.wrap_u8]; omega
              have hcw : wr.drew.cell? ⟨pw, r, none⟩ = some (.int .u8 (0 : Int)) := by
                rw [World.cell?_drew, hw.cell, List.getElem?_map, stepL_at _ _ _ _ _ hlt, if_neg (by omega)]; rfl
              have hfw : wr.drew.frozen? ⟨pw, r, none⟩ = false := hw.drew.fz r
              have hS0 : wr.drew.cell? ⟨w.heap.size, r, none⟩ = some (.int .u8 (xa : Int)) ∧ wr.drew.cell? ⟨w.heap.size + 1, r, none⟩ = some (.int .u8 (xb : Int)) ∧ wr.drew.cell? ⟨w.heap.size + 2, r, none⟩ = some (.int .u8 (xs : Int)) := by
                rw [hxa, hxb, hxs]
                exact ⟨byte_at hA.drew r (by rw [unhide HA]; exact hlt), byte_at hB.drew r (by rw [unhide HB]; exact hlt), byte_at hS.drew r (by rw [unhide HS]; exact hlt)⟩
              have hw2 : Blk (wr.drew.setCell ⟨pw, r, none⟩ (.int .u8 (y : Int))) pw 24 ((stepL 16 (r + 1) (fun j => UInt8.ofNat (pre D 16 / 256 ^ j)) (fun _ => 0)).map bv) := by
                rw [← stepL_set, List.map_set, hy2]; exact hw.drew.set r (bv (UInt8.ofNat (pre D 16 / 256 ^ r)))
              have Hw2 := hide hw2
              have HA2 := hide (hA.drew.other ⟨pw, r, none⟩ (.int .u8 (y : Int)) l6)
              have HB2 := hide (hB.drew.other ⟨pw, r, none⟩ (.int .u8 (y : Int)) l7)
              have HS2 := hide (hS.drew.other ⟨pw, r, none⟩ (.int .u8 (y : Int)) l8)
              have HX2 := hide (hX.drew.other ⟨pw, r, none⟩ (.int .u8 (y : Int)) l4)
              have HY2 := hide (hY.drew.other ⟨pw, r, none⟩ (.int .u8 (y : Int)) l5)
              have HG2 := hide (gb_setCell (gb_drew hg) ⟨pw, r, none⟩ (.int .u8 (y : Int)) (Or.inl l9))
              have HC4 := hide (show c4 = pre D (r + 1) / 256 ^ (r + 1) by rw [hc4, b3])
              clear hw hA hB hS hX hY hw2 hcr hxa hxb hxs hDr hc1 hc2 hc3 e3 hc4 hy2 hy3 b1 b2 b3 a1 a2 a3
              go_wp2
              refine wp_region_noPanic ?_
              refine wp_region_held_drew (S := fun V => V.cell? ⟨w.heap.size, r, none⟩ = some (.int .u8 (xa : Int)) ∧ V.cell? ⟨w.heap.size + 1, r, none⟩ = some (.int .u8 (xb : Int)) ∧ V.cell? ⟨w.heap.size + 2, r, none⟩ = some (.int .u8 (xs : Int))) (by kernel_rfl) hS0 (fun _ => ?_)
              refine wpAnyH_take (i := 0) (oi := { dst := some 43, op := Op.move (Operand.tmp 12), type := _, pos := _, after := _, guard := _ }) (v := .int .i64 (cr : Int)) rfl (by kernel_rfl) (by kernel_rfl) (by kernel_rfl) (fun _ _ _ h => h) (Or.inl ⟨by rfl, fun V (hV : V.cell? ⟨w.heap.size, r, none⟩ = some (.int .u8 (xa : Int)) ∧ V.cell? ⟨w.heap.size + 1, r, none⟩ = some (.int .u8 (xb : Int)) ∧ V.cell? ⟨w.heap.size + 2, r, none⟩ = some (.int .u8 (xs : Int))) => by go_simp⟩) hS0 ?_
              (try simp only [Act.put, List.setIfInBounds_toArray, List.set_cons_zero, List.set_cons_succ])
              refine wpAnyH_take (i := 1) (oi := { dst := some 44, op := Op.move (Operand.tmp 13), type := _, pos := _, after := _, guard := _ }) (v := .int .i64 (r : Int)) rfl (by kernel_rfl) (by kernel_rfl) (by kernel_rfl) (fun _ _ _ h => h) (Or.inl ⟨by rfl, fun V (hV : V.cell? ⟨w.heap.size, r, none⟩ = some (.int .u8 (xa : Int)) ∧ V.cell? ⟨w.heap.size + 1, r, none⟩ = some (.int .u8 (xb : Int)) ∧ V.cell? ⟨w.heap.size + 2, r, none⟩ = some (.int .u8 (xs : Int))) => by go_simp⟩) hS0 ?_
              (try simp only [Act.put, List.setIfInBounds_toArray, List.set_cons_zero, List.set_cons_succ])
              refine wpAnyH_take (i := 2) (oi := { dst := some 45, op := Op.indexAddr 24 (Operand.tmp 3) (Operand.tmp 44), type := _, pos := _, after := _, guard := _ }) (v := .pointer (some ⟨w.heap.size, r, none⟩)) rfl (by kernel_rfl) (by kernel_rfl) (by kernel_rfl) (fun _ _ _ h => h) (Or.inl ⟨by rfl, fun V (hV : V.cell? ⟨w.heap.size, r, none⟩ = some (.int .u8 (xa : Int)) ∧ V.cell? ⟨w.heap.size + 1, r, none⟩ = some (.int .u8 (xb : Int)) ∧ V.cell? ⟨w.heap.size + 2, r, none⟩ = some (.int .u8 (xs : Int))) => by go_simp⟩) hS0 ?_
              (try simp only [Act.put, List.setIfInBounds_toArray, List.set_cons_zero, List.set_cons_succ])
              refine wpAnyH_take (i := 3) (oi := { dst := some 46, op := Op.load 5 (Operand.tmp 45), type := _, pos := _, after := _, guard := _ }) (v := .int .u8 (xa : Int)) rfl (by kernel_rfl) (by kernel_rfl) (by kernel_rfl) (fun _ _ _ h => h) (Or.inl ⟨by rfl, fun V (hV : V.cell? ⟨w.heap.size, r, none⟩ = some (.int .u8 (xa : Int)) ∧ V.cell? ⟨w.heap.size + 1, r, none⟩ = some (.int .u8 (xb : Int)) ∧ V.cell? ⟨w.heap.size + 2, r, none⟩ = some (.int .u8 (xs : Int))) => by (obtain ⟨hv1, hv2, hv3⟩ := hV; go_simp)⟩) hS0 ?_
              (try simp only [Act.put, List.setIfInBounds_toArray, List.set_cons_zero, List.set_cons_succ])
              refine wpAnyH_take (i := 4) (oi := { dst := some 47, op := Op.convert 5 3 (Operand.tmp 46), type := _, pos := _, after := _, guard := _ }) (v := .int .i64 (xa : Int)) rfl (by kernel_rfl) (by kernel_rfl) (by kernel_rfl) (fun _ _ _ h => h) (Or.inl ⟨by rfl, fun V (hV : V.cell? ⟨w.heap.size, r, none⟩ = some (.int .u8 (xa : Int)) ∧ V.cell? ⟨w.heap.size + 1, r, none⟩ = some (.int .u8 (xb : Int)) ∧ V.cell? ⟨w.heap.size + 2, r, none⟩ = some (.int .u8 (xs : Int))) => by go_simp⟩) hS0 ?_
              (try simp only [Act.put, List.setIfInBounds_toArray, List.set_cons_zero, List.set_cons_succ])
              refine wpAnyH_take (i := 5) (oi := { dst := some 48, op := Op.binOp BinOp.add 3 (Operand.tmp 43) (Operand.tmp 47) 3, type := _, pos := _, after := _, guard := _ }) (v := .int .i64 (c1 : Int)) rfl (by kernel_rfl) (by kernel_rfl) (by kernel_rfl) (fun _ _ _ h => h) (Or.inl ⟨by rfl, fun V (hV : V.cell? ⟨w.heap.size, r, none⟩ = some (.int .u8 (xa : Int)) ∧ V.cell? ⟨w.heap.size + 1, r, none⟩ = some (.int .u8 (xb : Int)) ∧ V.cell? ⟨w.heap.size + 2, r, none⟩ = some (.int .u8 (xs : Int))) => by go_simp⟩) hS0 ?_
              (try simp only [Act.put, List.setIfInBounds_toArray, List.set_cons_zero, List.set_cons_succ])
              refine wpAnyH_take (i := 6) (oi := { dst := some 49, op := Op.move (Operand.tmp 13), type := _, pos := _, after := _, guard := _ }) (v := .int .i64 (r : Int)) rfl (by kernel_rfl) (by kernel_rfl) (by kernel_rfl) (fun _ _ _ h => h) (Or.inl ⟨by rfl, fun V (hV : V.cell? ⟨w.heap.size, r, none⟩ = some (.int .u8 (xa : Int)) ∧ V.cell? ⟨w.heap.size + 1, r, none⟩ = some (.int .u8 (xb : Int)) ∧ V.cell? ⟨w.heap.size + 2, r, none⟩ = some (.int .u8 (xs : Int))) => by go_simp⟩) hS0 ?_
              (try simp only [Act.put, List.setIfInBounds_toArray, List.set_cons_zero, List.set_cons_succ])
              refine wpAnyH_take (i := 7) (oi := { dst := some 50, op := Op.indexAddr 24 (Operand.tmp 4) (Operand.tmp 49), type := _, pos := _, after := _, guard := _ }) (v := .pointer (some ⟨w.heap.size + 1, r, none⟩)) rfl (by kernel_rfl) (by kernel_rfl) (by kernel_rfl) (fun _ _ _ h => h) (Or.inl ⟨by rfl, fun V (hV : V.cell? ⟨w.heap.size, r, none⟩ = some (.int .u8 (xa : Int)) ∧ V.cell? ⟨w.heap.size + 1, r, none⟩ = some (.int .u8 (xb : Int)) ∧ V.cell? ⟨w.heap.size + 2, r, none⟩ = some (.int .u8 (xs : Int))) => by go_simp⟩) hS0 ?_
              (try simp only [Act.put, List.setIfInBounds_toArray, List.set_cons_zero, List.set_cons_succ])
              refine wpAnyH_take (i := 8) (oi := { dst := some 51, op := Op.load 5 (Operand.tmp 50), type := _, pos := _, after := _, guard := _ }) (v := .int .u8 (xb : Int)) rfl (by kernel_rfl) (by kernel_rfl) (by kernel_rfl) (fun _ _ _ h => h) (Or.inl ⟨by rfl, fun V (hV : V.cell? ⟨w.heap.size, r, none⟩ = some (.int .u8 (xa : Int)) ∧ V.cell? ⟨w.heap.size + 1, r, none⟩ = some (.int .u8 (xb : Int)) ∧ V.cell? ⟨w.heap.size + 2, r, none⟩ = some (.int .u8 (xs : Int))) => by (obtain ⟨hv1, hv2, hv3⟩ := hV; go_simp)⟩) hS0 ?_
              (try simp only [Act.put, List.setIfInBounds_toArray, List.set_cons_zero, List.set_cons_succ])
              refine wpAnyH_take (i := 9) (oi := { dst := some 52, op := Op.convert 5 3 (Operand.tmp 51), type := _, pos := _, after := _, guard := _ }) (v := .int .i64 (xb : Int)) rfl (by kernel_rfl) (by kernel_rfl) (by kernel_rfl) (fun _ _ _ h => h) (Or.inl ⟨by rfl, fun V (hV : V.cell? ⟨w.heap.size, r, none⟩ = some (.int .u8 (xa : Int)) ∧ V.cell? ⟨w.heap.size + 1, r, none⟩ = some (.int .u8 (xb : Int)) ∧ V.cell? ⟨w.heap.size + 2, r, none⟩ = some (.int .u8 (xs : Int))) => by go_simp⟩) hS0 ?_
              (try simp only [Act.put, List.setIfInBounds_toArray, List.set_cons_zero, List.set_cons_succ])
              refine wpAnyH_take (i := 10) (oi := { dst := some 53, op := Op.binOp BinOp.add 3 (Operand.tmp 48) (Operand.tmp 52) 3, type := _, pos := _, after := _, guard := _ }) (v := .int .i64 (c2 : Int)) rfl (by kernel_rfl) (by kernel_rfl) (by kernel_rfl) (fun _ _ _ h => h) (Or.inl ⟨by rfl, fun V (hV : V.cell? ⟨w.heap.size, r, none⟩ = some (.int .u8 (xa : Int)) ∧ V.cell? ⟨w.heap.size + 1, r, none⟩ = some (.int .u8 (xb : Int)) ∧ V.cell? ⟨w.heap.size + 2, r, none⟩ = some (.int .u8 (xs : Int))) => by go_simp⟩) hS0 ?_
              (try simp only [Act.put, List.setIfInBounds_toArray, List.set_cons_zero, List.set_cons_succ])
              refine wpAnyH_take (i := 11) (oi := { dst := some 54, op := Op.move (Operand.tmp 13), type := _, pos := _, after := _, guard := _ }) (v := .int .i64 (r : Int)) rfl (by kernel_rfl) (by kernel_rfl) (by kernel_rfl) (fun _ _ _ h => h) (Or.inl ⟨by rfl, fun V (hV : V.cell? ⟨w.heap.size, r, none⟩ = some (.int .u8 (xa : Int)) ∧ V.cell? ⟨w.heap.size + 1, r, none⟩ = some (.int .u8 (xb : Int)) ∧ V.cell? ⟨w.heap.size + 2, r, none⟩ = some (.int .u8 (xs : Int))) => by go_simp⟩) hS0 ?_
              (try simp only [Act.put, List.setIfInBounds_toArray, List.set_cons_zero, List.set_cons_succ])
              refine wpAnyH_take (i := 12) (oi := { dst := some 55, op := Op.indexAddr 24 (Operand.tmp 5) (Operand.tmp 54), type := _, pos := _, after := _, guard := _ }) (v := .pointer (some ⟨w.heap.size + 2, r, none⟩)) rfl (by kernel_rfl) (by kernel_rfl) (by kernel_rfl) (fun _ _ _ h => h) (Or.inl ⟨by rfl, fun V (hV : V.cell? ⟨w.heap.size, r, none⟩ = some (.int .u8 (xa : Int)) ∧ V.cell? ⟨w.heap.size + 1, r, none⟩ = some (.int .u8 (xb : Int)) ∧ V.cell? ⟨w.heap.size + 2, r, none⟩ = some (.int .u8 (xs : Int))) => by go_simp⟩) hS0 ?_
              (try simp only [Act.put, List.setIfInBounds_toArray, List.set_cons_zero, List.set_cons_succ])
              refine wpAnyH_take (i := 13) (oi := { dst := some 56, op := Op.load 5 (Operand.tmp 55), type := _, pos := _, after := _, guard := _ }) (v := .int .u8 (xs : Int)) rfl (by kernel_rfl) (by kernel_rfl) (by kernel_rfl) (fun _ _ _ h => h) (Or.inl ⟨by rfl, fun V (hV : V.cell? ⟨w.heap.size, r, none⟩ = some (.int .u8 (xa : Int)) ∧ V.cell? ⟨w.heap.size + 1, r, none⟩ = some (.int .u8 (xb : Int)) ∧ V.cell? ⟨w.heap.size + 2, r, none⟩ = some (.int .u8 (xs : Int))) => by (obtain ⟨hv1, hv2, hv3⟩ := hV; go_simp)⟩) hS0 ?_
              (try simp only [Act.put, List.setIfInBounds_toArray, List.set_cons_zero, List.set_cons_succ])
              refine wpAnyH_take (i := 14) (oi := { dst := some 57, op := Op.convert 5 3 (Operand.tmp 56), type := _, pos := _, after := _, guard := _ }) (v := .int .i64 (xs : Int)) rfl (by kernel_rfl) (by kernel_rfl) (by kernel_rfl) (fun _ _ _ h => h) (Or.inl ⟨by rfl, fun V (hV : V.cell? ⟨w.heap.size, r, none⟩ = some (.int .u8 (xa : Int)) ∧ V.cell? ⟨w.heap.size + 1, r, none⟩ = some (.int .u8 (xb : Int)) ∧ V.cell? ⟨w.heap.size + 2, r, none⟩ = some (.int .u8 (xs : Int))) => by go_simp⟩) hS0 ?_
              (try simp only [Act.put, List.setIfInBounds_toArray, List.set_cons_zero, List.set_cons_succ])
              refine wpAnyH_take (i := 15) (oi := { dst := some 58, op := Op.binOp BinOp.add 3 (Operand.tmp 53) (Operand.tmp 57) 3, type := _, pos := _, after := _, guard := _ }) (v := .int .i64 (c3 : Int)) rfl (by kernel_rfl) (by kernel_rfl) (by kernel_rfl) (fun _ _ _ h => h) (Or.inl ⟨by rfl, fun V (hV : V.cell? ⟨w.heap.size, r, none⟩ = some (.int .u8 (xa : Int)) ∧ V.cell? ⟨w.heap.size + 1, r, none⟩ = some (.int .u8 (xb : Int)) ∧ V.cell? ⟨w.heap.size + 2, r, none⟩ = some (.int .u8 (xs : Int))) => by go_simp⟩) hS0 ?_
              (try simp only [Act.put, List.setIfInBounds_toArray, List.set_cons_zero, List.set_cons_succ])
              refine wpAnyH_take (i := 16) (oi := { dst := some 12, op := Op.assign (Operand.tmp 58), type := _, pos := _, after := _, guard := _ }) (v := .int .i64 (c3 : Int)) rfl (by kernel_rfl) (by kernel_rfl) (by kernel_rfl) (fun _ _ _ h => h) (Or.inl ⟨by rfl, fun V (hV : V.cell? ⟨w.heap.size, r, none⟩ = some (.int .u8 (xa : Int)) ∧ V.cell? ⟨w.heap.size + 1, r, none⟩ = some (.int .u8 (xb : Int)) ∧ V.cell? ⟨w.heap.size + 2, r, none⟩ = some (.int .u8 (xs : Int))) => by go_simp⟩) hS0 ?_
              (try simp only [Act.put, List.setIfInBounds_toArray, List.set_cons_zero, List.set_cons_succ])
              refine wpAnyH_done (by kernel_rfl) ?_ _
              refine NoPanic.normal ?_
              go_wp2
              go_roundw
              case rel => exact ⟨r + 1, by omega, by go_num, by rw [unhide HC4], unhide Hw2, unhide HA2, unhide HB2, unhide HS2, unhide HX2, unhide HY2, unhide HG2⟩
              case measure => simp [intOf]; omega
            · obtain rfl : r = 16 := by omega
              rw [show ((16 : Nat) : Int) = 16 from rfl]
              rw [stepL_all] at hw
              obtain ⟨N, hN⟩ : ∃ N, N = leB 16 (pre D 16) := ⟨_, rfl⟩
              have hw2 : Blk wr pw 24 (N.map bv) := by rw [hN]; exact hw
              have hNl : N.length = 16 := by rw [hN]; exact leB_length _ _
              have hsN : ((N.map bv).toArray).size = 16 := by simp [hNl]
              have heT := fun V => eql_same V T (unhide HTL)
              have heN := fun V => eql_tags V T N (unhide HTL) hNl
              have c1 : Calls Try.prog 11 #[] wr fun e w' => e = .returned (.bool true) ∧ wr.grownBy w' none := pone_any wr
              have ca := byte_at hA 15 (by rw [unhide HA]; omega)
              have cb := byte_at hB 15 (by rw [unhide HB]; omega)
              obtain ⟨xa, hxa⟩ : ∃ x, x = at8 a 15 := ⟨_, rfl⟩
              obtain ⟨xb, hxb⟩ : ∃ x, x = at8 b 15 := ⟨_, rfl⟩
              rw [← hxa] at ca
              rw [← hxb] at cb
              have hTN : ¬ (xa = 255 ∧ xb = 255) → T = N := fun hn => by
                rw [unhide HT, unhide HKE2, hN, unhide HD16]
                exact tag_sum s a b (unhide HA) (unhide HB) (by rw [← hxa, ← hxb]; exact hn)
              have HX2 := hide hX
              have HY2 := hide hY
              have Hw2 := hide hw2
              have HSN := hide hsN
              generalize pre D 16 / 256 ^ 16 = cz
              clear hw hw2 hA hB hS hX hY hN hNl hsN hxa hxb hr hlt HT HT2 HKE2
              by_cases hbN : (T == N) = true
              · rw [hbN] at heN
                clear hTN hbN
                go_upto_region 16 with fail
                refine region_named fun O hO => ?_
                refine wpList_val (by rw [hO]; kernel_rfl) (.agg (T.map bv).toArray) (fun K9 hK9 => wp_load_row 24 _ rfl p rfl _ _ _ _ (unhide HX2) Try.underlying24 rfl (by rw [unhide HST]; exact hi16) hK9) ?_
                (try simp only [Act.put, List.setIfInBounds_toArray, List.set_cons_zero, List.set_cons_succ])
                refine wpList_val (by rw [hO]; kernel_rfl) (.agg (T.map bv).toArray) (fun K9 hK9 => wp_load_row 24 _ rfl p2 rfl _ _ _ _ (unhide HY2) Try.underlying24 rfl (by rw [unhide HST]; exact hi16) hK9) ?_
                (try simp only [Act.put, List.setIfInBounds_toArray, List.set_cons_zero, List.set_cons_succ])
                refine wpList_val (by rw [hO]; kernel_rfl) (.bool true) (fun K9 hK9 => by go_simp; exact hK9) ?_
                (try simp only [Act.put, List.setIfInBounds_toArray, List.set_cons_zero, List.set_cons_succ])
                refine wpList_val (by rw [hO]; kernel_rfl) (.bool true) (fun K9 hK9 => by go_simp; exact hK9) ?_
                (try simp only [Act.put, List.setIfInBounds_toArray, List.set_cons_zero, List.set_cons_succ])
                refine wpList_val (by rw [hO]; kernel_rfl) (.agg (T.map bv).toArray) (fun K9 hK9 => wp_load_row 24 _ rfl p rfl _ _ _ _ (unhide HX2) Try.underlying24 rfl (by rw [unhide HST]; exact hi16) hK9) ?_
                (try simp only [Act.put, List.setIfInBounds_toArray, List.set_cons_zero, List.set_cons_succ])
                refine wpList_val (by rw [hO]; kernel_rfl) (.agg (N.map bv).toArray) (fun K9 hK9 => wp_load_row 24 _ rfl pw rfl _ _ _ _ (unhide Hw2) Try.underlying24 rfl (by rw [unhide HSN]; exact hi16) hK9) ?_
                (try simp only [Act.put, List.setIfInBounds_toArray, List.set_cons_zero, List.set_cons_succ])
                refine wpList_val (by rw [hO]; kernel_rfl) (.bool true) (fun K9 hK9 => by go_simp; exact hK9) ?_
                (try simp only [Act.put, List.setIfInBounds_toArray, List.set_cons_zero, List.set_cons_succ])
                refine wpList_val (by rw [hO]; kernel_rfl) (.bool true) (fun K9 hK9 => by go_simp; exact hK9) ?_
                (try simp only [Act.put, List.setIfInBounds_toArray, List.set_cons_zero, List.set_cons_succ])
                refine wpList_skip (by rw [hO]; kernel_rfl) ?_
                (try simp only [Act.put, List.setIfInBounds_toArray, List.set_cons_zero, List.set_cons_succ])
                refine wpList_skip (by rw [hO]; kernel_rfl) ?_
                (try simp only [Act.put, List.setIfInBounds_toArray, List.set_cons_zero, List.set_cons_succ])
                refine wpList_skip (by rw [hO]; kernel_rfl) ?_
                (try simp only [Act.put, List.setIfInBounds_toArray, List.set_cons_zero, List.set_cons_succ])
                refine wpList_skip (by rw [hO]; kernel_rfl) ?_
                (try simp only [Act.put, List.setIfInBounds_toArray, List.set_cons_zero, List.set_cons_succ])
                refine wpList_skip (by rw [hO]; kernel_rfl) ?_
                (try simp only [Act.put, List.setIfInBounds_toArray, List.set_cons_zero, List.set_cons_succ])
                refine wpList_skip (by rw [hO]; kernel_rfl) ?_
                (try simp only [Act.put, List.setIfInBounds_toArray, List.set_cons_zero, List.set_cons_succ])
                refine wpList_skip (by rw [hO]; kernel_rfl) ?_
                (try simp only [Act.put, List.setIfInBounds_toArray, List.set_cons_zero, List.set_cons_succ])
                refine wpList_skip (by rw [hO]; kernel_rfl) ?_
                (try simp only [Act.put, List.setIfInBounds_toArray, List.set_cons_zero, List.set_cons_succ])
                refine wpList_val (by rw [hO]; kernel_rfl) (.bool true) (fun K9 hK9 => by go_simp; exact hK9) ?_
                (try simp only [Act.put, List.setIfInBounds_toArray, List.set_cons_zero, List.set_cons_succ])
                refine wpList_val (by rw [hO]; kernel_rfl) (.bool true) (fun K9 hK9 => by go_simp; exact hK9) ?_
                (try simp only [Act.put, List.setIfInBounds_toArray, List.set_cons_zero, List.set_cons_succ])
                refine wpList_val (by rw [hO]; kernel_rfl) (.bool true) (fun K9 hK9 => by go_simp; exact hK9) ?_
                (try simp only [Act.put, List.setIfInBounds_toArray, List.set_cons_zero, List.set_cons_succ])
                refine wpList_want (by rw [hO]; kernel_rfl) fun K9 hK9 => ?_
                go_simp
                go_at_call 11
                refine c1.mono ?_
                rintro e w9 ⟨rfl, g9⟩
                go_wp2
                go_ret
                exact ⟨rfl, tr hg g9⟩
              · have hbF : (T == N) = false := by simpa using hbN
                have h255 : xa = 255 ∧ xb = 255 := by
                  by_cases h : xa = 255 ∧ xb = 255
                  · exact h
                  · exact absurd (by rw [hTN h]; simp) hbN
                obtain ⟨rfl, rfl⟩ := h255
                rw [hbF] at heN
                clear hTN hbN hbF
                go_upto_region 16 with fail
                refine region_named fun O hO => ?_
                refine wpList_val (by rw [hO]; kernel_rfl) (.agg (T.map bv).toArray) (fun K9 hK9 => wp_load_row 24 _ rfl p rfl _ _ _ _ (unhide HX2) Try.underlying24 rfl (by rw [unhide HST]; exact hi16) hK9) ?_
                (try simp only [Act.put, List.setIfInBounds_toArray, List.set_cons_zero, List.set_cons_succ])
                refine wpList_val (by rw [hO]; kernel_rfl) (.agg (T.map bv).toArray) (fun K9 hK9 => wp_load_row 24 _ rfl p2 rfl _ _ _ _ (unhide HY2) Try.underlying24 rfl (by rw [unhide HST]; exact hi16) hK9) ?_
                (try simp only [Act.put, List.setIfInBounds_toArray, List.set_cons_zero, List.set_cons_succ])
                refine wpList_val (by rw [hO]; kernel_rfl) (.bool true) (fun K9 hK9 => by go_simp; exact hK9) ?_
                (try simp only [Act.put, List.setIfInBounds_toArray, List.set_cons_zero, List.set_cons_succ])
                refine wpList_val (by rw [hO]; kernel_rfl) (.bool true) (fun K9 hK9 => by go_simp; exact hK9) ?_
                (try simp only [Act.put, List.setIfInBounds_toArray, List.set_cons_zero, List.set_cons_succ])
                refine wpList_val (by rw [hO]; kernel_rfl) (.agg (T.map bv).toArray) (fun K9 hK9 => wp_load_row 24 _ rfl p rfl _ _ _ _ (unhide HX2) Try.underlying24 rfl (by rw [unhide HST]; exact hi16) hK9) ?_
                (try simp only [Act.put, List.setIfInBounds_toArray, List.set_cons_zero, List.set_cons_succ])
                refine wpList_val (by rw [hO]; kernel_rfl) (.agg (N.map bv).toArray) (fun K9 hK9 => wp_load_row 24 _ rfl pw rfl _ _ _ _ (unhide Hw2) Try.underlying24 rfl (by rw [unhide HSN]; exact hi16) hK9) ?_
                (try simp only [Act.put, List.setIfInBounds_toArray, List.set_cons_zero, List.set_cons_succ])
                refine wpList_val (by rw [hO]; kernel_rfl) (.bool false) (fun K9 hK9 => by go_simp; exact hK9) ?_
                (try simp only [Act.put, List.setIfInBounds_toArray, List.set_cons_zero, List.set_cons_succ])
                refine wpList_val (by rw [hO]; kernel_rfl) (.bool false) (fun K9 hK9 => by go_simp; exact hK9) ?_
                (try simp only [Act.put, List.setIfInBounds_toArray, List.set_cons_zero, List.set_cons_succ])
                refine wpList_val (by rw [hO]; kernel_rfl) (.pointer (some ⟨w.heap.size, 15, none⟩)) (fun K9 hK9 => by go_simp; exact hK9) ?_
                (try simp only [Act.put, List.setIfInBounds_toArray, List.set_cons_zero, List.set_cons_succ])
                refine wpList_val (by rw [hO]; kernel_rfl) (.int .u8 255) (fun K9 hK9 => by go_simp; exact hK9) ?_
                (try simp only [Act.put, List.setIfInBounds_toArray, List.set_cons_zero, List.set_cons_succ])
                refine wpList_val (by rw [hO]; kernel_rfl) (.bool true) (fun K9 hK9 => by go_simp; exact hK9) ?_
                (try simp only [Act.put, List.setIfInBounds_toArray, List.set_cons_zero, List.set_cons_succ])
                refine wpList_val (by rw [hO]; kernel_rfl) (.bool true) (fun K9 hK9 => by go_simp; exact hK9) ?_
                (try simp only [Act.put, List.setIfInBounds_toArray, List.set_cons_zero, List.set_cons_succ])
                refine wpList_val (by rw [hO]; kernel_rfl) (.pointer (some ⟨w.heap.size + 1, 15, none⟩)) (fun K9 hK9 => by go_simp; exact hK9) ?_
                (try simp only [Act.put, List.setIfInBounds_toArray, List.set_cons_zero, List.set_cons_succ])
                refine wpList_val (by rw [hO]; kernel_rfl) (.int .u8 255) (fun K9 hK9 => by go_simp; exact hK9) ?_
                (try simp only [Act.put, List.setIfInBounds_toArray, List.set_cons_zero, List.set_cons_succ])
                refine wpList_val (by rw [hO]; kernel_rfl) (.bool true) (fun K9 hK9 => by go_simp; exact hK9) ?_
                (try simp only [Act.put, List.setIfInBounds_toArray, List.set_cons_zero, List.set_cons_succ])
                refine wpList_val (by rw [hO]; kernel_rfl) (.bool true) (fun K9 hK9 => by go_simp; exact hK9) ?_
                (try simp only [Act.put, List.setIfInBounds_toArray, List.set_cons_zero, List.set_cons_succ])
                refine wpList_val (by rw [hO]; kernel_rfl) (.bool true) (fun K9 hK9 => by go_simp; exact hK9) ?_
                (try simp only [Act.put, List.setIfInBounds_toArray, List.set_cons_zero, List.set_cons_succ])
                refine wpList_val (by rw [hO]; kernel_rfl) (.bool true) (fun K9 hK9 => by go_simp; exact hK9) ?_
                (try simp only [Act.put, List.setIfInBounds_toArray, List.set_cons_zero, List.set_cons_succ])
                refine wpList_val (by rw [hO]; kernel_rfl) (.bool true) (fun K9 hK9 => by go_simp; exact hK9) ?_
                (try simp only [Act.put, List.setIfInBounds_toArray, List.set_cons_zero, List.set_cons_succ])
                refine wpList_want (by rw [hO]; kernel_rfl) fun K9 hK9 => ?_
                go_simp
                go_at_call 11
                refine c1.mono ?_
                rintro e w9 ⟨rfl, g9⟩
                go_wp2
                go_ret
                exact ⟨rfl, tr hg g9⟩
end Go.Proofs.Ytagdileacidnjaa
