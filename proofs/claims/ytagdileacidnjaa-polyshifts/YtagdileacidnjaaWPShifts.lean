/- PolyShifts' walk: whatever the key, the other second half and the text, the call returns true and nothing that was in memory has changed. -/
import Derived.Test.YtagdileacidnjaaPKey
import Derived.Deep.DrawnRows
import Derived.Deep.MidRow
import Derived.Deep.DeepCutAuto
import Derived.Deep.CutBlock
import Derived.Laws.Cover3
namespace Go.Proofs.Ytagdileacidnjaa
open Go.RowKit
attribute [local go_sem ↓] Go.wp_at_zero Go.wp_at_succ

theorem alloc_tag2 (w2 : World) (Z : Array Value) (hZ : Z = (zero16L.map bv).toArray) : ∃ W3, W3 = w2.alloc (.cells Z 24) ∧ Blk W3 w2.heap.size 24 (zero16L.map bv) ∧ w2.grownBy W3 none := by
  refine ⟨_, rfl, ?_, gb_alloc (gb_refl _ _) _⟩
  subst hZ
  exact Blk.new w2 24 (zero16L.map bv)

theorem and255 (x : Nat) (h : x < 1024) : bits .and .i64 (x : Int) 255 = ((x % 256 : Nat) : Int) := by
  have : ∀ k : Fin 1024, bits .and .i64 (k.val : Int) 255 = ((k.val % 256 : Nat) : Int) := by decide +kernel
  exact this ⟨x, h⟩
theorem at8_back (k s : List UInt8) (hk : k.length = 32) (i : Nat) : at8 (k.take 16 ++ s) (16 + i) = at8 s i := by
  unfold at8
  rw [List.getD, List.getD, List.getElem?_append_right (by simp [hk])]
  simp [hk]
theorem at8_drop (k : List UInt8) (i : Nat) : at8 (k.drop 16) i = at8 k (16 + i) := by
  unfold at8
  simp [List.getD]

set_option maxRecDepth 100000 in
set_option maxHeartbeats 4000000 in
theorem polyShifts_any (w : World) (k : List UInt8) (hk : k.length = 32) (s : List UInt8) (hs : s.length = 16) (ao : Option Addr) (cap : Nat) (l : List UInt8) (hb : Bts w ao cap l) :
    Calls Try.prog 6 #[.agg (k.map bv).toArray, .agg (s.map bv).toArray, .slice ao l.length cap] w fun e w' => e = .returned (.bool true) ∧ w.grownBy w' none := by
  have tr : ∀ {x y z : World}, x.grownBy y none → y.grownBy z none → x.grownBy z none := fun h k => gb_trans h k (fun _ e => by cases e)
  have hi16 : (Try.prog.info? 24).map (·.size) = some 16 := by kernel_rfl
  have hi32 : (Try.prog.info? 22).map (·.size) = some 32 := by kernel_rfl
  obtain ⟨l0, hl0⟩ : ∃ l0, l0 = l.take 1000 := ⟨_, rfl⟩
  have hb0 : Bts w ao cap l0 := by
    rw [hl0]
    by_cases hn : 1000 ≤ l.length
    · exact hb.take 1000 hn
    · rw [List.take_of_length_le (by omega)]; exact hb
  obtain ⟨L, hL⟩ : ∃ L, L = l0.length := ⟨_, rfl⟩
  have hL2 : L ≤ 1000 := by rw [hL, hl0]; simp; omega
  obtain ⟨KA, hKA⟩ : ∃ A : Array Value, A = (k.map bv).toArray := ⟨_, rfl⟩
  obtain ⟨SA, hSA⟩ : ∃ A : Array Value, A = (s.map bv).toArray := ⟨_, rfl⟩
  obtain ⟨Z, hZ⟩ : ∃ A : Array Value, A = (zero16L.map bv).toArray := ⟨_, rfl⟩
  have hz : ∀ w : World, (zeroValue 24).run Try.prog w = .ok (.agg Z) w := by rw [hZ]; exact zero16b
  obtain ⟨Y, hY⟩ : ∃ A : Array Value, A = ((List.replicate 32 (0 : UInt8)).map bv).toArray := ⟨_, rfl⟩
  have hy := zero32b
  rw [← hY] at hy
  have hsK : KA.size = 32 := by rw [hKA]; simp [hk]
  have hone : KA.all (·.oneCell') = true := by rw [hKA]; exact all_oneCell_toArray (bv_one _)
  obtain ⟨W1, hW1⟩ : ∃ W1, W1 = (w.alloc (.cells KA 22)).alloc (.cells SA 24) := ⟨_, rfl⟩
  have hs1 : W1.heap.size = w.heap.size + 2 := by rw [hW1, World.size_alloc, World.size_alloc]
  have hg1 : w.grownBy W1 none := by rw [hW1]; exact gb_alloc (gb_alloc (gb_refl _ _) _) _
  have hK1 : Blk W1 w.heap.size 22 (k.map bv) := by rw [hW1, hKA]; exact (Blk.new w 22 _).alloc _
  have hS1 : Blk W1 (w.heap.size + 1) 24 (s.map bv) := by
    have := Blk.new (w.alloc (.cells KA 22)) 24 (s.map bv)
    rw [World.size_alloc] at this
    rw [hW1, hSA]; exact this
  obtain ⟨W2, hW2⟩ : ∃ W2, W2 = W1.alloc (.cells Y 22) := ⟨_, rfl⟩
  have hN2 : Blk W2 (w.heap.size + 2) 22 ((List.replicate 32 (0 : UInt8)).map bv) := by
    have := Blk.new W1 22 ((List.replicate 32 (0 : UInt8)).map bv)
    rw [hs1] at this
    rw [hW2, hY]; exact this
  obtain ⟨W3, hW3⟩ : ∃ W3, W3 = W2.setRow (w.heap.size + 2) KA := ⟨_, rfl⟩
  have hO3 : Blk W3 (w.heap.size + 2) 22 ((keyS k s 0).map bv) := by rw [hW3, keyS_none k s hk, hKA]; exact hN2.row _
  have hK3 : Blk W3 w.heap.size 22 (k.map bv) := by rw [hW3, hW2]; exact (hK1.alloc _).row_other _ _ (by omega)
  have hS3 : Blk W3 (w.heap.size + 1) 24 (s.map bv) := by rw [hW3, hW2]; exact (hS1.alloc _).row_other _ _ (by omega)
  have hg3 : w.grownBy W3 none := by rw [hW3, hW2]; exact gb_row (gb_alloc hg1 _) _ (Or.inl (by omega))
  have hK1' : W1.heap[w.heap.size]? = some (.cells KA 22 (0, 0)) := by rw [hKA]; exact hK1
  rw [← hKA, ← hSA]
  have HK := hide hk
  have HS := hide hs
  have HSK := hide hsK
  have HONE := hide hone
  have HZ := hide hZ
  have HW1 := hide hW1
  have HW2 := hide hW2
  have HN2 := hide hN2
  have HW3 := hide hW3
  have HK1 := hide hK1'
  have HO3 := hide hO3
  have HK3 := hide hK3
  have HS3 := hide hS3
  have HB0 := hide hb0
  have HL := hide hL
  have HL2 := hide hL2
  have hfit := hb.fits
  have HL0 := hide hl0
  clear hk hs hKA hSA hZ hY hsK hone hW1 hg1 hK1 hS1 hW2 hN2 hW3 hO3 hK3 hS3 hK1' hb0 hL hL2 hl0 hb
  go_enter Try.func6, Try.ntmps6
  go_upto_if 16 with fail
  rw [← unhide HW1]
  go_cut [2] (fun v wx => v = .slice ao L cap ∧ wx = W1)
  case first =>
    by_cases hlen : 1000 < l.length
    · have hLe : L = 1000 := by rw [unhide HL, unhide HL0]; simp; omega
      have hsl : ∀ W, (Instr.slice 23 (.slice ao l.length cap) none (some (.int .i64 1000)) none).run Try.prog W = .ok (.slice ao L cap) W := fun W => by
        rw [hLe]; exact slice_to W _ _ Try.underlying23 size_byte ao l.length cap 1000 (by omega)
      have hg : (1000 : Int) < (l.length : Int) := by omega
      have hgb : decide ((1000 : Int) < (l.length : Int)) = true := decide_eq_true hg
      clear hLe
      go_wp2
      go_meet
      case rel => exact ⟨rfl, rfl⟩
    · have hLe : l.length = L := by rw [unhide HL, unhide HL0, List.take_of_length_le (by omega)]
      rw [hLe]
      have hg : ¬ (1000 : Int) < (L : Int) := by omega
      clear hLe hlen
      go_wp2
      go_meet
      case rel => exact ⟨rfl, rfl⟩
  case rest =>
    obtain ⟨rfl, rfl⟩ := hcut
    go_wp2_with (first
      | (refine wpList_load_row rfl 22 _ rfl w.heap.size rfl _ _ _ _ (unhide HK1) Try.underlying22 rfl ?_ ?_; (rw [unhide HSK]; exact hi32))
      | (rw [← unhide HW2]; refine wpList_store_row rfl 22 _ _ rfl (w.heap.size + 2) _ rfl rfl _ _ (unhide HN2) ?_ ?_ ?_ ?_; (rw [unhide HSK]; exact hi32); (rw [unhide HSK]; rfl); (exact unhide HONE); rw [← unhide HW3]))
    go_loopw [8] (fun i wr => ∃ r : Nat, r ≤ 16 ∧ i = .int .i64 (r : Int) ∧ Blk wr (w.heap.size + 2) 22 ((keyS k s r).map bv) ∧ Blk wr w.heap.size 22 (k.map bv) ∧ Blk wr (w.heap.size + 1) 24 (s.map bv) ∧ w.grownBy wr none) (fun i _ => 16 - (intOf i).toNat)
    case atStart => exact ⟨0, Nat.zero_le _, rfl, unhide HO3, unhide HK3, unhide HS3, hg3⟩
    case round =>
      clear HO3 HK3 HS3 hg3 HW1 HW2 HW3 HN2 HK1
      obtain ⟨r, hr, rfl, hO, hK, hS, hg⟩ := hrel
      by_cases hlt : r < 16
      · have q0 : (0 : Int) ≤ (r : Int) := by omega
        have q1 : (r : Int) < 16 := by omega
        obtain ⟨q, hq⟩ : ∃ q, q = 16 + r := ⟨_, rfl⟩
        have q2 : (16 : Int) + (r : Int) = (q : Int) := by omega
        have q3 : (q : Int) < 32 := by omega
        have q4 : (0 : Int) ≤ (q : Int) := by omega
        have q5 : IntKind.i64.wrap (q : Int) = (q : Int) := by rw [IntKind.wrap_i64]; omega
        obtain ⟨x, hx⟩ : ∃ x, x = at8 s r := ⟨_, rfl⟩
        have hc := byte_at hS r (by rw [unhide HS]; exact hlt)
        rw [← hx] at hc
        obtain ⟨y, hy2⟩ : ∃ y, y = (k.getD (16 + r) 0).toNat := ⟨_, rfl⟩
        have hc2 : wr.cell? ⟨w.heap.size + 2, q, none⟩ = some (.int .u8 (y : Int)) := by
          rw [hO.cell, hq, keyS_at k s r hlt, hy2]; rfl
        have hfz := hO.fz q
        have hO2 : Blk (wr.setCell ⟨w.heap.size + 2, q, none⟩ (.int .u8 (x : Int))) (w.heap.size + 2) 22 ((keyS k s (r + 1)).map bv) := by
          rw [← keyS_set, List.map_set, ← hq, hx]; exact hO.set q (bv (s.getD r 0))
        have HO2 := hide hO2
        have HK2 := hide (hK.other ⟨w.heap.size + 2, q, none⟩ (.int .u8 (x : Int)) (by simp))
        have HS2 := hide (hS.other ⟨w.heap.size + 2, q, none⟩ (.int .u8 (x : Int)) (by simp))
        clear hO hK hS hO2 hq hx hy2
        go_wp2
        go_roundw
        case rel => exact ⟨r + 1, by omega, by go_num, unhide HO2, unhide HK2, unhide HS2, gb_setCell hg _ _ (Or.inl (by simp))⟩
        case measure => simp [intOf]; omega
      · obtain rfl : r = 16 := by omega
        rw [show ((16 : Nat) : Int) = 16 from rfl]
        rw [keyS_all k s (unhide HK) (unhide HS)] at hO
        obtain ⟨O, hOe⟩ : ∃ O, O = k.take 16 ++ s := ⟨_, rfl⟩
        rw [← hOe] at hO
        have hOl : O.length = 32 := by rw [hOe]; simp [unhide HS, unhide HK]
        obtain ⟨T, hT⟩ : ∃ T, T = tagL k l0 := ⟨_, rfl⟩
        obtain ⟨U, hU⟩ : ∃ U, U = tagL O l0 := ⟨_, rfl⟩
        have hTl : T.length = 16 := by rw [hT]; exact tagL_length _ _
        have hUl : U.length = 16 := by rw [hU]; exact tagL_length _ _
        have hsT : ((T.map bv).toArray).size = 16 := by simp [hTl]
        have hsU : ((U.map bv).toArray).size = 16 := by simp [hUl]
        have hrK := blk_range5 hK
        have hrO := blk_range5 hO
        have hiK : (Try.prog.info? 22).map (·.size) = some (k.map bv).length := by rw [List.length_map, unhide HK]; exact hi32
        have hiO : (Try.prog.info? 22).map (·.size) = some (O.map bv).length := by rw [List.length_map, hOl]; exact hi32
        have cT : ∀ V, wr.grownBy V none → Calls Try.prog 7 #[.agg (k.map bv).toArray, .slice ao L cap] V fun e w' => e = .returned (.agg (T.map bv).toArray) ∧ V.grownBy w' none := fun V gV => by
          have h := psum_any V k (unhide HK) ao cap l0 ((unhide HB0).kept (tr hg gV) (fun _ e => by cases e)) (by have := unhide HL; have := unhide HL2; omega)
          rw [← unhide HL, ← hT] at h
          exact h
        have cU : ∀ V, wr.grownBy V none → Calls Try.prog 7 #[.agg (O.map bv).toArray, .slice ao L cap] V fun e w' => e = .returned (.agg (U.map bv).toArray) ∧ V.grownBy w' none := fun V gV => by
          have h := psum_any V O hOl ao cap l0 ((unhide HB0).kept (tr hg gV) (fun _ e => by cases e)) (by have := unhide HL; have := unhide HL2; omega)
          rw [← unhide HL, ← hU] at h
          exact h
        have h0 : wr.grownBy wr.drew none := gb_drew (gb_refl _ _)
        have HO := hide hO
        have HK4 := hide hK
        have HS4 := hide hS
        have HT := hide hT
        have HU := hide hU
        have HTL := hide hTl
        have HUL := hide hUl
        have HST := hide hsT
        have HSU := hide hsU
        have HOE := hide hOe
        have HOL := hide hOl
        clear hO hK hS hT hU hTl hUl hsT hsU hOe hOl hr hlt
        go_upto_region 8 with fail
        go_cut [9, 10] (fun x9 x10 wx => ∃ p p2 : Nat, x9 = .pointer (some ⟨p, 0, none⟩) ∧ x10 = .pointer (some ⟨p2, 0, none⟩) ∧ wr.heap.size ≤ p ∧ wr.heap.size ≤ p2 ∧ Blk wx p 24 (T.map bv) ∧ Blk wx p2 24 (U.map bv) ∧ wr.grownBy wx none)
        case first =>
          refine wp_region_noPanic ?_
          refine wp_region_held_drew (S := fun V => wr.grownBy V none) (by kernel_rfl) h0 (fun _ => ?_)
          refine wpAnyH_take (i := 0) (oi := { dst := some 30, op := Op.load 22 (Operand.tmp 3), type := _, pos := _, after := _, guard := _ }) (v := .agg (k.map bv).toArray) rfl (by kernel_rfl) (by kernel_rfl) (by kernel_rfl) (fun _ _ _ h => h) (yieldsIf_load_mid (by rfl) _ _ rfl _ _ rfl (k.map bv) _ (fun V hV => range_kept hrK hV (by simp)) Try.underlying22 rfl hiK) h0 ?_
          (try simp only [Act.put, List.setIfInBounds_toArray, List.set_cons_zero, List.set_cons_succ])
          refine wpAnyH_take (i := 1) (oi := { dst := some 31, op := Op.move (Operand.tmp 2), type := _, pos := _, after := _, guard := _ }) (v := .slice ao L cap) rfl (by kernel_rfl) (by kernel_rfl) (by kernel_rfl) (fun _ _ _ h => h) (Or.inl ⟨by rfl, fun V (hV : wr.grownBy V none) => by go_simp⟩) h0 ?_
          (try simp only [Act.put, List.setIfInBounds_toArray, List.set_cons_zero, List.set_cons_succ])
          refine wpAnyH_take (i := 3) (oi := { dst := some 33, op := Op.load 22 (Operand.tmp 7), type := _, pos := _, after := _, guard := _ }) (v := .agg (O.map bv).toArray) rfl (by kernel_rfl) (by kernel_rfl) (by kernel_rfl) (fun _ _ _ h => h) (yieldsIf_load_mid (by rfl) _ _ rfl _ _ rfl (O.map bv) _ (fun V hV => range_kept hrO hV (by simp)) Try.underlying22 rfl hiO) h0 ?_
          (try simp only [Act.put, List.setIfInBounds_toArray, List.set_cons_zero, List.set_cons_succ])
          refine wpAnyH_take (i := 4) (oi := { dst := some 34, op := Op.move (Operand.tmp 2), type := _, pos := _, after := _, guard := _ }) (v := .slice ao L cap) rfl (by kernel_rfl) (by kernel_rfl) (by kernel_rfl) (fun _ _ _ h => h) (Or.inl ⟨by rfl, fun V (hV : wr.grownBy V none) => by go_simp⟩) h0 ?_
          (try simp only [Act.put, List.setIfInBounds_toArray, List.set_cons_zero, List.set_cons_succ])
          refine wpAnyH_ready (rs := [2, 6, 7]) (by kernel_rfl) (by simp) ?_
          refine AllReadyH.cons (o := { dst := some 32, op := Op.call { callee := Callee.value (Operand.func 7), args := #[(Operand.tmp 30), (Operand.tmp 31)], argTypes := #[22, 23] }, type := _, pos := _, after := _, guard := _ }) rfl (fun K9 hK9 => ?_) (AllReadyH.cons (o := { dst := some 9, op := Op.alloc 24, type := _, pos := _, after := _, guard := _ }) rfl (fun K9 hK9 => ?_) (AllReadyH.cons (o := { dst := some 10, op := Op.alloc 24, type := _, pos := _, after := _, guard := _ }) rfl (fun K9 hK9 => ?_) AllReadyH.nil))
          · go_simp
            go_at_call 7
            refine (cT _ h0).mono ?_
            rintro e wA ⟨rfl, gA⟩
            go_wp2_with fail
            refine hK9.out _ _ (tr h0 gA) (fun _ => ?_)
            clear hK9 K9
            (try simp only [Act.put, List.setIfInBounds_toArray, List.set_cons_zero, List.set_cons_succ])
            refine wpAnyH_ready (rs := [5, 6, 7]) (by kernel_rfl) (by simp) ?_
            refine AllReadyH.cons (o := { dst := some 35, op := Op.call { callee := Callee.value (Operand.func 7), args := #[(Operand.tmp 33), (Operand.tmp 34)], argTypes := #[22, 23] }, type := _, pos := _, after := _, guard := _ }) rfl (fun K9 hK9 => ?_) (AllReadyH.cons (o := { dst := some 9, op := Op.alloc 24, type := _, pos := _, after := _, guard := _ }) rfl (fun K9 hK9 => ?_) (AllReadyH.cons (o := { dst := some 10, op := Op.alloc 24, type := _, pos := _, after := _, guard := _ }) rfl (fun K9 hK9 => ?_) AllReadyH.nil))
            · go_simp
              go_at_call 7
              refine (cU _ (tr h0 gA)).mono ?_
              rintro e wB ⟨rfl, gB⟩
              go_wp2_with fail
              refine hK9.out _ _ (tr (tr h0 gA) gB) (fun _ => ?_)
              clear hK9 K9
              (try simp only [Act.put, List.setIfInBounds_toArray, List.set_cons_zero, List.set_cons_succ])
              refine wpAnyH_ready (rs := [6, 7]) (by kernel_rfl) (by simp) ?_
              refine AllReadyH.cons (o := { dst := some 9, op := Op.alloc 24, type := _, pos := _, after := _, guard := _ }) rfl (fun K9 hK9 => ?_) (AllReadyH.cons (o := { dst := some 10, op := Op.alloc 24, type := _, pos := _, after := _, guard := _ }) rfl (fun K9 hK9 => ?_) AllReadyH.nil)
              · go_simp
                refine hK9.out _ _ (gb_alloc (tr (tr h0 gA) gB) _) (fun _ => ?_)
                clear hK9 K9
                (try simp only [Act.put, List.setIfInBounds_toArray, List.set_cons_zero, List.set_cons_succ])
                obtain ⟨WP6, hWP6, hBP6, gP6⟩ := alloc_tag2 (wB) Z (unhide HZ)
                rw [← hWP6]
                have hp6 : wr.heap.size ≤ (wB).heap.size := ((tr (tr h0 gA) gB)).size
                clear hWP6
                refine wpAnyH_ready (rs := [7]) (by kernel_rfl) (by simp) ?_
                refine AllReadyH.cons (o := { dst := some 10, op := Op.alloc 24, type := _, pos := _, after := _, guard := _ }) rfl (fun K9 hK9 => ?_) AllReadyH.nil
                go_simp
                refine hK9.out _ _ (gb_alloc (tr (tr (tr h0 gA) gB) gP6) _) (fun _ => ?_)
                clear hK9 K9
                (try simp only [Act.put, List.setIfInBounds_toArray, List.set_cons_zero, List.set_cons_succ])
                obtain ⟨WP7, hWP7, hBP7, gP7⟩ := alloc_tag2 (WP6) Z (unhide HZ)
                rw [← hWP7]
                have hp7 : wr.heap.size ≤ (WP6).heap.size := ((tr (tr (tr h0 gA) gB) gP6)).size
                clear hWP7
                have hne : (wB).heap.size ≠ (WP6).heap.size := by have := (hBP6).lt; omega
                refine wpAnyH_ready (rs := [8]) (by kernel_rfl) (by simp) ?_
                refine AllReadyH.cons (o := { dst := none, op := Op.store 24 (Operand.tmp 9) (Operand.tmp 32), type := _, pos := _, after := _, guard := _ }) rfl (fun K9 hK9 => ?_) AllReadyH.nil
                rw [if_pos (by rfl)]
                refine wp_store_row _ _ _ rfl ((wB).heap.size) _ rfl rfl _ _ (hBP6.kept gP7 (by simp)) (by rw [unhide HST]; exact hi16) (by rw [unhide HST]; rfl) (all_oneCell_toArray (bv_one _)) ?_
                refine hK9.out _ _ (gb_row (tr (tr (tr (tr h0 gA) gB) gP6) gP7) _ (Or.inl hp6)) (fun _ => ?_)
                clear hK9 K9
                (try simp only [Act.put])
                refine wpAnyH_ready (rs := [9]) (by kernel_rfl) (by simp) ?_
                refine AllReadyH.cons (o := { dst := none, op := Op.store 24 (Operand.tmp 10) (Operand.tmp 35), type := _, pos := _, after := _, guard := _ }) rfl (fun K9 hK9 => ?_) AllReadyH.nil
                rw [if_pos (by rfl)]
                refine wp_store_row _ _ _ rfl ((WP6).heap.size) _ rfl rfl _ _ (hBP7.row_other ((wB).heap.size) (T.map bv).toArray hne) (by rw [unhide HSU]; exact hi16) (by rw [unhide HSU]; rfl) (all_oneCell_toArray (bv_one _)) ?_
                refine hK9.out _ _ (gb_row (gb_row (tr (tr (tr (tr h0 gA) gB) gP6) gP7) _ (Or.inl hp6)) _ (Or.inl hp7)) (fun _ => ?_)
                clear hK9 K9
                (try simp only [Act.put])
                refine wpAnyH_done (by kernel_rfl) ?_ _
                refine NoPanic.normal ?_
                have hfT := (((hBP6.kept gP7 (by simp))).row (T.map bv)).row_other ((WP6).heap.size) (U.map bv).toArray (fun e => hne e.symm)
                have hfU := ((hBP7).row_other ((wB).heap.size) (T.map bv).toArray hne).row (U.map bv)
                have hfG := gb_row (gb_row (tr (tr (tr (tr h0 gA) gB) gP6) gP7) (T.map bv).toArray (Or.inl hp6)) (U.map bv).toArray (Or.inl hp7)
                have HFT := hide hfT
                have HFU := hide hfU
                have HFG := hide hfG
                clear hfT hfU hfG
                go_wp2
                go_meet
                case rel => exact ⟨_, _, rfl, rfl, hp6, hp7, unhide HFT, unhide HFU, unhide HFG⟩
              · go_simp
                refine hK9.out _ _ (gb_alloc (tr (tr h0 gA) gB) _) (fun _ => ?_)
                clear hK9 K9
                (try simp only [Act.put, List.setIfInBounds_toArray, List.set_cons_zero, List.set_cons_succ])
                obtain ⟨WP7, hWP7, hBP7, gP7⟩ := alloc_tag2 (wB) Z (unhide HZ)
                rw [← hWP7]
                have hp7 : wr.heap.size ≤ (wB).heap.size := ((tr (tr h0 gA) gB)).size
                clear hWP7
                refine wpAnyH_ready (rs := [6]) (by kernel_rfl) (by simp) ?_
                refine AllReadyH.cons (o := { dst := some 9, op := Op.alloc 24, type := _, pos := _, after := _, guard := _ }) rfl (fun K9 hK9 => ?_) AllReadyH.nil
                go_simp
                refine hK9.out _ _ (gb_alloc (tr (tr (tr h0 gA) gB) gP7) _) (fun _ => ?_)
                clear hK9 K9
                (try simp only [Act.put, List.setIfInBounds_toArray, List.set_cons_zero, List.set_cons_succ])
                obtain ⟨WP6, hWP6, hBP6, gP6⟩ := alloc_tag2 (WP7) Z (unhide HZ)
                rw [← hWP6]
                have hp6 : wr.heap.size ≤ (WP7).heap.size := ((tr (tr (tr h0 gA) gB) gP7)).size
                clear hWP6
                have hne : (WP7).heap.size ≠ (wB).heap.size := by have := (hBP7).lt; omega
                refine wpAnyH_ready (rs := [8]) (by kernel_rfl) (by simp) ?_
                refine AllReadyH.cons (o := { dst := none, op := Op.store 24 (Operand.tmp 9) (Operand.tmp 32), type := _, pos := _, after := _, guard := _ }) rfl (fun K9 hK9 => ?_) AllReadyH.nil
                rw [if_pos (by rfl)]
                refine wp_store_row _ _ _ rfl ((WP7).heap.size) _ rfl rfl _ _ hBP6 (by rw [unhide HST]; exact hi16) (by rw [unhide HST]; rfl) (all_oneCell_toArray (bv_one _)) ?_
                refine hK9.out _ _ (gb_row (tr (tr (tr (tr h0 gA) gB) gP7) gP6) _ (Or.inl hp6)) (fun _ => ?_)
                clear hK9 K9
                (try simp only [Act.put])
                refine wpAnyH_ready (rs := [9]) (by kernel_rfl) (by simp) ?_
                refine AllReadyH.cons (o := { dst := none, op := Op.store 24 (Operand.tmp 10) (Operand.tmp 35), type := _, pos := _, after := _, guard := _ }) rfl (fun K9 hK9 => ?_) AllReadyH.nil
                rw [if_pos (by rfl)]
                refine wp_store_row _ _ _ rfl ((wB).heap.size) _ rfl rfl _ _ ((hBP7.kept gP6 (by simp)).row_other ((WP7).heap.size) (T.map bv).toArray hne) (by rw [unhide HSU]; exact hi16) (by rw [unhide HSU]; rfl) (all_oneCell_toArray (bv_one _)) ?_
                refine hK9.out _ _ (gb_row (gb_row (tr (tr (tr (tr h0 gA) gB) gP7) gP6) _ (Or.inl hp6)) _ (Or.inl hp7)) (fun _ => ?_)
                clear hK9 K9
                (try simp only [Act.put])
                refine wpAnyH_done (by kernel_rfl) ?_ _
                refine NoPanic.normal ?_
                have hfT := ((hBP6).row (T.map bv)).row_other ((wB).heap.size) (U.map bv).toArray (fun e => hne e.symm)
                have hfU := (((hBP7.kept gP6 (by simp))).row_other ((WP7).heap.size) (T.map bv).toArray hne).row (U.map bv)
                have hfG := gb_row (gb_row (tr (tr (tr (tr h0 gA) gB) gP7) gP6) (T.map bv).toArray (Or.inl hp6)) (U.map bv).toArray (Or.inl hp7)
                have HFT := hide hfT
                have HFU := hide hfU
                have HFG := hide hfG
                clear hfT hfU hfG
                go_wp2
                go_meet
                case rel => exact ⟨_, _, rfl, rfl, hp6, hp7, unhide HFT, unhide HFU, unhide HFG⟩
            · go_simp
              refine hK9.out _ _ (gb_alloc (tr h0 gA) _) (fun _ => ?_)
              clear hK9 K9
              (try simp only [Act.put, List.setIfInBounds_toArray, List.set_cons_zero, List.set_cons_succ])
              obtain ⟨WP6, hWP6, hBP6, gP6⟩ := alloc_tag2 (wA) Z (unhide HZ)
              rw [← hWP6]
              have hp6 : wr.heap.size ≤ (wA).heap.size := ((tr h0 gA)).size
              clear hWP6
              refine wpAnyH_ready (rs := [5, 7]) (by kernel_rfl) (by simp) ?_
              refine AllReadyH.cons (o := { dst := some 35, op := Op.call { callee := Callee.value (Operand.func 7), args := #[(Operand.tmp 33), (Operand.tmp 34)], argTypes := #[22, 23] }, type := _, pos := _, after := _, guard := _ }) rfl (fun K9 hK9 => ?_) (AllReadyH.cons (o := { dst := some 10, op := Op.alloc 24, type := _, pos := _, after := _, guard := _ }) rfl (fun K9 hK9 => ?_) AllReadyH.nil)
              · go_simp
                go_at_call 7
                refine (cU _ (tr (tr h0 gA) gP6)).mono ?_
                rintro e wB ⟨rfl, gB⟩
                go_wp2_with fail
                refine hK9.out _ _ (tr (tr (tr h0 gA) gP6) gB) (fun _ => ?_)
                clear hK9 K9
                (try simp only [Act.put, List.setIfInBounds_toArray, List.set_cons_zero, List.set_cons_succ])
                refine wpAnyH_ready (rs := [7]) (by kernel_rfl) (by simp) ?_
                refine AllReadyH.cons (o := { dst := some 10, op := Op.alloc 24, type := _, pos := _, after := _, guard := _ }) rfl (fun K9 hK9 => ?_) AllReadyH.nil
                go_simp
                refine hK9.out _ _ (gb_alloc (tr (tr (tr h0 gA) gP6) gB) _) (fun _ => ?_)
                clear hK9 K9
                (try simp only [Act.put, List.setIfInBounds_toArray, List.set_cons_zero, List.set_cons_succ])
                obtain ⟨WP7, hWP7, hBP7, gP7⟩ := alloc_tag2 (wB) Z (unhide HZ)
                rw [← hWP7]
                have hp7 : wr.heap.size ≤ (wB).heap.size := ((tr (tr (tr h0 gA) gP6) gB)).size
                clear hWP7
                have hne : (wA).heap.size ≠ (wB).heap.size := by have := ((hBP6.kept gB (by simp))).lt; omega
                refine wpAnyH_ready (rs := [8]) (by kernel_rfl) (by simp) ?_
                refine AllReadyH.cons (o := { dst := none, op := Op.store 24 (Operand.tmp 9) (Operand.tmp 32), type := _, pos := _, after := _, guard := _ }) rfl (fun K9 hK9 => ?_) AllReadyH.nil
                rw [if_pos (by rfl)]
                refine wp_store_row _ _ _ rfl ((wA).heap.size) _ rfl rfl _ _ ((hBP6.kept gB (by simp)).kept gP7 (by simp)) (by rw [unhide HST]; exact hi16) (by rw [unhide HST]; rfl) (all_oneCell_toArray (bv_one _)) ?_
                refine hK9.out _ _ (gb_row (tr (tr (tr (tr h0 gA) gP6) gB) gP7) _ (Or.inl hp6)) (fun _ => ?_)
                clear hK9 K9
                (try simp only [Act.put])
                refine wpAnyH_ready (rs := [9]) (by kernel_rfl) (by simp) ?_
                refine AllReadyH.cons (o := { dst := none, op := Op.store 24 (Operand.tmp 10) (Operand.tmp 35), type := _, pos := _, after := _, guard := _ }) rfl (fun K9 hK9 => ?_) AllReadyH.nil
                rw [if_pos (by rfl)]
                refine wp_store_row _ _ _ rfl ((wB).heap.size) _ rfl rfl _ _ (hBP7.row_other ((wA).heap.size) (T.map bv).toArray hne) (by rw [unhide HSU]; exact hi16) (by rw [unhide HSU]; rfl) (all_oneCell_toArray (bv_one _)) ?_
                refine hK9.out _ _ (gb_row (gb_row (tr (tr (tr (tr h0 gA) gP6) gB) gP7) _ (Or.inl hp6)) _ (Or.inl hp7)) (fun _ => ?_)
                clear hK9 K9
                (try simp only [Act.put])
                refine wpAnyH_done (by kernel_rfl) ?_ _
                refine NoPanic.normal ?_
                have hfT := ((((hBP6.kept gB (by simp)).kept gP7 (by simp))).row (T.map bv)).row_other ((wB).heap.size) (U.map bv).toArray (fun e => hne e.symm)
                have hfU := ((hBP7).row_other ((wA).heap.size) (T.map bv).toArray hne).row (U.map bv)
                have hfG := gb_row (gb_row (tr (tr (tr (tr h0 gA) gP6) gB) gP7) (T.map bv).toArray (Or.inl hp6)) (U.map bv).toArray (Or.inl hp7)
                have HFT := hide hfT
                have HFU := hide hfU
                have HFG := hide hfG
                clear hfT hfU hfG
                go_wp2
                go_meet
                case rel => exact ⟨_, _, rfl, rfl, hp6, hp7, unhide HFT, unhide HFU, unhide HFG⟩
              · go_simp
                refine hK9.out _ _ (gb_alloc (tr (tr h0 gA) gP6) _) (fun _ => ?_)
                clear hK9 K9
                (try simp only [Act.put, List.setIfInBounds_toArray, List.set_cons_zero, List.set_cons_succ])
                obtain ⟨WP7, hWP7, hBP7, gP7⟩ := alloc_tag2 (WP6) Z (unhide HZ)
                rw [← hWP7]
                have hp7 : wr.heap.size ≤ (WP6).heap.size := ((tr (tr h0 gA) gP6)).size
                clear hWP7
                have hne : (wA).heap.size ≠ (WP6).heap.size := by have := (hBP6).lt; omega
                refine wpAnyH_ready (rs := [5]) (by kernel_rfl) (by simp) ?_
                refine AllReadyH.cons (o := { dst := some 35, op := Op.call { callee := Callee.value (Operand.func 7), args := #[(Operand.tmp 33), (Operand.tmp 34)], argTypes := #[22, 23] }, type := _, pos := _, after := _, guard := _ }) rfl (fun K9 hK9 => ?_) AllReadyH.nil
                go_simp
                go_at_call 7
                refine (cU _ (tr (tr (tr h0 gA) gP6) gP7)).mono ?_
                rintro e wB ⟨rfl, gB⟩
                go_wp2_with fail
                refine hK9.out _ _ (tr (tr (tr (tr h0 gA) gP6) gP7) gB) (fun _ => ?_)
                clear hK9 K9
                (try simp only [Act.put, List.setIfInBounds_toArray, List.set_cons_zero, List.set_cons_succ])
                refine wpAnyH_ready (rs := [8]) (by kernel_rfl) (by simp) ?_
                refine AllReadyH.cons (o := { dst := none, op := Op.store 24 (Operand.tmp 9) (Operand.tmp 32), type := _, pos := _, after := _, guard := _ }) rfl (fun K9 hK9 => ?_) AllReadyH.nil
                rw [if_pos (by rfl)]
                refine wp_store_row _ _ _ rfl ((wA).heap.size) _ rfl rfl _ _ ((hBP6.kept gP7 (by simp)).kept gB (by simp)) (by rw [unhide HST]; exact hi16) (by rw [unhide HST]; rfl) (all_oneCell_toArray (bv_one _)) ?_
                refine hK9.out _ _ (gb_row (tr (tr (tr (tr h0 gA) gP6) gP7) gB) _ (Or.inl hp6)) (fun _ => ?_)
                clear hK9 K9
                (try simp only [Act.put])
                refine wpAnyH_ready (rs := [9]) (by kernel_rfl) (by simp) ?_
                refine AllReadyH.cons (o := { dst := none, op := Op.store 24 (Operand.tmp 10) (Operand.tmp 35), type := _, pos := _, after := _, guard := _ }) rfl (fun K9 hK9 => ?_) AllReadyH.nil
                rw [if_pos (by rfl)]
                refine wp_store_row _ _ _ rfl ((WP6).heap.size) _ rfl rfl _ _ ((hBP7.kept gB (by simp)).row_other ((wA).heap.size) (T.map bv).toArray hne) (by rw [unhide HSU]; exact hi16) (by rw [unhide HSU]; rfl) (all_oneCell_toArray (bv_one _)) ?_
                refine hK9.out _ _ (gb_row (gb_row (tr (tr (tr (tr h0 gA) gP6) gP7) gB) _ (Or.inl hp6)) _ (Or.inl hp7)) (fun _ => ?_)
                clear hK9 K9
                (try simp only [Act.put])
                refine wpAnyH_done (by kernel_rfl) ?_ _
                refine NoPanic.normal ?_
                have hfT := ((((hBP6.kept gP7 (by simp)).kept gB (by simp))).row (T.map bv)).row_other ((WP6).heap.size) (U.map bv).toArray (fun e => hne e.symm)
                have hfU := (((hBP7.kept gB (by simp))).row_other ((wA).heap.size) (T.map bv).toArray hne).row (U.map bv)
                have hfG := gb_row (gb_row (tr (tr (tr (tr h0 gA) gP6) gP7) gB) (T.map bv).toArray (Or.inl hp6)) (U.map bv).toArray (Or.inl hp7)
                have HFT := hide hfT
                have HFU := hide hfU
                have HFG := hide hfG
                clear hfT hfU hfG
                go_wp2
                go_meet
                case rel => exact ⟨_, _, rfl, rfl, hp6, hp7, unhide HFT, unhide HFU, unhide HFG⟩
            · go_simp
              refine hK9.out _ _ (gb_alloc (tr h0 gA) _) (fun _ => ?_)
              clear hK9 K9
              (try simp only [Act.put, List.setIfInBounds_toArray, List.set_cons_zero, List.set_cons_succ])
              obtain ⟨WP7, hWP7, hBP7, gP7⟩ := alloc_tag2 (wA) Z (unhide HZ)
              rw [← hWP7]
              have hp7 : wr.heap.size ≤ (wA).heap.size := ((tr h0 gA)).size
              clear hWP7
              refine wpAnyH_ready (rs := [5, 6]) (by kernel_rfl) (by simp) ?_
              refine AllReadyH.cons (o := { dst := some 35, op := Op.call { callee := Callee.value (Operand.func 7), args := #[(Operand.tmp 33), (Operand.tmp 34)], argTypes := #[22, 23] }, type := _, pos := _, after := _, guard := _ }) rfl (fun K9 hK9 => ?_) (AllReadyH.cons (o := { dst := some 9, op := Op.alloc 24, type := _, pos := _, after := _, guard := _ }) rfl (fun K9 hK9 => ?_) AllReadyH.nil)
              · go_simp
                go_at_call 7
                refine (cU _ (tr (tr h0 gA) gP7)).mono ?_
                rintro e wB ⟨rfl, gB⟩
                go_wp2_with fail
                refine hK9.out _ _ (tr (tr (tr h0 gA) gP7) gB) (fun _ => ?_)
                clear hK9 K9
                (try simp only [Act.put, List.setIfInBounds_toArray, List.set_cons_zero, List.set_cons_succ])
                refine wpAnyH_ready (rs := [6]) (by kernel_rfl) (by simp) ?_
                refine AllReadyH.cons (o := { dst := some 9, op := Op.alloc 24, type := _, pos := _, after := _, guard := _ }) rfl (fun K9 hK9 => ?_) AllReadyH.nil
                go_simp
                refine hK9.out _ _ (gb_alloc (tr (tr (tr h0 gA) gP7) gB) _) (fun _ => ?_)
                clear hK9 K9
                (try simp only [Act.put, List.setIfInBounds_toArray, List.set_cons_zero, List.set_cons_succ])
                obtain ⟨WP6, hWP6, hBP6, gP6⟩ := alloc_tag2 (wB) Z (unhide HZ)
                rw [← hWP6]
                have hp6 : wr.heap.size ≤ (wB).heap.size := ((tr (tr (tr h0 gA) gP7) gB)).size
                clear hWP6
                have hne : (wB).heap.size ≠ (wA).heap.size := by have := ((hBP7.kept gB (by simp))).lt; omega
                refine wpAnyH_ready (rs := [8]) (by kernel_rfl) (by simp) ?_
                refine AllReadyH.cons (o := { dst := none, op := Op.store 24 (Operand.tmp 9) (Operand.tmp 32), type := _, pos := _, after := _, guard := _ }) rfl (fun K9 hK9 => ?_) AllReadyH.nil
                rw [if_pos (by rfl)]
                refine wp_store_row _ _ _ rfl ((wB).heap.size) _ rfl rfl _ _ hBP6 (by rw [unhide HST]; exact hi16) (by rw [unhide HST]; rfl) (all_oneCell_toArray (bv_one _)) ?_
                refine hK9.out _ _ (gb_row (tr (tr (tr (tr h0 gA) gP7) gB) gP6) _ (Or.inl hp6)) (fun _ => ?_)
                clear hK9 K9
                (try simp only [Act.put])
                refine wpAnyH_ready (rs := [9]) (by kernel_rfl) (by simp) ?_
                refine AllReadyH.cons (o := { dst := none, op := Op.store 24 (Operand.tmp 10) (Operand.tmp 35), type := _, pos := _, after := _, guard := _ }) rfl (fun K9 hK9 => ?_) AllReadyH.nil
                rw [if_pos (by rfl)]
                refine wp_store_row _ _ _ rfl ((wA).heap.size) _ rfl rfl _ _ (((hBP7.kept gB (by simp)).kept gP6 (by simp)).row_other ((wB).heap.size) (T.map bv).toArray hne) (by rw [unhide HSU]; exact hi16) (by rw [unhide HSU]; rfl) (all_oneCell_toArray (bv_one _)) ?_
                refine hK9.out _ _ (gb_row (gb_row (tr (tr (tr (tr h0 gA) gP7) gB) gP6) _ (Or.inl hp6)) _ (Or.inl hp7)) (fun _ => ?_)
                clear hK9 K9
                (try simp only [Act.put])
                refine wpAnyH_done (by kernel_rfl) ?_ _
                refine NoPanic.normal ?_
                have hfT := ((hBP6).row (T.map bv)).row_other ((wA).heap.size) (U.map bv).toArray (fun e => hne e.symm)
                have hfU := ((((hBP7.kept gB (by simp)).kept gP6 (by simp))).row_other ((wB).heap.size) (T.map bv).toArray hne).row (U.map bv)
                have hfG := gb_row (gb_row (tr (tr (tr (tr h0 gA) gP7) gB) gP6) (T.map bv).toArray (Or.inl hp6)) (U.map bv).toArray (Or.inl hp7)
                have HFT := hide hfT
                have HFU := hide hfU
                have HFG := hide hfG
                clear hfT hfU hfG
                go_wp2
                go_meet
                case rel => exact ⟨_, _, rfl, rfl, hp6, hp7, unhide HFT, unhide HFU, unhide HFG⟩
              · go_simp
                refine hK9.out _ _ (gb_alloc (tr (tr h0 gA) gP7) _) (fun _ => ?_)
                clear hK9 K9
                (try simp only [Act.put, List.setIfInBounds_toArray, List.set_cons_zero, List.set_cons_succ])
                obtain ⟨WP6, hWP6, hBP6, gP6⟩ := alloc_tag2 (WP7) Z (unhide HZ)
                rw [← hWP6]
                have hp6 : wr.heap.size ≤ (WP7).heap.size := ((tr (tr h0 gA) gP7)).size
                clear hWP6
                have hne : (WP7).heap.size ≠ (wA).heap.size := by have := (hBP7).lt; omega
                refine wpAnyH_ready (rs := [5]) (by kernel_rfl) (by simp) ?_
                refine AllReadyH.cons (o := { dst := some 35, op := Op.call { callee := Callee.value (Operand.func 7), args := #[(Operand.tmp 33), (Operand.tmp 34)], argTypes := #[22, 23] }, type := _, pos := _, after := _, guard := _ }) rfl (fun K9 hK9 => ?_) AllReadyH.nil
                go_simp
                go_at_call 7
                refine (cU _ (tr (tr (tr h0 gA) gP7) gP6)).mono ?_
                rintro e wB ⟨rfl, gB⟩
                go_wp2_with fail
                refine hK9.out _ _ (tr (tr (tr (tr h0 gA) gP7) gP6) gB) (fun _ => ?_)
                clear hK9 K9
                (try simp only [Act.put, List.setIfInBounds_toArray, List.set_cons_zero, List.set_cons_succ])
                refine wpAnyH_ready (rs := [8]) (by kernel_rfl) (by simp) ?_
                refine AllReadyH.cons (o := { dst := none, op := Op.store 24 (Operand.tmp 9) (Operand.tmp 32), type := _, pos := _, after := _, guard := _ }) rfl (fun K9 hK9 => ?_) AllReadyH.nil
                rw [if_pos (by rfl)]
                refine wp_store_row _ _ _ rfl ((WP7).heap.size) _ rfl rfl _ _ (hBP6.kept gB (by simp)) (by rw [unhide HST]; exact hi16) (by rw [unhide HST]; rfl) (all_oneCell_toArray (bv_one _)) ?_
                refine hK9.out _ _ (gb_row (tr (tr (tr (tr h0 gA) gP7) gP6) gB) _ (Or.inl hp6)) (fun _ => ?_)
                clear hK9 K9
                (try simp only [Act.put])
                refine wpAnyH_ready (rs := [9]) (by kernel_rfl) (by simp) ?_
                refine AllReadyH.cons (o := { dst := none, op := Op.store 24 (Operand.tmp 10) (Operand.tmp 35), type := _, pos := _, after := _, guard := _ }) rfl (fun K9 hK9 => ?_) AllReadyH.nil
                rw [if_pos (by rfl)]
                refine wp_store_row _ _ _ rfl ((wA).heap.size) _ rfl rfl _ _ (((hBP7.kept gP6 (by simp)).kept gB (by simp)).row_other ((WP7).heap.size) (T.map bv).toArray hne) (by rw [unhide HSU]; exact hi16) (by rw [unhide HSU]; rfl) (all_oneCell_toArray (bv_one _)) ?_
                refine hK9.out _ _ (gb_row (gb_row (tr (tr (tr (tr h0 gA) gP7) gP6) gB) _ (Or.inl hp6)) _ (Or.inl hp7)) (fun _ => ?_)
                clear hK9 K9
                (try simp only [Act.put])
                refine wpAnyH_done (by kernel_rfl) ?_ _
                refine NoPanic.normal ?_
                have hfT := (((hBP6.kept gB (by simp))).row (T.map bv)).row_other ((wA).heap.size) (U.map bv).toArray (fun e => hne e.symm)
                have hfU := ((((hBP7.kept gP6 (by simp)).kept gB (by simp))).row_other ((WP7).heap.size) (T.map bv).toArray hne).row (U.map bv)
                have hfG := gb_row (gb_row (tr (tr (tr (tr h0 gA) gP7) gP6) gB) (T.map bv).toArray (Or.inl hp6)) (U.map bv).toArray (Or.inl hp7)
                have HFT := hide hfT
                have HFU := hide hfU
                have HFG := hide hfG
                clear hfT hfU hfG
                go_wp2
                go_meet
                case rel => exact ⟨_, _, rfl, rfl, hp6, hp7, unhide HFT, unhide HFU, unhide HFG⟩
          · go_simp
            refine hK9.out _ _ (gb_alloc h0 _) (fun _ => ?_)
            clear hK9 K9
            (try simp only [Act.put, List.setIfInBounds_toArray, List.set_cons_zero, List.set_cons_succ])
            obtain ⟨WP6, hWP6, hBP6, gP6⟩ := alloc_tag2 (wr.drew) Z (unhide HZ)
            rw [show (wr.alloc (.cells Z 24)).drew = WP6 by rw [hWP6]; rfl]
            have hp6 : wr.heap.size ≤ (wr.drew).heap.size := (h0).size
            clear hWP6
            refine wpAnyH_ready (rs := [2, 7]) (by kernel_rfl) (by simp) ?_
            refine AllReadyH.cons (o := { dst := some 32, op := Op.call { callee := Callee.value (Operand.func 7), args := #[(Operand.tmp 30), (Operand.tmp 31)], argTypes := #[22, 23] }, type := _, pos := _, after := _, guard := _ }) rfl (fun K9 hK9 => ?_) (AllReadyH.cons (o := { dst := some 10, op := Op.alloc 24, type := _, pos := _, after := _, guard := _ }) rfl (fun K9 hK9 => ?_) AllReadyH.nil)
            · go_simp
              go_at_call 7
              refine (cT _ (tr h0 gP6)).mono ?_
              rintro e wA ⟨rfl, gA⟩
              go_wp2_with fail
              refine hK9.out _ _ (tr (tr h0 gP6) gA) (fun _ => ?_)
              clear hK9 K9
              (try simp only [Act.put, List.setIfInBounds_toArray, List.set_cons_zero, List.set_cons_succ])
              refine wpAnyH_ready (rs := [5, 7]) (by kernel_rfl) (by simp) ?_
              refine AllReadyH.cons (o := { dst := some 35, op := Op.call { callee := Callee.value (Operand.func 7), args := #[(Operand.tmp 33), (Operand.tmp 34)], argTypes := #[22, 23] }, type := _, pos := _, after := _, guard := _ }) rfl (fun K9 hK9 => ?_) (AllReadyH.cons (o := { dst := some 10, op := Op.alloc 24, type := _, pos := _, after := _, guard := _ }) rfl (fun K9 hK9 => ?_) AllReadyH.nil)
              · go_simp
                go_at_call 7
                refine (cU _ (tr (tr h0 gP6) gA)).mono ?_
                rintro e wB ⟨rfl, gB⟩
                go_wp2_with fail
                refine hK9.out _ _ (tr (tr (tr h0 gP6) gA) gB) (fun _ => ?_)
                clear hK9 K9
                (try simp only [Act.put, List.setIfInBounds_toArray, List.set_cons_zero, List.set_cons_succ])
                refine wpAnyH_ready (rs := [7]) (by kernel_rfl) (by simp) ?_
                refine AllReadyH.cons (o := { dst := some 10, op := Op.alloc 24, type := _, pos := _, after := _, guard := _ }) rfl (fun K9 hK9 => ?_) AllReadyH.nil
                go_simp
                refine hK9.out _ _ (gb_alloc (tr (tr (tr h0 gP6) gA) gB) _) (fun _ => ?_)
                clear hK9 K9
                (try simp only [Act.put, List.setIfInBounds_toArray, List.set_cons_zero, List.set_cons_succ])
                obtain ⟨WP7, hWP7, hBP7, gP7⟩ := alloc_tag2 (wB) Z (unhide HZ)
                rw [← hWP7]
                have hp7 : wr.heap.size ≤ (wB).heap.size := ((tr (tr (tr h0 gP6) gA) gB)).size
                clear hWP7
                have hne : (wr.drew).heap.size ≠ (wB).heap.size := by have := (((hBP6.kept gA (by simp)).kept gB (by simp))).lt; omega
                refine wpAnyH_ready (rs := [8]) (by kernel_rfl) (by simp) ?_
                refine AllReadyH.cons (o := { dst := none, op := Op.store 24 (Operand.tmp 9) (Operand.tmp 32), type := _, pos := _, after := _, guard := _ }) rfl (fun K9 hK9 => ?_) AllReadyH.nil
                rw [if_pos (by rfl)]
                refine wp_store_row _ _ _ rfl ((wr.drew).heap.size) _ rfl rfl _ _ (((hBP6.kept gA (by simp)).kept gB (by simp)).kept gP7 (by simp)) (by rw [unhide HST]; exact hi16) (by rw [unhide HST]; rfl) (all_oneCell_toArray (bv_one _)) ?_
                refine hK9.out _ _ (gb_row (tr (tr (tr (tr h0 gP6) gA) gB) gP7) _ (Or.inl hp6)) (fun _ => ?_)
                clear hK9 K9
                (try simp only [Act.put])
                refine wpAnyH_ready (rs := [9]) (by kernel_rfl) (by simp) ?_
                refine AllReadyH.cons (o := { dst := none, op := Op.store 24 (Operand.tmp 10) (Operand.tmp 35), type := _, pos := _, after := _, guard := _ }) rfl (fun K9 hK9 => ?_) AllReadyH.nil
                rw [if_pos (by rfl)]
                refine wp_store_row _ _ _ rfl ((wB).heap.size) _ rfl rfl _ _ (hBP7.row_other ((wr.drew).heap.size) (T.map bv).toArray hne) (by rw [unhide HSU]; exact hi16) (by rw [unhide HSU]; rfl) (all_oneCell_toArray (bv_one _)) ?_
                refine hK9.out _ _ (gb_row (gb_row (tr (tr (tr (tr h0 gP6) gA) gB) gP7) _ (Or.inl hp6)) _ (Or.inl hp7)) (fun _ => ?_)
                clear hK9 K9
                (try simp only [Act.put])
                refine wpAnyH_done (by kernel_rfl) ?_ _
                refine NoPanic.normal ?_
                have hfT := (((((hBP6.kept gA (by simp)).kept gB (by simp)).kept gP7 (by simp))).row (T.map bv)).row_other ((wB).heap.size) (U.map bv).toArray (fun e => hne e.symm)
                have hfU := ((hBP7).row_other ((wr.drew).heap.size) (T.map bv).toArray hne).row (U.map bv)
                have hfG := gb_row (gb_row (tr (tr (tr (tr h0 gP6) gA) gB) gP7) (T.map bv).toArray (Or.inl hp6)) (U.map bv).toArray (Or.inl hp7)
                have HFT := hide hfT
                have HFU := hide hfU
                have HFG := hide hfG
                clear hfT hfU hfG
                go_wp2
                go_meet
                case rel => exact ⟨_, _, rfl, rfl, hp6, hp7, unhide HFT, unhide HFU, unhide HFG⟩
              · go_simp
                refine hK9.out _ _ (gb_alloc (tr (tr h0 gP6) gA) _) (fun _ => ?_)
                clear hK9 K9
                (try simp only [Act.put, List.setIfInBounds_toArray, List.set_cons_zero, List.set_cons_succ])
                obtain ⟨WP7, hWP7, hBP7, gP7⟩ := alloc_tag2 (wA) Z (unhide HZ)
                rw [← hWP7]
                have hp7 : wr.heap.size ≤ (wA).heap.size := ((tr (tr h0 gP6) gA)).size
                clear hWP7
                have hne : (wr.drew).heap.size ≠ (wA).heap.size := by have := ((hBP6.kept gA (by simp))).lt; omega
                refine wpAnyH_ready (rs := [5]) (by kernel_rfl) (by simp) ?_
                refine AllReadyH.cons (o := { dst := some 35, op := Op.call { callee := Callee.value (Operand.func 7), args := #[(Operand.tmp 33), (Operand.tmp 34)], argTypes := #[22, 23] }, type := _, pos := _, after := _, guard := _ }) rfl (fun K9 hK9 => ?_) AllReadyH.nil
                go_simp
                go_at_call 7
                refine (cU _ (tr (tr (tr h0 gP6) gA) gP7)).mono ?_
                rintro e wB ⟨rfl, gB⟩
                go_wp2_with fail
                refine hK9.out _ _ (tr (tr (tr (tr h0 gP6) gA) gP7) gB) (fun _ => ?_)
                clear hK9 K9
                (try simp only [Act.put, List.setIfInBounds_toArray, List.set_cons_zero, List.set_cons_succ])
                refine wpAnyH_ready (rs := [8]) (by kernel_rfl) (by simp) ?_
                refine AllReadyH.cons (o := { dst := none, op := Op.store 24 (Operand.tmp 9) (Operand.tmp 32), type := _, pos := _, after := _, guard := _ }) rfl (fun K9 hK9 => ?_) AllReadyH.nil
                rw [if_pos (by rfl)]
                refine wp_store_row _ _ _ rfl ((wr.drew).heap.size) _ rfl rfl _ _ (((hBP6.kept gA (by simp)).kept gP7 (by simp)).kept gB (by simp)) (by rw [unhide HST]; exact hi16) (by rw [unhide HST]; rfl) (all_oneCell_toArray (bv_one _)) ?_
                refine hK9.out _ _ (gb_row (tr (tr (tr (tr h0 gP6) gA) gP7) gB) _ (Or.inl hp6)) (fun _ => ?_)
                clear hK9 K9
                (try simp only [Act.put])
                refine wpAnyH_ready (rs := [9]) (by kernel_rfl) (by simp) ?_
                refine AllReadyH.cons (o := { dst := none, op := Op.store 24 (Operand.tmp 10) (Operand.tmp 35), type := _, pos := _, after := _, guard := _ }) rfl (fun K9 hK9 => ?_) AllReadyH.nil
                rw [if_pos (by rfl)]
                refine wp_store_row _ _ _ rfl ((wA).heap.size) _ rfl rfl _ _ ((hBP7.kept gB (by simp)).row_other ((wr.drew).heap.size) (T.map bv).toArray hne) (by rw [unhide HSU]; exact hi16) (by rw [unhide HSU]; rfl) (all_oneCell_toArray (bv_one _)) ?_
                refine hK9.out _ _ (gb_row (gb_row (tr (tr (tr (tr h0 gP6) gA) gP7) gB) _ (Or.inl hp6)) _ (Or.inl hp7)) (fun _ => ?_)
                clear hK9 K9
                (try simp only [Act.put])
                refine wpAnyH_done (by kernel_rfl) ?_ _
                refine NoPanic.normal ?_
                have hfT := (((((hBP6.kept gA (by simp)).kept gP7 (by simp)).kept gB (by simp))).row (T.map bv)).row_other ((wA).heap.size) (U.map bv).toArray (fun e => hne e.symm)
                have hfU := (((hBP7.kept gB (by simp))).row_other ((wr.drew).heap.size) (T.map bv).toArray hne).row (U.map bv)
                have hfG := gb_row (gb_row (tr (tr (tr (tr h0 gP6) gA) gP7) gB) (T.map bv).toArray (Or.inl hp6)) (U.map bv).toArray (Or.inl hp7)
                have HFT := hide hfT
                have HFU := hide hfU
                have HFG := hide hfG
                clear hfT hfU hfG
                go_wp2
                go_meet
                case rel => exact ⟨_, _, rfl, rfl, hp6, hp7, unhide HFT, unhide HFU, unhide HFG⟩
            · go_simp
              refine hK9.out _ _ (gb_alloc (tr h0 gP6) _) (fun _ => ?_)
              clear hK9 K9
              (try simp only [Act.put, List.setIfInBounds_toArray, List.set_cons_zero, List.set_cons_succ])
              obtain ⟨WP7, hWP7, hBP7, gP7⟩ := alloc_tag2 (WP6) Z (unhide HZ)
              rw [← hWP7]
              have hp7 : wr.heap.size ≤ (WP6).heap.size := ((tr h0 gP6)).size
              clear hWP7
              have hne : (wr.drew).heap.size ≠ (WP6).heap.size := by have := (hBP6).lt; omega
              refine wpAnyH_ready (rs := [2]) (by kernel_rfl) (by simp) ?_
              refine AllReadyH.cons (o := { dst := some 32, op := Op.call { callee := Callee.value (Operand.func 7), args := #[(Operand.tmp 30), (Operand.tmp 31)], argTypes := #[22, 23] }, type := _, pos := _, after := _, guard := _ }) rfl (fun K9 hK9 => ?_) AllReadyH.nil
              go_simp
              go_at_call 7
              refine (cT _ (tr (tr h0 gP6) gP7)).mono ?_
              rintro e wA ⟨rfl, gA⟩
              go_wp2_with fail
              refine hK9.out _ _ (tr (tr (tr h0 gP6) gP7) gA) (fun _ => ?_)
              clear hK9 K9
              (try simp only [Act.put, List.setIfInBounds_toArray, List.set_cons_zero, List.set_cons_succ])
              refine wpAnyH_ready (rs := [5]) (by kernel_rfl) (by simp) ?_
              refine AllReadyH.cons (o := { dst := some 35, op := Op.call { callee := Callee.value (Operand.func 7), args := #[(Operand.tmp 33), (Operand.tmp 34)], argTypes := #[22, 23] }, type := _, pos := _, after := _, guard := _ }) rfl (fun K9 hK9 => ?_) AllReadyH.nil
              go_simp
              go_at_call 7
              refine (cU _ (tr (tr (tr h0 gP6) gP7) gA)).mono ?_
              rintro e wB ⟨rfl, gB⟩
              go_wp2_with fail
              refine hK9.out _ _ (tr (tr (tr (tr h0 gP6) gP7) gA) gB) (fun _ => ?_)
              clear hK9 K9
              (try simp only [Act.put, List.setIfInBounds_toArray, List.set_cons_zero, List.set_cons_succ])
              refine wpAnyH_ready (rs := [8]) (by kernel_rfl) (by simp) ?_
              refine AllReadyH.cons (o := { dst := none, op := Op.store 24 (Operand.tmp 9) (Operand.tmp 32), type := _, pos := _, after := _, guard := _ }) rfl (fun K9 hK9 => ?_) AllReadyH.nil
              rw [if_pos (by rfl)]
              refine wp_store_row _ _ _ rfl ((wr.drew).heap.size) _ rfl rfl _ _ (((hBP6.kept gP7 (by simp)).kept gA (by simp)).kept gB (by simp)) (by rw [unhide HST]; exact hi16) (by rw [unhide HST]; rfl) (all_oneCell_toArray (bv_one _)) ?_
              refine hK9.out _ _ (gb_row (tr (tr (tr (tr h0 gP6) gP7) gA) gB) _ (Or.inl hp6)) (fun _ => ?_)
              clear hK9 K9
              (try simp only [Act.put])
              refine wpAnyH_ready (rs := [9]) (by kernel_rfl) (by simp) ?_
              refine AllReadyH.cons (o := { dst := none, op := Op.store 24 (Operand.tmp 10) (Operand.tmp 35), type := _, pos := _, after := _, guard := _ }) rfl (fun K9 hK9 => ?_) AllReadyH.nil
              rw [if_pos (by rfl)]
              refine wp_store_row _ _ _ rfl ((WP6).heap.size) _ rfl rfl _ _ (((hBP7.kept gA (by simp)).kept gB (by simp)).row_other ((wr.drew).heap.size) (T.map bv).toArray hne) (by rw [unhide HSU]; exact hi16) (by rw [unhide HSU]; rfl) (all_oneCell_toArray (bv_one _)) ?_
              refine hK9.out _ _ (gb_row (gb_row (tr (tr (tr (tr h0 gP6) gP7) gA) gB) _ (Or.inl hp6)) _ (Or.inl hp7)) (fun _ => ?_)
              clear hK9 K9
              (try simp only [Act.put])
              refine wpAnyH_done (by kernel_rfl) ?_ _
              refine NoPanic.normal ?_
              have hfT := (((((hBP6.kept gP7 (by simp)).kept gA (by simp)).kept gB (by simp))).row (T.map bv)).row_other ((WP6).heap.size) (U.map bv).toArray (fun e => hne e.symm)
              have hfU := ((((hBP7.kept gA (by simp)).kept gB (by simp))).row_other ((wr.drew).heap.size) (T.map bv).toArray hne).row (U.map bv)
              have hfG := gb_row (gb_row (tr (tr (tr (tr h0 gP6) gP7) gA) gB) (T.map bv).toArray (Or.inl hp6)) (U.map bv).toArray (Or.inl hp7)
              have HFT := hide hfT
              have HFU := hide hfU
              have HFG := hide hfG
              clear hfT hfU hfG
              go_wp2
              go_meet
              case rel => exact ⟨_, _, rfl, rfl, hp6, hp7, unhide HFT, unhide HFU, unhide HFG⟩
          · go_simp
            refine hK9.out _ _ (gb_alloc h0 _) (fun _ => ?_)
            clear hK9 K9
            (try simp only [Act.put, List.setIfInBounds_toArray, List.set_cons_zero, List.set_cons_succ])
            obtain ⟨WP7, hWP7, hBP7, gP7⟩ := alloc_tag2 (wr.drew) Z (unhide HZ)
            rw [show (wr.alloc (.cells Z 24)).drew = WP7 by rw [hWP7]; rfl]
            have hp7 : wr.heap.size ≤ (wr.drew).heap.size := (h0).size
            clear hWP7
            refine wpAnyH_ready (rs := [2, 6]) (by kernel_rfl) (by simp) ?_
            refine AllReadyH.cons (o := { dst := some 32, op := Op.call { callee := Callee.value (Operand.func 7), args := #[(Operand.tmp 30), (Operand.tmp 31)], argTypes := #[22, 23] }, type := _, pos := _, after := _, guard := _ }) rfl (fun K9 hK9 => ?_) (AllReadyH.cons (o := { dst := some 9, op := Op.alloc 24, type := _, pos := _, after := _, guard := _ }) rfl (fun K9 hK9 => ?_) AllReadyH.nil)
            · go_simp
              go_at_call 7
              refine (cT _ (tr h0 gP7)).mono ?_
              rintro e wA ⟨rfl, gA⟩
              go_wp2_with fail
              refine hK9.out _ _ (tr (tr h0 gP7) gA) (fun _ => ?_)
              clear hK9 K9
              (try simp only [Act.put, List.setIfInBounds_toArray, List.set_cons_zero, List.set_cons_succ])
              refine wpAnyH_ready (rs := [5, 6]) (by kernel_rfl) (by simp) ?_
              refine AllReadyH.cons (o := { dst := some 35, op := Op.call { callee := Callee.value (Operand.func 7), args := #[(Operand.tmp 33), (Operand.tmp 34)], argTypes := #[22, 23] }, type := _, pos := _, after := _, guard := _ }) rfl (fun K9 hK9 => ?_) (AllReadyH.cons (o := { dst := some 9, op := Op.alloc 24, type := _, pos := _, after := _, guard := _ }) rfl (fun K9 hK9 => ?_) AllReadyH.nil)
              · go_simp
                go_at_call 7
                refine (cU _ (tr (tr h0 gP7) gA)).mono ?_
                rintro e wB ⟨rfl, gB⟩
                go_wp2_with fail
                refine hK9.out _ _ (tr (tr (tr h0 gP7) gA) gB) (fun _ => ?_)
                clear hK9 K9
                (try simp only [Act.put, List.setIfInBounds_toArray, List.set_cons_zero, List.set_cons_succ])
                refine wpAnyH_ready (rs := [6]) (by kernel_rfl) (by simp) ?_
                refine AllReadyH.cons (o := { dst := some 9, op := Op.alloc 24, type := _, pos := _, after := _, guard := _ }) rfl (fun K9 hK9 => ?_) AllReadyH.nil
                go_simp
                refine hK9.out _ _ (gb_alloc (tr (tr (tr h0 gP7) gA) gB) _) (fun _ => ?_)
                clear hK9 K9
                (try simp only [Act.put, List.setIfInBounds_toArray, List.set_cons_zero, List.set_cons_succ])
                obtain ⟨WP6, hWP6, hBP6, gP6⟩ := alloc_tag2 (wB) Z (unhide HZ)
                rw [← hWP6]
                have hp6 : wr.heap.size ≤ (wB).heap.size := ((tr (tr (tr h0 gP7) gA) gB)).size
                clear hWP6
                have hne : (wB).heap.size ≠ (wr.drew).heap.size := by have := (((hBP7.kept gA (by simp)).kept gB (by simp))).lt; omega
                refine wpAnyH_ready (rs := [8]) (by kernel_rfl) (by simp) ?_
                refine AllReadyH.cons (o := { dst := none, op := Op.store 24 (Operand.tmp 9) (Operand.tmp 32), type := _, pos := _, after := _, guard := _ }) rfl (fun K9 hK9 => ?_) AllReadyH.nil
                rw [if_pos (by rfl)]
                refine wp_store_row _ _ _ rfl ((wB).heap.size) _ rfl rfl _ _ hBP6 (by rw [unhide HST]; exact hi16) (by rw [unhide HST]; rfl) (all_oneCell_toArray (bv_one _)) ?_
                refine hK9.out _ _ (gb_row (tr (tr (tr (tr h0 gP7) gA) gB) gP6) _ (Or.inl hp6)) (fun _ => ?_)
                clear hK9 K9
                (try simp only [Act.put])
                refine wpAnyH_ready (rs := [9]) (by kernel_rfl) (by simp) ?_
                refine AllReadyH.cons (o := { dst := none, op := Op.store 24 (Operand.tmp 10) (Operand.tmp 35), type := _, pos := _, after := _, guard := _ }) rfl (fun K9 hK9 => ?_) AllReadyH.nil
                rw [if_pos (by rfl)]
                refine wp_store_row _ _ _ rfl ((wr.drew).heap.size) _ rfl rfl _ _ ((((hBP7.kept gA (by simp)).kept gB (by simp)).kept gP6 (by simp)).row_other ((wB).heap.size) (T.map bv).toArray hne) (by rw [unhide HSU]; exact hi16) (by rw [unhide HSU]; rfl) (all_oneCell_toArray (bv_one _)) ?_
                refine hK9.out _ _ (gb_row (gb_row (tr (tr (tr (tr h0 gP7) gA) gB) gP6) _ (Or.inl hp6)) _ (Or.inl hp7)) (fun _ => ?_)
                clear hK9 K9
                (try simp only [Act.put])
                refine wpAnyH_done (by kernel_rfl) ?_ _
                refine NoPanic.normal ?_
                have hfT := ((hBP6).row (T.map bv)).row_other ((wr.drew).heap.size) (U.map bv).toArray (fun e => hne e.symm)
                have hfU := (((((hBP7.kept gA (by simp)).kept gB (by simp)).kept gP6 (by simp))).row_other ((wB).heap.size) (T.map bv).toArray hne).row (U.map bv)
                have hfG := gb_row (gb_row (tr (tr (tr (tr h0 gP7) gA) gB) gP6) (T.map bv).toArray (Or.inl hp6)) (U.map bv).toArray (Or.inl hp7)
                have HFT := hide hfT
                have HFU := hide hfU
                have HFG := hide hfG
                clear hfT hfU hfG
                go_wp2
                go_meet
                case rel => exact ⟨_, _, rfl, rfl, hp6, hp7, unhide HFT, unhide HFU, unhide HFG⟩
              · go_simp
                refine hK9.out _ _ (gb_alloc (tr (tr h0 gP7) gA) _) (fun _ => ?_)
                clear hK9 K9
                (try simp only [Act.put, List.setIfInBounds_toArray, List.set_cons_zero, List.set_cons_succ])
                obtain ⟨WP6, hWP6, hBP6, gP6⟩ := alloc_tag2 (wA) Z (unhide HZ)
                rw [← hWP6]
                have hp6 : wr.heap.size ≤ (wA).heap.size := ((tr (tr h0 gP7) gA)).size
                clear hWP6
                have hne : (wA).heap.size ≠ (wr.drew).heap.size := by have := ((hBP7.kept gA (by simp))).lt; omega
                refine wpAnyH_ready (rs := [5]) (by kernel_rfl) (by simp) ?_
                refine AllReadyH.cons (o := { dst := some 35, op := Op.call { callee := Callee.value (Operand.func 7), args := #[(Operand.tmp 33), (Operand.tmp 34)], argTypes := #[22, 23] }, type := _, pos := _, after := _, guard := _ }) rfl (fun K9 hK9 => ?_) AllReadyH.nil
                go_simp
                go_at_call 7
                refine (cU _ (tr (tr (tr h0 gP7) gA) gP6)).mono ?_
                rintro e wB ⟨rfl, gB⟩
                go_wp2_with fail
                refine hK9.out _ _ (tr (tr (tr (tr h0 gP7) gA) gP6) gB) (fun _ => ?_)
                clear hK9 K9
                (try simp only [Act.put, List.setIfInBounds_toArray, List.set_cons_zero, List.set_cons_succ])
                refine wpAnyH_ready (rs := [8]) (by kernel_rfl) (by simp) ?_
                refine AllReadyH.cons (o := { dst := none, op := Op.store 24 (Operand.tmp 9) (Operand.tmp 32), type := _, pos := _, after := _, guard := _ }) rfl (fun K9 hK9 => ?_) AllReadyH.nil
                rw [if_pos (by rfl)]
                refine wp_store_row _ _ _ rfl ((wA).heap.size) _ rfl rfl _ _ (hBP6.kept gB (by simp)) (by rw [unhide HST]; exact hi16) (by rw [unhide HST]; rfl) (all_oneCell_toArray (bv_one _)) ?_
                refine hK9.out _ _ (gb_row (tr (tr (tr (tr h0 gP7) gA) gP6) gB) _ (Or.inl hp6)) (fun _ => ?_)
                clear hK9 K9
                (try simp only [Act.put])
                refine wpAnyH_ready (rs := [9]) (by kernel_rfl) (by simp) ?_
                refine AllReadyH.cons (o := { dst := none, op := Op.store 24 (Operand.tmp 10) (Operand.tmp 35), type := _, pos := _, after := _, guard := _ }) rfl (fun K9 hK9 => ?_) AllReadyH.nil
                rw [if_pos (by rfl)]
                refine wp_store_row _ _ _ rfl ((wr.drew).heap.size) _ rfl rfl _ _ ((((hBP7.kept gA (by simp)).kept gP6 (by simp)).kept gB (by simp)).row_other ((wA).heap.size) (T.map bv).toArray hne) (by rw [unhide HSU]; exact hi16) (by rw [unhide HSU]; rfl) (all_oneCell_toArray (bv_one _)) ?_
                refine hK9.out _ _ (gb_row (gb_row (tr (tr (tr (tr h0 gP7) gA) gP6) gB) _ (Or.inl hp6)) _ (Or.inl hp7)) (fun _ => ?_)
                clear hK9 K9
                (try simp only [Act.put])
                refine wpAnyH_done (by kernel_rfl) ?_ _
                refine NoPanic.normal ?_
                have hfT := (((hBP6.kept gB (by simp))).row (T.map bv)).row_other ((wr.drew).heap.size) (U.map bv).toArray (fun e => hne e.symm)
                have hfU := (((((hBP7.kept gA (by simp)).kept gP6 (by simp)).kept gB (by simp))).row_other ((wA).heap.size) (T.map bv).toArray hne).row (U.map bv)
                have hfG := gb_row (gb_row (tr (tr (tr (tr h0 gP7) gA) gP6) gB) (T.map bv).toArray (Or.inl hp6)) (U.map bv).toArray (Or.inl hp7)
                have HFT := hide hfT
                have HFU := hide hfU
                have HFG := hide hfG
                clear hfT hfU hfG
                go_wp2
                go_meet
                case rel => exact ⟨_, _, rfl, rfl, hp6, hp7, unhide HFT, unhide HFU, unhide HFG⟩
            · go_simp
              refine hK9.out _ _ (gb_alloc (tr h0 gP7) _) (fun _ => ?_)
              clear hK9 K9
              (try simp only [Act.put, List.setIfInBounds_toArray, List.set_cons_zero, List.set_cons_succ])
              obtain ⟨WP6, hWP6, hBP6, gP6⟩ := alloc_tag2 (WP7) Z (unhide HZ)
              rw [← hWP6]
              have hp6 : wr.heap.size ≤ (WP7).heap.size := ((tr h0 gP7)).size
              clear hWP6
              have hne : (WP7).heap.size ≠ (wr.drew).heap.size := by have := (hBP7).lt; omega
              refine wpAnyH_ready (rs := [2]) (by kernel_rfl) (by simp) ?_
              refine AllReadyH.cons (o := { dst := some 32, op := Op.call { callee := Callee.value (Operand.func 7), args := #[(Operand.tmp 30), (Operand.tmp 31)], argTypes := #[22, 23] }, type := _, pos := _, after := _, guard := _ }) rfl (fun K9 hK9 => ?_) AllReadyH.nil
              go_simp
              go_at_call 7
              refine (cT _ (tr (tr h0 gP7) gP6)).mono ?_
              rintro e wA ⟨rfl, gA⟩
              go_wp2_with fail
              refine hK9.out _ _ (tr (tr (tr h0 gP7) gP6) gA) (fun _ => ?_)
              clear hK9 K9
              (try simp only [Act.put, List.setIfInBounds_toArray, List.set_cons_zero, List.set_cons_succ])
              refine wpAnyH_ready (rs := [5]) (by kernel_rfl) (by simp) ?_
              refine AllReadyH.cons (o := { dst := some 35, op := Op.call { callee := Callee.value (Operand.func 7), args := #[(Operand.tmp 33), (Operand.tmp 34)], argTypes := #[22, 23] }, type := _, pos := _, after := _, guard := _ }) rfl (fun K9 hK9 => ?_) AllReadyH.nil
              go_simp
              go_at_call 7
              refine (cU _ (tr (tr (tr h0 gP7) gP6) gA)).mono ?_
              rintro e wB ⟨rfl, gB⟩
              go_wp2_with fail
              refine hK9.out _ _ (tr (tr (tr (tr h0 gP7) gP6) gA) gB) (fun _ => ?_)
              clear hK9 K9
              (try simp only [Act.put, List.setIfInBounds_toArray, List.set_cons_zero, List.set_cons_succ])
              refine wpAnyH_ready (rs := [8]) (by kernel_rfl) (by simp) ?_
              refine AllReadyH.cons (o := { dst := none, op := Op.store 24 (Operand.tmp 9) (Operand.tmp 32), type := _, pos := _, after := _, guard := _ }) rfl (fun K9 hK9 => ?_) AllReadyH.nil
              rw [if_pos (by rfl)]
              refine wp_store_row _ _ _ rfl ((WP7).heap.size) _ rfl rfl _ _ ((hBP6.kept gA (by simp)).kept gB (by simp)) (by rw [unhide HST]; exact hi16) (by rw [unhide HST]; rfl) (all_oneCell_toArray (bv_one _)) ?_
              refine hK9.out _ _ (gb_row (tr (tr (tr (tr h0 gP7) gP6) gA) gB) _ (Or.inl hp6)) (fun _ => ?_)
              clear hK9 K9
              (try simp only [Act.put])
              refine wpAnyH_ready (rs := [9]) (by kernel_rfl) (by simp) ?_
              refine AllReadyH.cons (o := { dst := none, op := Op.store 24 (Operand.tmp 10) (Operand.tmp 35), type := _, pos := _, after := _, guard := _ }) rfl (fun K9 hK9 => ?_) AllReadyH.nil
              rw [if_pos (by rfl)]
              refine wp_store_row _ _ _ rfl ((wr.drew).heap.size) _ rfl rfl _ _ ((((hBP7.kept gP6 (by simp)).kept gA (by simp)).kept gB (by simp)).row_other ((WP7).heap.size) (T.map bv).toArray hne) (by rw [unhide HSU]; exact hi16) (by rw [unhide HSU]; rfl) (all_oneCell_toArray (bv_one _)) ?_
              refine hK9.out _ _ (gb_row (gb_row (tr (tr (tr (tr h0 gP7) gP6) gA) gB) _ (Or.inl hp6)) _ (Or.inl hp7)) (fun _ => ?_)
              clear hK9 K9
              (try simp only [Act.put])
              refine wpAnyH_done (by kernel_rfl) ?_ _
              refine NoPanic.normal ?_
              have hfT := ((((hBP6.kept gA (by simp)).kept gB (by simp))).row (T.map bv)).row_other ((wr.drew).heap.size) (U.map bv).toArray (fun e => hne e.symm)
              have hfU := (((((hBP7.kept gP6 (by simp)).kept gA (by simp)).kept gB (by simp))).row_other ((WP7).heap.size) (T.map bv).toArray hne).row (U.map bv)
              have hfG := gb_row (gb_row (tr (tr (tr (tr h0 gP7) gP6) gA) gB) (T.map bv).toArray (Or.inl hp6)) (U.map bv).toArray (Or.inl hp7)
              have HFT := hide hfT
              have HFU := hide hfU
              have HFG := hide hfG
              clear hfT hfU hfG
              go_wp2
              go_meet
              case rel => exact ⟨_, _, rfl, rfl, hp6, hp7, unhide HFT, unhide HFU, unhide HFG⟩
        case rest =>
          obtain ⟨p, p2, rfl, rfl, hp, hp2, hX, hY2, gc⟩ := hcut
          have hO5 := (unhide HO).kept gc (by simp)
          have hK5 := (unhide HK4).kept gc (by simp)
          have hg5 := tr hg gc
          obtain ⟨D, hD⟩ : ∃ D : Nat → Nat, D = fun j => at8 T j + at8 s j := ⟨_, rfl⟩
          obtain ⟨E, hE⟩ : ∃ E : Nat → Nat, E = fun j => at8 U j + at8 (k.drop 16) j := ⟨_, rfl⟩
          have hDb : ∀ i, D i ≤ 2 * 255 := fun i => by rw [hD]; have := at8_lt T i; have := at8_lt s i; show at8 T i + at8 s i ≤ _; omega
          have hEb : ∀ i, E i ≤ 2 * 255 := fun i => by rw [hE]; have := at8_lt U i; have := at8_lt (k.drop 16) i; show at8 U i + at8 (k.drop 16) i ≤ _; omega
          have hsh : ∀ r, r < 16 → (pre D r / 256 ^ r + D r) % 256 = (pre E r / 256 ^ r + E r) % 256 := fun r hr => by
            rw [hD, hE, unhide HT, unhide HU, unhide HOE]; exact shift_digit k s l0 (unhide HK) (unhide HS) r hr
          have HX := hide hX
          have HY := hide hY2
          have HO5 := hide hO5
          have HK5 := hide hK5
          have HD := hide hD
          have HE := hide hE
          have HDB := hide hDb
          have HEB := hide hEb
          have HSH := hide hsh
          clear hX hY2 hO5 hK5 hD hE hDb hEb hsh hrK hrO hiK hiO cT cU h0 hg gc hp hp2 HO HK4 HS4
          go_wp2
          go_loopw [11, 12, 13] (fun cv dv i wr => ∃ r : Nat, r ≤ 16 ∧ i = .int .i64 (r : Int) ∧ cv = .int .i64 (pre D r / 256 ^ r : Nat) ∧ dv = .int .i64 (pre E r / 256 ^ r : Nat) ∧ Blk wr p 24 (T.map bv) ∧ Blk wr p2 24 (U.map bv) ∧ Blk wr (w.heap.size + 2) 22 (O.map bv) ∧ Blk wr w.heap.size 22 (k.map bv) ∧ w.grownBy wr none) (fun _ _ i _ => 16 - (intOf i).toNat)
          case atStart => exact ⟨0, Nat.zero_le _, rfl, by simp [pre], by simp [pre], unhide HX, unhide HY, unhide HO5, unhide HK5, hg5⟩
          case round =>
            clear HX HY HO5 HK5 hg5
            obtain ⟨r, hr, rfl, rfl, rfl, hX, hY, hO, hK, hg⟩ := hrel
            by_cases hlt : r < 16
            · have q0 : (0 : Int) ≤ (r : Int) := by omega
              have q1 : (r : Int) < 16 := by omega
              obtain ⟨q, hq⟩ : ∃ q, q = 16 + r := ⟨_, rfl⟩
              have q2 : (16 : Int) + (r : Int) = (q : Int) := by omega
              have q3 : (q : Int) < 32 := by omega
              have q4 : (0 : Int) ≤ (q : Int) := by omega
              have q5 : IntKind.i64.wrap (q : Int) = (q : Int) := by rw [IntKind.wrap_i64]; omega
              have hsh := unhide HSH r hlt
              have b1 := pre_small D 2 (unhide HDB) r
              have b2 := carry_out D r
              have b3 := pre_small E 2 (unhide HEB) r
              have b4 := carry_out E r
              obtain ⟨cr, hcr⟩ : ∃ c, c = pre D r / 256 ^ r := ⟨_, rfl⟩
              obtain ⟨dr, hdr⟩ : ∃ c, c = pre E r / 256 ^ r := ⟨_, rfl⟩
              rw [← hcr] at b1 b2 hsh ⊢
              rw [← hdr] at b3 b4 hsh ⊢
              obtain ⟨xt, hxt⟩ : ∃ x, x = at8 T r := ⟨_, rfl⟩
              obtain ⟨xo, hxo⟩ : ∃ x, x = at8 s r := ⟨_, rfl⟩
              obtain ⟨xu, hxu⟩ : ∃ x, x = at8 U r := ⟨_, rfl⟩
              obtain ⟨xk, hxk⟩ : ∃ x, x = at8 (k.drop 16) r := ⟨_, rfl⟩
              have a1 : xt < 256 := by rw [hxt]; exact at8_lt _ _
              have a2 : xo < 256 := by rw [hxo]; exact at8_lt _ _
              have a3 : xu < 256 := by rw [hxu]; exact at8_lt _ _
              have a4 : xk < 256 := by rw [hxk]; exact at8_lt _ _
              have hDr : D r = xt + xo := by rw [unhide HD, hxt, hxo]
              have hEr : E r = xu + xk := by rw [unhide HE, hxu, hxk]
              rw [hDr] at b2 hsh
              rw [hEr] at b4 hsh
              obtain ⟨c1, hc1⟩ : ∃ c, c = cr + xt := ⟨_, rfl⟩
              obtain ⟨c2, hc2⟩ : ∃ c, c = c1 + xo := ⟨_, rfl⟩
              obtain ⟨d1, hd1⟩ : ∃ c, c = dr + xu := ⟨_, rfl⟩
              obtain ⟨d2, hd2⟩ : ∃ c, c = d1 + xk := ⟨_, rfl⟩
              rw [show cr + (xt + xo) = c2 by omega] at b2 hsh
              rw [show dr + (xu + xk) = d2 by omega] at b4 hsh
              have f1 : (cr : Int) + (xt : Int) = (c1 : Int) := by omega
              have f2 : (c1 : Int) + (xo : Int) = (c2 : Int) := by omega
              have f3 : (dr : Int) + (xu : Int) = (d1 : Int) := by omega
              have f4 : (d1 : Int) + (xk : Int) = (d2 : Int) := by omega
              have g1 : IntKind.i64.wrap (c1 : Int) = (c1 : Int) := by rw [IntKind.wrap_i64]; omega
              have g2 : IntKind.i64.wrap (c2 : Int) = (c2 : Int) := by rw [IntKind.wrap_i64]; omega
              have g3 : IntKind.i64.wrap (d1 : Int) = (d1 : Int) := by rw [IntKind.wrap_i64]; omega
              have g4 : IntKind.i64.wrap (d2 : Int) = (d2 : Int) := by rw [IntKind.wrap_i64]; omega
              have g5 : IntKind.i64.wrap (xt : Int) = (xt : Int) := by rw [IntKind.wrap_i64]; omega
              have g6 : IntKind.i64.wrap (xo : Int) = (xo : Int) := by rw [IntKind.wrap_i64]; omega
              have g7 : IntKind.i64.wrap (xu : Int) = (xu : Int) := by rw [IntKind.wrap_i64]; omega
              have g8 : IntKind.i64.wrap (xk : Int) = (xk : Int) := by rw [IntKind.wrap_i64]; omega
              obtain ⟨m, hm⟩ : ∃ m, m = c2 % 256 := ⟨_, rfl⟩
              have n1 : bits .and .i64 (c2 : Int) 255 = (m : Int) := by rw [and255 c2 (by omega), hm]
              have n2 : bits .and .i64 (d2 : Int) 255 = (m : Int) := by rw [and255 d2 (by omega), hm, hsh]
              obtain ⟨c3, hc3⟩ : ∃ c, c = c2 / 256 := ⟨_, rfl⟩
              obtain ⟨d3, hd3⟩ : ∃ c, c = d2 / 256 := ⟨_, rfl⟩
              have n3 : (c2 : Int) / 256 = (c3 : Int) := by omega
              have n4 : (d2 : Int) / 256 = (d3 : Int) := by omega
              have n5 : IntKind.i64.wrap (c3 : Int) = (c3 : Int) := by rw [IntKind.wrap_i64]; omega
              have n6 : IntKind.i64.wrap (d3 : Int) = (d3 : Int) := by rw [IntKind.wrap_i64]; omega
              have n7 : IntKind.i64.wrap (m : Int) = (m : Int) := by rw [IntKind.wrap_i64]; omega
              have hS0 : wr.drew.cell? ⟨p, r, none⟩ = some (.int .u8 (xt : Int)) ∧ wr.drew.cell? ⟨w.heap.size + 2, q, none⟩ = some (.int .u8 (xo : Int)) := by
                rw [hxt, hxo, ← at8_back k s (unhide HK) r, ← unhide HOE, hq]
                exact ⟨byte_at hX.drew r (by rw [unhide HTL]; exact hlt), byte_at hO.drew (16 + r) (by rw [unhide HOL]; omega)⟩
              have hS1 : wr.drew.drew.cell? ⟨p2, r, none⟩ = some (.int .u8 (xu : Int)) ∧ wr.drew.drew.cell? ⟨w.heap.size, q, none⟩ = some (.int .u8 (xk : Int)) := by
                rw [hxu, hxk, at8_drop, hq]
                exact ⟨byte_at hY.drew.drew r (by rw [unhide HUL]; exact hlt), byte_at hK.drew.drew (16 + r) (by rw [unhide HK]; omega)⟩
              have HX2 := hide hX
              have HY2 := hide hY
              have HO2 := hide hO
              have HK2 := hide hK
              have HC3 := hide (show c3 = pre D (r + 1) / 256 ^ (r + 1) by rw [hc3, b2])
              have HD3 := hide (show d3 = pre E (r + 1) / 256 ^ (r + 1) by rw [hd3, b4])
              clear hX hY hO hK hcr hdr hxt hxo hxu hxk hDr hEr hc1 hc2 hd1 hd2 hc3 hd3 hm b1 b2 b3 b4 a1 a2 a3 a4 hsh hq
              go_wp2
              refine wp_region_noPanic ?_
              refine wp_region_held_drew (S := fun V => V.cell? ⟨p, r, none⟩ = some (.int .u8 (xt : Int)) ∧ V.cell? ⟨w.heap.size + 2, q, none⟩ = some (.int .u8 (xo : Int))) (by kernel_rfl) hS0 (fun _ => ?_)
              refine wpAnyH_take (i := 0) (oi := { dst := some 40, op := Op.move (Operand.tmp 11), type := _, pos := _, after := _, guard := _ }) (v := .int .i64 (cr : Int)) rfl (by kernel_rfl) (by kernel_rfl) (by kernel_rfl) (fun _ _ _ h => h) (Or.inl ⟨by rfl, fun V (hV : V.cell? ⟨p, r, none⟩ = some (.int .u8 (xt : Int)) ∧ V.cell? ⟨w.heap.size + 2, q, none⟩ = some (.int .u8 (xo : Int))) => by go_simp⟩) hS0 ?_
              (try simp only [Act.put, List.setIfInBounds_toArray, List.set_cons_zero, List.set_cons_succ])
              refine wpAnyH_take (i := 1) (oi := { dst := some 41, op := Op.move (Operand.tmp 13), type := _, pos := _, after := _, guard := _ }) (v := .int .i64 (r : Int)) rfl (by kernel_rfl) (by kernel_rfl) (by kernel_rfl) (fun _ _ _ h => h) (Or.inl ⟨by rfl, fun V (hV : V.cell? ⟨p, r, none⟩ = some (.int .u8 (xt : Int)) ∧ V.cell? ⟨w.heap.size + 2, q, none⟩ = some (.int .u8 (xo : Int))) => by go_simp⟩) hS0 ?_
              (try simp only [Act.put, List.setIfInBounds_toArray, List.set_cons_zero, List.set_cons_succ])
              refine wpAnyH_take (i := 2) (oi := { dst := some 42, op := Op.indexAddr 24 (Operand.tmp 9) (Operand.tmp 41), type := _, pos := _, after := _, guard := _ }) (v := .pointer (some ⟨p, r, none⟩)) rfl (by kernel_rfl) (by kernel_rfl) (by kernel_rfl) (fun _ _ _ h => h) (Or.inl ⟨by rfl, fun V (hV : V.cell? ⟨p, r, none⟩ = some (.int .u8 (xt : Int)) ∧ V.cell? ⟨w.heap.size + 2, q, none⟩ = some (.int .u8 (xo : Int))) => by go_simp⟩) hS0 ?_
              (try simp only [Act.put, List.setIfInBounds_toArray, List.set_cons_zero, List.set_cons_succ])
              refine wpAnyH_take (i := 3) (oi := { dst := some 43, op := Op.load 5 (Operand.tmp 42), type := _, pos := _, after := _, guard := _ }) (v := .int .u8 (xt : Int)) rfl (by kernel_rfl) (by kernel_rfl) (by kernel_rfl) (fun _ _ _ h => h) (Or.inl ⟨by rfl, fun V (hV : V.cell? ⟨p, r, none⟩ = some (.int .u8 (xt : Int)) ∧ V.cell? ⟨w.heap.size + 2, q, none⟩ = some (.int .u8 (xo : Int))) => by (obtain ⟨hv1, hv2⟩ := hV; go_simp)⟩) hS0 ?_
              (try simp only [Act.put, List.setIfInBounds_toArray, List.set_cons_zero, List.set_cons_succ])
              refine wpAnyH_take (i := 4) (oi := { dst := some 44, op := Op.convert 5 3 (Operand.tmp 43), type := _, pos := _, after := _, guard := _ }) (v := .int .i64 (xt : Int)) rfl (by kernel_rfl) (by kernel_rfl) (by kernel_rfl) (fun _ _ _ h => h) (Or.inl ⟨by rfl, fun V (hV : V.cell? ⟨p, r, none⟩ = some (.int .u8 (xt : Int)) ∧ V.cell? ⟨w.heap.size + 2, q, none⟩ = some (.int .u8 (xo : Int))) => by go_simp⟩) hS0 ?_
              (try simp only [Act.put, List.setIfInBounds_toArray, List.set_cons_zero, List.set_cons_succ])
              refine wpAnyH_take (i := 5) (oi := { dst := some 45, op := Op.binOp BinOp.add 3 (Operand.tmp 40) (Operand.tmp 44) 3, type := _, pos := _, after := _, guard := _ }) (v := .int .i64 (c1 : Int)) rfl (by kernel_rfl) (by kernel_rfl) (by kernel_rfl) (fun _ _ _ h => h) (Or.inl ⟨by rfl, fun V (hV : V.cell? ⟨p, r, none⟩ = some (.int .u8 (xt : Int)) ∧ V.cell? ⟨w.heap.size + 2, q, none⟩ = some (.int .u8 (xo : Int))) => by go_simp⟩) hS0 ?_
              (try simp only [Act.put, List.setIfInBounds_toArray, List.set_cons_zero, List.set_cons_succ])
              refine wpAnyH_take (i := 6) (oi := { dst := some 46, op := Op.move (Operand.tmp 13), type := _, pos := _, after := _, guard := _ }) (v := .int .i64 (r : Int)) rfl (by kernel_rfl) (by kernel_rfl) (by kernel_rfl) (fun _ _ _ h => h) (Or.inl ⟨by rfl, fun V (hV : V.cell? ⟨p, r, none⟩ = some (.int .u8 (xt : Int)) ∧ V.cell? ⟨w.heap.size + 2, q, none⟩ = some (.int .u8 (xo : Int))) => by go_simp⟩) hS0 ?_
              (try simp only [Act.put, List.setIfInBounds_toArray, List.set_cons_zero, List.set_cons_succ])
              refine wpAnyH_take (i := 7) (oi := { dst := some 47, op := Op.binOp BinOp.add 3 (Operand.const (Value.int IntKind.i64 16)) (Operand.tmp 46) 3, type := _, pos := _, after := _, guard := _ }) (v := .int .i64 (q : Int)) rfl (by kernel_rfl) (by kernel_rfl) (by kernel_rfl) (fun _ _ _ h => h) (Or.inl ⟨by rfl, fun V (hV : V.cell? ⟨p, r, none⟩ = some (.int .u8 (xt : Int)) ∧ V.cell? ⟨w.heap.size + 2, q, none⟩ = some (.int .u8 (xo : Int))) => by go_simp⟩) hS0 ?_
              (try simp only [Act.put, List.setIfInBounds_toArray, List.set_cons_zero, List.set_cons_succ])
              refine wpAnyH_take (i := 8) (oi := { dst := some 48, op := Op.indexAddr 22 (Operand.tmp 7) (Operand.tmp 47), type := _, pos := _, after := _, guard := _ }) (v := .pointer (some ⟨w.heap.size + 2, q, none⟩)) rfl (by kernel_rfl) (by kernel_rfl) (by kernel_rfl) (fun _ _ _ h => h) (Or.inl ⟨by rfl, fun V (hV : V.cell? ⟨p, r, none⟩ = some (.int .u8 (xt : Int)) ∧ V.cell? ⟨w.heap.size + 2, q, none⟩ = some (.int .u8 (xo : Int))) => by go_simp⟩) hS0 ?_
              (try simp only [Act.put, List.setIfInBounds_toArray, List.set_cons_zero, List.set_cons_succ])
              refine wpAnyH_take (i := 9) (oi := { dst := some 49, op := Op.load 5 (Operand.tmp 48), type := _, pos := _, after := _, guard := _ }) (v := .int .u8 (xo : Int)) rfl (by kernel_rfl) (by kernel_rfl) (by kernel_rfl) (fun _ _ _ h => h) (Or.inl ⟨by rfl, fun V (hV : V.cell? ⟨p, r, none⟩ = some (.int .u8 (xt : Int)) ∧ V.cell? ⟨w.heap.size + 2, q, none⟩ = some (.int .u8 (xo : Int))) => by (obtain ⟨hv1, hv2⟩ := hV; go_simp)⟩) hS0 ?_
              (try simp only [Act.put, List.setIfInBounds_toArray, List.set_cons_zero, List.set_cons_succ])
              refine wpAnyH_take (i := 10) (oi := { dst := some 50, op := Op.convert 5 3 (Operand.tmp 49), type := _, pos := _, after := _, guard := _ }) (v := .int .i64 (xo : Int)) rfl (by kernel_rfl) (by kernel_rfl) (by kernel_rfl) (fun _ _ _ h => h) (Or.inl ⟨by rfl, fun V (hV : V.cell? ⟨p, r, none⟩ = some (.int .u8 (xt : Int)) ∧ V.cell? ⟨w.heap.size + 2, q, none⟩ = some (.int .u8 (xo : Int))) => by go_simp⟩) hS0 ?_
              (try simp only [Act.put, List.setIfInBounds_toArray, List.set_cons_zero, List.set_cons_succ])
              refine wpAnyH_take (i := 11) (oi := { dst := some 51, op := Op.binOp BinOp.add 3 (Operand.tmp 45) (Operand.tmp 50) 3, type := _, pos := _, after := _, guard := _ }) (v := .int .i64 (c2 : Int)) rfl (by kernel_rfl) (by kernel_rfl) (by kernel_rfl) (fun _ _ _ h => h) (Or.inl ⟨by rfl, fun V (hV : V.cell? ⟨p, r, none⟩ = some (.int .u8 (xt : Int)) ∧ V.cell? ⟨w.heap.size + 2, q, none⟩ = some (.int .u8 (xo : Int))) => by go_simp⟩) hS0 ?_
              (try simp only [Act.put, List.setIfInBounds_toArray, List.set_cons_zero, List.set_cons_succ])
              refine wpAnyH_take (i := 12) (oi := { dst := some 11, op := Op.assign (Operand.tmp 51), type := _, pos := _, after := _, guard := _ }) (v := .int .i64 (c2 : Int)) rfl (by kernel_rfl) (by kernel_rfl) (by kernel_rfl) (fun _ _ _ h => h) (Or.inl ⟨by rfl, fun V (hV : V.cell? ⟨p, r, none⟩ = some (.int .u8 (xt : Int)) ∧ V.cell? ⟨w.heap.size + 2, q, none⟩ = some (.int .u8 (xo : Int))) => by go_simp⟩) hS0 ?_
              (try simp only [Act.put, List.setIfInBounds_toArray, List.set_cons_zero, List.set_cons_succ])
              refine wpAnyH_done (by kernel_rfl) ?_ _
              refine NoPanic.normal ?_
              go_wp2
              refine wp_region_noPanic ?_
              refine wp_region_held_drew (S := fun V => V.cell? ⟨p2, r, none⟩ = some (.int .u8 (xu : Int)) ∧ V.cell? ⟨w.heap.size, q, none⟩ = some (.int .u8 (xk : Int))) (by kernel_rfl) hS1 (fun _ => ?_)
              refine wpAnyH_take (i := 0) (oi := { dst := some 52, op := Op.move (Operand.tmp 12), type := _, pos := _, after := _, guard := _ }) (v := .int .i64 (dr : Int)) rfl (by kernel_rfl) (by kernel_rfl) (by kernel_rfl) (fun _ _ _ h => h) (Or.inl ⟨by rfl, fun V (hV : V.cell? ⟨p2, r, none⟩ = some (.int .u8 (xu : Int)) ∧ V.cell? ⟨w.heap.size, q, none⟩ = some (.int .u8 (xk : Int))) => by go_simp⟩) hS1 ?_
              (try simp only [Act.put, List.setIfInBounds_toArray, List.set_cons_zero, List.set_cons_succ])
              refine wpAnyH_take (i := 1) (oi := { dst := some 53, op := Op.move (Operand.tmp 13), type := _, pos := _, after := _, guard := _ }) (v := .int .i64 (r : Int)) rfl (by kernel_rfl) (by kernel_rfl) (by kernel_rfl) (fun _ _ _ h => h) (Or.inl ⟨by rfl, fun V (hV : V.cell? ⟨p2, r, none⟩ = some (.int .u8 (xu : Int)) ∧ V.cell? ⟨w.heap.size, q, none⟩ = some (.int .u8 (xk : Int))) => by go_simp⟩) hS1 ?_
              (try simp only [Act.put, List.setIfInBounds_toArray, List.set_cons_zero, List.set_cons_succ])
              refine wpAnyH_take (i := 2) (oi := { dst := some 54, op := Op.indexAddr 24 (Operand.tmp 10) (Operand.tmp 53), type := _, pos := _, after := _, guard := _ }) (v := .pointer (some ⟨p2, r, none⟩)) rfl (by kernel_rfl) (by kernel_rfl) (by kernel_rfl) (fun _ _ _ h => h) (Or.inl ⟨by rfl, fun V (hV : V.cell? ⟨p2, r, none⟩ = some (.int .u8 (xu : Int)) ∧ V.cell? ⟨w.heap.size, q, none⟩ = some (.int .u8 (xk : Int))) => by go_simp⟩) hS1 ?_
              (try simp only [Act.put, List.setIfInBounds_toArray, List.set_cons_zero, List.set_cons_succ])
              refine wpAnyH_take (i := 3) (oi := { dst := some 55, op := Op.load 5 (Operand.tmp 54), type := _, pos := _, after := _, guard := _ }) (v := .int .u8 (xu : Int)) rfl (by kernel_rfl) (by kernel_rfl) (by kernel_rfl) (fun _ _ _ h => h) (Or.inl ⟨by rfl, fun V (hV : V.cell? ⟨p2, r, none⟩ = some (.int .u8 (xu : Int)) ∧ V.cell? ⟨w.heap.size, q, none⟩ = some (.int .u8 (xk : Int))) => by (obtain ⟨hv1, hv2⟩ := hV; go_simp)⟩) hS1 ?_
              (try simp only [Act.put, List.setIfInBounds_toArray, List.set_cons_zero, List.set_cons_succ])
              refine wpAnyH_take (i := 4) (oi := { dst := some 56, op := Op.convert 5 3 (Operand.tmp 55), type := _, pos := _, after := _, guard := _ }) (v := .int .i64 (xu : Int)) rfl (by kernel_rfl) (by kernel_rfl) (by kernel_rfl) (fun _ _ _ h => h) (Or.inl ⟨by rfl, fun V (hV : V.cell? ⟨p2, r, none⟩ = some (.int .u8 (xu : Int)) ∧ V.cell? ⟨w.heap.size, q, none⟩ = some (.int .u8 (xk : Int))) => by go_simp⟩) hS1 ?_
              (try simp only [Act.put, List.setIfInBounds_toArray, List.set_cons_zero, List.set_cons_succ])
              refine wpAnyH_take (i := 5) (oi := { dst := some 57, op := Op.binOp BinOp.add 3 (Operand.tmp 52) (Operand.tmp 56) 3, type := _, pos := _, after := _, guard := _ }) (v := .int .i64 (d1 : Int)) rfl (by kernel_rfl) (by kernel_rfl) (by kernel_rfl) (fun _ _ _ h => h) (Or.inl ⟨by rfl, fun V (hV : V.cell? ⟨p2, r, none⟩ = some (.int .u8 (xu : Int)) ∧ V.cell? ⟨w.heap.size, q, none⟩ = some (.int .u8 (xk : Int))) => by go_simp⟩) hS1 ?_
              (try simp only [Act.put, List.setIfInBounds_toArray, List.set_cons_zero, List.set_cons_succ])
              refine wpAnyH_take (i := 6) (oi := { dst := some 58, op := Op.move (Operand.tmp 13), type := _, pos := _, after := _, guard := _ }) (v := .int .i64 (r : Int)) rfl (by kernel_rfl) (by kernel_rfl) (by kernel_rfl) (fun _ _ _ h => h) (Or.inl ⟨by rfl, fun V (hV : V.cell? ⟨p2, r, none⟩ = some (.int .u8 (xu : Int)) ∧ V.cell? ⟨w.heap.size, q, none⟩ = some (.int .u8 (xk : Int))) => by go_simp⟩) hS1 ?_
              (try simp only [Act.put, List.setIfInBounds_toArray, List.set_cons_zero, List.set_cons_succ])
              refine wpAnyH_take (i := 7) (oi := { dst := some 59, op := Op.binOp BinOp.add 3 (Operand.const (Value.int IntKind.i64 16)) (Operand.tmp 58) 3, type := _, pos := _, after := _, guard := _ }) (v := .int .i64 (q : Int)) rfl (by kernel_rfl) (by kernel_rfl) (by kernel_rfl) (fun _ _ _ h => h) (Or.inl ⟨by rfl, fun V (hV : V.cell? ⟨p2, r, none⟩ = some (.int .u8 (xu : Int)) ∧ V.cell? ⟨w.heap.size, q, none⟩ = some (.int .u8 (xk : Int))) => by go_simp⟩) hS1 ?_
              (try simp only [Act.put, List.setIfInBounds_toArray, List.set_cons_zero, List.set_cons_succ])
              refine wpAnyH_take (i := 8) (oi := { dst := some 60, op := Op.indexAddr 22 (Operand.tmp 3) (Operand.tmp 59), type := _, pos := _, after := _, guard := _ }) (v := .pointer (some ⟨w.heap.size, q, none⟩)) rfl (by kernel_rfl) (by kernel_rfl) (by kernel_rfl) (fun _ _ _ h => h) (Or.inl ⟨by rfl, fun V (hV : V.cell? ⟨p2, r, none⟩ = some (.int .u8 (xu : Int)) ∧ V.cell? ⟨w.heap.size, q, none⟩ = some (.int .u8 (xk : Int))) => by go_simp⟩) hS1 ?_
              (try simp only [Act.put, List.setIfInBounds_toArray, List.set_cons_zero, List.set_cons_succ])
              refine wpAnyH_take (i := 9) (oi := { dst := some 61, op := Op.load 5 (Operand.tmp 60), type := _, pos := _, after := _, guard := _ }) (v := .int .u8 (xk : Int)) rfl (by kernel_rfl) (by kernel_rfl) (by kernel_rfl) (fun _ _ _ h => h) (Or.inl ⟨by rfl, fun V (hV : V.cell? ⟨p2, r, none⟩ = some (.int .u8 (xu : Int)) ∧ V.cell? ⟨w.heap.size, q, none⟩ = some (.int .u8 (xk : Int))) => by (obtain ⟨hv1, hv2⟩ := hV; go_simp)⟩) hS1 ?_
              (try simp only [Act.put, List.setIfInBounds_toArray, List.set_cons_zero, List.set_cons_succ])
              refine wpAnyH_take (i := 10) (oi := { dst := some 62, op := Op.convert 5 3 (Operand.tmp 61), type := _, pos := _, after := _, guard := _ }) (v := .int .i64 (xk : Int)) rfl (by kernel_rfl) (by kernel_rfl) (by kernel_rfl) (fun _ _ _ h => h) (Or.inl ⟨by rfl, fun V (hV : V.cell? ⟨p2, r, none⟩ = some (.int .u8 (xu : Int)) ∧ V.cell? ⟨w.heap.size, q, none⟩ = some (.int .u8 (xk : Int))) => by go_simp⟩) hS1 ?_
              (try simp only [Act.put, List.setIfInBounds_toArray, List.set_cons_zero, List.set_cons_succ])
              refine wpAnyH_take (i := 11) (oi := { dst := some 63, op := Op.binOp BinOp.add 3 (Operand.tmp 57) (Operand.tmp 62) 3, type := _, pos := _, after := _, guard := _ }) (v := .int .i64 (d2 : Int)) rfl (by kernel_rfl) (by kernel_rfl) (by kernel_rfl) (fun _ _ _ h => h) (Or.inl ⟨by rfl, fun V (hV : V.cell? ⟨p2, r, none⟩ = some (.int .u8 (xu : Int)) ∧ V.cell? ⟨w.heap.size, q, none⟩ = some (.int .u8 (xk : Int))) => by go_simp⟩) hS1 ?_
              (try simp only [Act.put, List.setIfInBounds_toArray, List.set_cons_zero, List.set_cons_succ])
              refine wpAnyH_take (i := 12) (oi := { dst := some 12, op := Op.assign (Operand.tmp 63), type := _, pos := _, after := _, guard := _ }) (v := .int .i64 (d2 : Int)) rfl (by kernel_rfl) (by kernel_rfl) (by kernel_rfl) (fun _ _ _ h => h) (Or.inl ⟨by rfl, fun V (hV : V.cell? ⟨p2, r, none⟩ = some (.int .u8 (xu : Int)) ∧ V.cell? ⟨w.heap.size, q, none⟩ = some (.int .u8 (xk : Int))) => by go_simp⟩) hS1 ?_
              (try simp only [Act.put, List.setIfInBounds_toArray, List.set_cons_zero, List.set_cons_succ])
              refine wpAnyH_done (by kernel_rfl) ?_ _
              refine NoPanic.normal ?_
              go_wp2
              go_roundw
              case rel => exact ⟨r + 1, by omega, by go_num, by rw [unhide HC3], by rw [unhide HD3], (unhide HX2).drew.drew, (unhide HY2).drew.drew, (unhide HO2).drew.drew, (unhide HK2).drew.drew, gb_drew (gb_drew hg)⟩
              case measure => simp [intOf]; omega
            · obtain rfl : r = 16 := by omega
              rw [show ((16 : Nat) : Int) = 16 from rfl]
              generalize pre D 16 / 256 ^ 16 = cz
              generalize pre E 16 / 256 ^ 16 = dz
              have c1 : Calls Try.prog 11 #[] wr fun e w' => e = .returned (.bool true) ∧ wr.grownBy w' none := pone_any wr
              clear hX hY hO hK hr hlt
              go_wp2_with (go_at_call 11; refine c1.mono ?_; rintro e w9 ⟨rfl, g9⟩)
              go_ret
              exact ⟨rfl, tr hg g9⟩
end Go.Proofs.Ytagdileacidnjaa
