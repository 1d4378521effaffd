/- What the document's answer for layer 2 reckons of a text (package coffretref02, Sum): THE SUM. Of a text of fewer than 2 to the 40 bytes. -/
import Derived.Test.YtjckdgapefaokaaDoorRBlock
import Derived.Test.YtjckdgapefaokaaDoorSSum
import Derived.Lib.Strings
import Derived.Deep.MidRow
namespace Go.Proofs.YtjckdgapefaokaaDoor
open Go.RowKit

theorem str_sub (l : List UInt8) (a b : Nat) : (str l).extract a b = str ((l.drop a).take (b - a)) := by
  apply ByteArray.ext
  apply Array.toList_inj.1
  rw [Lib.extract_data]
  rfl

theorem bytesOf_get (ws : List W) (a b : Nat) (ha : a < ws.length) (hb : b < 4) (h : 4 * a + b < (bytesOf ws).length) : (bytesOf ws)[4 * a + b] = UInt8.ofNat (ws[a].toNat / 2 ^ (8 * (3 - b))) := by
  have h1 := bytesOf_step ws a ha
  have hl : ((bytesOf ws).take (4 * a)).length = 4 * a := by rw [List.length_take, bytesOf_length]; omega
  have h2 : (bytesOf ws)[4 * a + b] = ((bytesOf ws).take (4 * (a + 1)))[4 * a + b]'(by rw [List.length_take, bytesOf_length]; omega) := by simp
  rw [h2]
  simp only [h1]
  rw [List.getElem_append_right (by omega)]
  simp only [hl, Nat.add_sub_cancel_left]
  rw [be8_get]

theorem bfill_step (xs : List UInt8) (n k : Nat) (x : UInt8) (hk : k < xs.length) (hx : x = xs[k]) (hn : k < n) : ((xs.take k ++ List.replicate (n - k) 0).map bv).set k (bv x) = (xs.take (k + 1) ++ List.replicate (n - (k + 1)) 0).map bv := by
  subst hx
  rw [← List.map_set, List.take_succ_eq_append_getElem hk, show n - k = (n - (k + 1)) + 1 by omega, List.replicate_succ, List.append_assoc]
  rw [List.set_append_right _ _ (by simp; omega)]
  congr 2
  have : k - (xs.take k).length = 0 := by simp; omega
  rw [this]
  rfl

theorem zero32' (w : World) : (zeroValue 36).run Tryd.prog w = .ok (.agg ((List.replicate 32 (0 : UInt8)).map bv).toArray) w := by kernel_rfl

set_option maxRecDepth 100000 in
set_option maxHeartbeats 2000000 in
theorem rsum_any (w : World) (l : List UInt8) (hl : l.length < 1099511627776) :
    Calls Tryd.prog 59 #[.string (str l)] w fun e w' => e = .returned (.agg ((shaL l).map bv).toArray) ∧ w.grownBy w' none := by
  have hi8 : (Tryd.prog.info? 96).map (·.size) = some 8 := by kernel_rfl
  have hi32 : (Tryd.prog.info? 36).map (·.size) = some 32 := by kernel_rfl
  obtain ⟨Y, hY⟩ : ∃ Y : Array Value, Y = ((List.replicate 32 (0 : UInt8)).map bv).toArray := ⟨_, rfl⟩
  have hyv := zero32'
  rw [← hY] at hyv
  obtain ⟨W1, hW1⟩ : ∃ W1, W1 = (w.alloc (.cells Y 36)).alloc (.cells #[.int .u32 0, .int .u32 0, .int .u32 0, .int .u32 0, .int .u32 0, .int .u32 0, .int .u32 0, .int .u32 0] 96) := ⟨_, rfl⟩
  have hO1 : Blk W1 w.heap.size 36 ((List.replicate 32 (0 : UInt8)).map bv) := by rw [hW1, hY]; exact (Blk.new w _ _).alloc _
  have hB1 : Blk W1 (w.heap.size + 1) 96 ((List.replicate 8 (0 : W)).map wv) := by
    have := Blk.new (w.alloc (.cells Y 36)) 96 ((List.replicate 8 (0 : W)).map wv)
    rw [World.size_alloc] at this
    rw [hW1]; exact this
  have hg1 : w.grownBy W1 none := by rw [hW1]; exact gb_alloc (gb_alloc (gb_refl _ _) _) _
  have hcon : (#[.int .u32 1779033703, .int .u32 3144134277, .int .u32 1013904242, .int .u32 2773480762, .int .u32 1359893119, .int .u32 2600822924, .int .u32 528734635, .int .u32 1541459225] : Array Value) = (Hs.map wv).toArray := by kernel_rfl
  obtain ⟨W2, hW2⟩ : ∃ W2, W2 = W1.setRow (w.heap.size + 1) #[.int .u32 1779033703, .int .u32 3144134277, .int .u32 1013904242, .int .u32 2773480762, .int .u32 1359893119, .int .u32 2600822924, .int .u32 528734635, .int .u32 1541459225] := ⟨_, rfl⟩
  have hB2 : Blk W2 (w.heap.size + 1) 96 (Hs.map wv) := by rw [hW2, hcon]; exact hB1.row _
  have gR : W1.grownBy W2 (some (w.heap.size + 1)) := by rw [hW2]; exact gb_row (gb_refl _ _) _ (Or.inr rfl)
  have hg2 : w.grownBy W2 none := by rw [hW2]; exact gb_row hg1 _ (Or.inl (by omega))
  have hO2 := hO1.kept gR (by simp)
  have hpd := padded_any W2 l hl
  obtain ⟨p, hp⟩ : ∃ p, p = padL l := ⟨_, rfl⟩
  rw [← hp] at hpd
  obtain ⟨m, hm⟩ : ∃ m, m = p.length / 64 := ⟨_, rfl⟩
  have hpl : p.length = 64 * m := by have := padL_mod l; rw [← hp] at this; omega
  have hpb : m < 17179869186 := by
    have h1 := padL_length l
    have h2 : zerosN l.length < 64 := by unfold zerosN; omega
    rw [← hp] at h1
    omega
  have hsz : (str p).size = 64 * m := by rw [str_size, hpl]
  have HW1 := hide hW1
  have HW2 := hide hW2
  have HY := hide hY
  have HB1 := hide hB1
  have HB2 := hide hB2
  have HO2 := hide hO2
  have HP := hide hp
  have HM := hide hm
  have HPL := hide hpl
  clear hW1 hW2 hY hB1 hB2 hO1 hO2 hp hm hpl hcon gR hg1 hl
  go_enter Tryd.func59, Tryd.ntmps59
  go_wp2_with (first
    | (rw [← unhide HW1]; refine wpList_store_row rfl 96 _ _ rfl (w.heap.size + 1) _ rfl rfl _ _ (unhide HB1) (by kernel_rfl) (by kernel_rfl) (by kernel_rfl) ?_; rw [← unhide HW2])
    | (go_at_call 81; refine hpd.mono ?_; rintro e w3 ⟨rfl, g3⟩))
  have hB3 := (unhide HB2).kept g3 (by simp)
  have hO3 := (unhide HO2).kept g3 (by simp)
  have G3 : w.grownBy w3 none := gb_trans hg2 g3 (fun _ e => by cases e)
  clear hpd g3 hg2
  go_loopw [4] (fun i wr => ∃ q : Nat, q ≤ m ∧ i = .int .i64 ((64 * q : Nat) : Int) ∧ Blk wr (w.heap.size + 1) 96 ((hashW q p).map wv) ∧ Blk wr w.heap.size 36 ((List.replicate 32 (0 : UInt8)).map bv) ∧ w.grownBy wr none) (fun i _ => 64 * m - (intOf i).toNat)
  case atStart => exact ⟨0, Nat.zero_le _, rfl, hB3, hO3, G3⟩
  case round =>
    clear hB3 hO3 G3
    obtain ⟨q, hq, rfl, hB, hO, hg⟩ := hrel
    obtain ⟨a, ha⟩ : ∃ a, a = 64 * q := ⟨_, rfl⟩
    rw [← ha]
    by_cases hlt : q < m
    · have hab : (a : Int) < 64 * (m : Int) := by omega
      have ha0 : (0 : Int) ≤ (a : Int) := by omega
      have hwa : IntKind.i64.wrap ((a : Int) + 64) = (a : Int) + 64 := by rw [IntKind.wrap_i64]; omega
      have ha64 : (a : Int) + 64 ≤ 64 * (m : Int) := by omega
      have ha65 : (a : Int) ≤ (a : Int) + 64 := by omega
      obtain ⟨x, hx⟩ : ∃ x, x = (p.drop a).take 64 := ⟨_, rfl⟩
      have hxl : x.length = 64 := by rw [hx, List.length_take, List.length_drop, unhide HPL]; omega
      have hst : ∀ W, (Instr.slice 9 (.string (str p)) (some (.int .i64 (a : Int))) (some (.int .i64 ((a : Int) + 64))) none).run Tryd.prog W = .ok (.string (str x)) W := by
        intro W
        have e1 : ((a : Int) + 64).toNat = a + 64 := by omega
        rw [run_slice_string_if _ _ _ _ _ _ _ Tryd.underlying9]
        rw [if_pos (by rw [hsz]; omega), if_pos ⟨ha0, ha65⟩, e1, Int.toNat_natCast, str_sub, hx, show a + 64 - a = 64 by omega]
      have hbk := fun V => rblock_any V (hashW q p) (hashW_length q p) x hxl
      have hcomp : comp (hashW q p) x = hashW (q + 1) p := by rw [hx, ha]; rfl
      obtain ⟨hs, hhs⟩ : ∃ hs, hs = hashW q p := ⟨_, rfl⟩
      obtain ⟨ht, hht⟩ : ∃ ht, ht = hashW (q + 1) p := ⟨_, rfl⟩
      rw [hcomp, ← hhs, ← hht] at hbk
      rw [← hhs] at hB
      have hsl : hs.length = 8 := by rw [hhs]; exact hashW_length _ _
      have htl : ht.length = 8 := by rw [hht]; exact hashW_length _ _
      have hrng : wr.rangeAt (w.heap.size + 1) 0 (hs.map wv) := by
        have : Blk wr (w.heap.size + 1) 96 ([] ++ (hs.map wv ++ [])) := by simpa using hB
        exact this.range
      have HHS := hide hhs
      have HHT := hide hht
      have HA := hide ha
      have HX := hide hx
      have HB := hide hB
      have HO := hide hO
      clear hhs hht ha hx hcomp hxl hB hO
      go_wp2
      refine wp_region_held_drew (S := fun _ => True) (by kernel_rfl) trivial (fun _ => ?_)
      refine wpAnyH_take (i := 1) (oi := { dst := some 17, op := Op.move (Operand.tmp 0), type := _, pos := _, after := _, guard := none }) (v := .string (str p)) rfl (by kernel_rfl) (by kernel_rfl) (by kernel_rfl) (fun _ _ _ h => h) (Or.inl ⟨by rfl, fun _ _ => by go_simp⟩) trivial ?_
      (try simp only [Act.put, List.setIfInBounds_toArray, List.set_cons_zero, List.set_cons_succ])
      refine wpAnyH_take (i := 2) (oi := { dst := some 18, op := Op.move (Operand.tmp 4), type := _, pos := _, after := _, guard := none }) (v := .int .i64 (a : Int)) rfl (by kernel_rfl) (by kernel_rfl) (by kernel_rfl) (fun _ _ _ h => h) (Or.inl ⟨by rfl, fun _ _ => by go_simp⟩) trivial ?_
      (try simp only [Act.put, List.setIfInBounds_toArray, List.set_cons_zero, List.set_cons_succ])
      refine wpAnyH_take (i := 3) (oi := { dst := some 19, op := Op.move (Operand.tmp 4), type := _, pos := _, after := _, guard := none }) (v := .int .i64 (a : Int)) rfl (by kernel_rfl) (by kernel_rfl) (by kernel_rfl) (fun _ _ _ h => h) (Or.inl ⟨by rfl, fun _ _ => by go_simp⟩) trivial ?_
      (try simp only [Act.put, List.setIfInBounds_toArray, List.set_cons_zero, List.set_cons_succ])
      refine wpAnyH_take (i := 4) (oi := { dst := some 20, op := Op.binOp BinOp.add 3 (Operand.tmp 19) (Operand.const (Value.int IntKind.i64 64)) 3, type := _, pos := _, after := _, guard := none }) (v := .int .i64 ((a : Int) + 64)) rfl (by kernel_rfl) (by kernel_rfl) (by kernel_rfl) (fun _ _ _ h => h) (Or.inl ⟨by rfl, fun _ _ => by go_simp⟩) trivial ?_
      (try simp only [Act.put, List.setIfInBounds_toArray, List.set_cons_zero, List.set_cons_succ])
      refine wpAnyH_take (i := 5) (oi := { dst := some 21, op := Op.slice 9 (Operand.tmp 17) (some (Operand.tmp 18)) (some (Operand.tmp 20)) none, type := _, pos := _, after := _, guard := none }) (v := .string (str x)) rfl (by kernel_rfl) (by kernel_rfl) (by kernel_rfl) (fun _ _ _ h => h) (Or.inl ⟨by rfl, fun _ _ => by go_simp⟩) trivial ?_
      (try simp only [Act.put, List.setIfInBounds_toArray, List.set_cons_zero, List.set_cons_succ])
      refine wpAnyH_ready (rs := [0]) (by kernel_rfl) (by simp) ?_
      refine AllReadyH.cons (o := { dst := some 16, op := Op.load 96 (Operand.tmp 3), type := _, pos := _, after := _, guard := none }) rfl (fun K9 hK9 => ?_) AllReadyH.nil
      rw [if_pos (by rfl)]
      refine wp_load_mid _ _ rfl _ _ rfl (hs.map wv) _ (by rw [World.rangeAt_drew]; exact hrng) Tryd.underlying96 rfl (by rw [List.length_map, hsl]; exact hi8) ?_
      (try simp only [Act.put, List.setIfInBounds_toArray, List.set_cons_zero, List.set_cons_succ])
      refine hK9.out _ _ trivial (fun _ => ?_)
      clear hK9 K9
      (try simp only [Act.put, List.setIfInBounds_toArray, List.set_cons_zero, List.set_cons_succ])
      refine wpAnyH_ready (rs := [6]) (by kernel_rfl) (by simp) ?_
      refine AllReadyH.cons (o := { dst := some 22, op := Op.call { callee := Callee.value (Operand.func 82), args := #[Operand.tmp 16, Operand.tmp 21], argTypes := #[96, 9] }, type := _, pos := _, after := _, guard := none }) rfl (fun K9 hK9 => ?_) AllReadyH.nil
      go_simp
      go_at_call 82
      refine (hbk _).mono ?_
      rintro e w5 ⟨rfl, g5⟩
      go_wp2_with fail
      refine hK9.out _ _ trivial (fun _ => ?_)
      clear hK9 K9
      (try simp only [Act.put, List.setIfInBounds_toArray, List.set_cons_zero, List.set_cons_succ])
      have hB5 := (unhide HB).drew.kept g5 (by simp)
      have hO5 := (unhide HO).drew.kept g5 (by simp)
      have G5 : w.grownBy w5 none := gb_trans (gb_drew hg) g5 (fun _ e => by cases e)
      refine wpAnyH_ready (rs := [7]) (by kernel_rfl) (by simp) ?_
      refine AllReadyH.cons (o := { dst := none, op := Op.store 96 (Operand.tmp 3) (Operand.tmp 22), type := _, pos := _, after := _, guard := none }) rfl (fun K9 hK9 => ?_) AllReadyH.nil
      rw [if_pos (by rfl)]
      refine wp_store_mid _ _ _ rfl _ _ ((ht.map wv).toArray) rfl rfl (hB5.there 0 _ (by simp [hsl, htl])) (by rw [List.size_toArray, List.length_map, htl]; exact hi8) (all_oneCell_toArray (wv_one _)) ?_
      (try simp only [Act.put])
      refine hK9.out _ _ trivial (fun _ => ?_)
      clear hK9 K9
      (try simp only [Act.put, List.setIfInBounds_toArray, List.set_cons_zero, List.set_cons_succ])
      refine wpAnyH_done (by kernel_rfl) ?_ _
      go_wp2
      go_roundw
      case rel =>
        have h6 : Blk (w5.setCells (w.heap.size + 1) 0 (ht.map wv)) (w.heap.size + 1) 96 (ht.map wv) := by
          have h7 : Blk w5 (w.heap.size + 1) 96 (([] : List Value) ++ (hs.map wv ++ [])) := by simpa using hB5
          have := Blk.setCells (ht.map wv) (hs.map wv) h7 (by simp [hsl, htl])
          simpa using this
        refine ⟨q + 1, by omega, ?_, ?_, Blk.setCells_other (by omega) _ _ hO5, gb_setCells (Or.inl (by omega)) _ _ G5⟩
        · rw [show (64 * (q + 1) : Nat) = a + 64 by have := unhide HA; omega]; simp
        · rw [← unhide HHT]; exact h6
      case measure => have := unhide HA; simp [intOf]; omega
    · obtain rfl : q = m := by omega
      have hab : ¬ (a : Int) < 64 * (q : Int) := by omega
      obtain ⟨hw, hhw⟩ : ∃ hw, hw = hashW q p := ⟨_, rfl⟩
      rw [← hhw] at hB
      have hwl : hw.length = 8 := by rw [hhw]; exact hashW_length _ _
      have hfin : bytesOf hw = shaL l := by
        rw [shaL, shaW, hhw, unhide HM, unhide HP]
      have hbl : (bytesOf hw).length = 32 := by rw [bytesOf_length, hwl]
      obtain ⟨bo, hbo⟩ : ∃ bo, bo = wr.heap.size := ⟨_, rfl⟩
      have hA6 : Blk (wr.alloc (.cells Y 36)) bo 36 ((List.replicate 32 (0 : UInt8)).map bv) := by rw [hbo, unhide HY]; exact Blk.new wr _ _
      have hlo : w.heap.size + 1 < bo := by rw [hbo]; exact hB.lt
      have HFIN := hide hfin
      have HBL := hide hbl
      have HWL := hide hwl
      have HA6 := hide hA6
      have HB := hide hB
      have HO := hide hO
      have HG := hide hg
      clear hhw hfin hbl hwl hA6 hB hO hg ha
      go_wp2
      rw [← hbo]
      have HBO := hide hbo
      clear hbo
      go_loopw [6] (fun i V => ∃ j : Nat, j ≤ 32 ∧ i = .int .i64 j ∧ Blk V bo 36 (((bytesOf hw).take j ++ List.replicate (32 - j) 0).map bv) ∧ Blk V (w.heap.size + 1) 96 (hw.map wv) ∧ Blk V w.heap.size 36 ((List.replicate 32 (0 : UInt8)).map bv) ∧ w.grownBy V none) (fun i _ => 32 - (intOf i).toNat)
      case atStart => exact ⟨0, Nat.zero_le _, rfl, unhide HA6, (unhide HB).alloc _, (unhide HO).alloc _, gb_alloc (unhide HG) _⟩
      case round =>
        clear HA6 HB HO HG HBO
        obtain ⟨j, hj, rfl, hA, hB, hO, hg⟩ := hrel
        by_cases hlt : j < 32
        · obtain ⟨c, hc⟩ : ∃ c, c = j / 4 := ⟨_, rfl⟩
          obtain ⟨d, hd⟩ : ∃ d, d = j % 4 := ⟨_, rfl⟩
          obtain ⟨e, he⟩ : ∃ e, e = 24 - 8 * d := ⟨_, rfl⟩
          have hq0 : (0 : Int) ≤ (j : Int) := by omega
          have hq1 : (j : Int) < 32 := by omega
          have hc0 : (0 : Int) ≤ (c : Int) := by omega
          have hc8 : (c : Int) < 8 := by omega
          have k1 : (j : Int) / 4 = (c : Int) := by omega
          have k2 : (j : Int).tdiv 4 = (c : Int) := by rw [Int.tdiv_eq_ediv_of_nonneg hq0]; exact k1
          have k3 : (j : Int) % 4 = (d : Int) := by omega
          have k4 : (j : Int).tmod 4 = (d : Int) := by rw [Int.tmod_eq_emod_of_nonneg hq0]; exact k3
          have k5 : (24 : Int) - 8 * (d : Int) = (e : Int) := by omega
          have k6 : IntKind.i64.wrap (c : Int) = (c : Int) := by rw [IntKind.wrap_i64]; omega
          have k7 : IntKind.i64.wrap (d : Int) = (d : Int) := by rw [IntKind.wrap_i64]; omega
          have k8 : IntKind.i64.wrap (8 * (d : Int)) = 8 * (d : Int) := by rw [IntKind.wrap_i64]; omega
          have k9 : IntKind.i64.wrap (e : Int) = (e : Int) := by rw [IntKind.wrap_i64]; omega
          have k10 : IntKind.u64.wrap (e : Int) = (e : Int) := by rw [IntKind.wrap_u64]; omega
          have hcw : c < hw.length := by rw [unhide HWL]; omega
          obtain ⟨x, hx⟩ : ∃ x, x = hw.getD c 0 := ⟨_, rfl⟩
          have hcx : wr.cell? ⟨w.heap.size + 1, c, none⟩ = some (.int .u32 (wz x)) := by
            have := get_wv (ws := hw) (k := c) hcw []
            rw [List.append_nil] at this
            rw [hB.cell, this, hx]
          obtain ⟨y, hy⟩ : ∃ y : Nat, y = x.toNat / 2 ^ e := ⟨_, rfl⟩
          have hy2 : wz x / 2 ^ e = (y : Int) := by rw [hy, wz]; exact (Int.natCast_ediv _ _).symm ▸ (by simp)
          have hcs : (wr.cell? ⟨bo, j, none⟩).isSome = true ∧ wr.frozen? ⟨bo, j, none⟩ = false := by
            have := hA.there j 1 (by simp [unhide HBL]; omega) 0 (by omega)
            simpa using this
          obtain ⟨hcs, hcf⟩ := hcs
          obtain ⟨ov, hcs⟩ := Option.isSome_iff_exists.1 hcs
          have hval : UInt8.ofNat y = (bytesOf hw)[j]'(by rw [unhide HBL]; exact hlt) := by
            have h1 := bytesOf_get hw c d hcw (by omega) (by rw [unhide HBL]; omega)
            have h2 : 4 * c + d = j := by omega
            simp only [h2] at h1
            rw [h1, hy, hx, he, show 24 - 8 * d = 8 * (3 - d) by omega]
            simp [List.getD, hcw]
          have HVAL := hide hval
          have HA := hide hA
          have HB := hide hB
          have HO := hide hO
          clear hval hA hB hO hx hy hc hd he
          go_wp2
          go_roundw
          case rel =>
            have hbv : Value.int .u8 ((y : Int) % 256) = bv (UInt8.ofNat y) := by
              unfold bv
              rw [UInt8.toNat_ofNat']
              congr 1
            have hS := (unhide HA).set j (bv (UInt8.ofNat y))
            rw [bfill_step (bytesOf hw) 32 j _ (by rw [unhide HBL]; exact hlt) (unhide HVAL) hlt] at hS
            rw [hbv]
            exact ⟨j + 1, by omega, by go_num, hS, (unhide HB).other _ _ (by simp; omega), (unhide HO).other _ _ (by simp; omega), gb_setCell hg _ _ (Or.inl (by simp; omega))⟩
          case measure => simp [intOf]; omega
        · obtain rfl : j = 32 := by omega
          rw [show 32 - 32 = 0 from rfl, List.replicate_zero, List.append_nil, List.take_of_length_le (by rw [unhide HBL]; exact Nat.le_refl _), unhide HFIN] at hA
          have hs32 : (((shaL l).map bv).toArray).size = 32 := by simp [shaL_length]
          have HSZ := hide hs32
          clear hs32
          go_wp2_with (first | (refine wpList_load_row rfl 36 _ rfl bo rfl _ _ _ _ hA Tryd.underlying36 rfl ?_ ?_; (rw [unhide HSZ]; exact hi32)) | (refine wpList_store_row rfl 36 _ _ rfl w.heap.size _ rfl rfl _ _ hO ?_ ?_ ?_ ?_; (rw [unhide HSZ]; exact hi32); (rw [unhide HSZ]; rfl); (exact all_oneCell_toArray (bv_one _))))
          have hS := hO.row ((shaL l).map bv)
          have hG : w.grownBy (wr.setRow w.heap.size ((shaL l).map bv).toArray) none := gb_row hg _ (Or.inl (Nat.le_refl _))
          refine bodyPost_ret (v := .agg ((shaL l).map bv).toArray) (results_cell_row (g := w.heap.size) rfl _ _ _ _ _ _ ?_ hS Tryd.underlying36 rfl ?_) rfl ⟨rfl, hG⟩
          · rfl
          · rw [unhide HSZ]; exact hi32
end Go.Proofs.YtjckdgapefaokaaDoor
