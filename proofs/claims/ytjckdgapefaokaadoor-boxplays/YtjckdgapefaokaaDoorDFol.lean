/- What follow of draws' Source answers: what is left of one sum behind the texts is put ahead in what it was handed. No condition but those that each lemma names. -/
import Derived.Test.YtjckdgapefaokaaDoorDBeg
import Derived.Test.YtjckdgapefaokaaDoorKEqual
import Derived.Deep.CutBlock
import Derived.Deep.DeepCutAuto
namespace Go.Proofs.YtjckdgapefaokaaDoor
open Go.RowKit

theorem slice_arr_tailu {P : Program} (t e : TypeId) (n : Nat) (ht : P.underlying t = some (.array n e)) (hz : ∀ w, (Go.sizeOf e).run P w = .ok 1 w) (b lo : Nat) (h2 : lo < n) (W : World) :
    (Instr.sliceAt t (.pointer (some ⟨b, 0, none⟩)) (some (.int .u64 (lo : Int))) none none).run P W = .ok (.slice (some ⟨b, lo, none⟩) (n - lo) (n - lo)) W := by
  have ea : P.arrayLen t = n := by simp [Program.arrayLen, ht]
  have ee : P.elem t = e := by simp [Program.elem, ht]
  rw [run_sliceAt_array_l W t ⟨b, 0, none⟩ (by rw [ea, ee]; exact ht) .u64 _ (by omega) (by omega), ea, ee, hz]
  simp only [Result.andThen_ok, slicedAt, Int.toNat_natCast, Nat.mul_one]
  rw [if_neg (by omega), Addr.add_mid, Nat.zero_add]

/-- The cells of a source within fill: what is ahead, how many bytes behind the texts were told, how many in all. -/
def midC (T s : List UInt8) (f n : Nat) : List Value := .string (str s) :: ((shaL T).map bv ++ [.int .u64 (f : Int), .int .i64 (n : Int)])

theorem src_mid (T : List UInt8) (u : Nat) : srcC T u = midC T (T.drop u) (u - T.length) u := rfl

theorem midC_length (T s : List UInt8) (f n : Nat) : (midC T s f n).length = 35 := by simp [midC, shaL_length]

theorem mid_cell33 {w : World} {b : Nat} {T s : List UInt8} {f n : Nat} (h : Blk w b 77 (midC T s f n)) : w.cell? ⟨b, 33, none⟩ = some (.int .u64 (f : Int)) := by
  rw [h.cell]
  simp [midC, shaL_length]
theorem mid_cell34 {w : World} {b : Nat} {T s : List UInt8} {f n : Nat} (h : Blk w b 77 (midC T s f n)) : w.cell? ⟨b, 34, none⟩ = some (.int .i64 (n : Int)) := by
  rw [h.cell]
  simp [midC, shaL_length]
theorem mid_cell0 {w : World} {b : Nat} {T s : List UInt8} {f n : Nat} (h : Blk w b 77 (midC T s f n)) : w.cell? ⟨b, 0, none⟩ = some (.string (str s)) := by
  rw [h.cell]
  simp [midC]
theorem mid_set33 (T s : List UInt8) (f n g : Nat) : (midC T s f n).set 33 (.int .u64 (g : Int)) = midC T s g n := by
  unfold midC
  rw [List.set_cons_succ, List.set_append_right _ _ (by simp [shaL_length])]
  simp [shaL_length]
theorem mid_set34 (T s : List UInt8) (f n g : Nat) : (midC T s f n).set 34 (.int .i64 (g : Int)) = midC T s f g := by
  unfold midC
  rw [List.set_cons_succ, List.set_append_right _ _ (by simp [shaL_length])]
  simp [shaL_length]
theorem mid_set0 (T s r : List UInt8) (f n : Nat) : (midC T s f n).set 0 (.string (str r)) = midC T r f n := rfl

theorem mid_seed {w : World} {b : Nat} {T s : List UInt8} {f n : Nat} (h : Blk w b 77 (midC T s f n)) : Bts w (some ⟨b, 1, none⟩) 32 (shaL T) := by
  refine ⟨(fun e => by cases e), by rw [shaL_length]; exact Nat.le_refl _, by decide, (fun ad e _ => by cases e; rfl), (fun ad e i hi => ?_)⟩
  cases e
  show w.cell? ⟨b, 1 + i, none⟩ = _
  have h' : i < ((shaL T).map bv).length := by rw [List.length_map]; exact hi
  rw [h.cell, midC, Nat.add_comm, List.getElem?_cons_succ, List.getElem?_append_left h', List.getElem?_map, List.getElem?_eq_getElem hi]
  rfl

theorem lst_two {w : World} {N : Nat} {xo yo : Option Addr} {c d : Nat} {x y : List UInt8} (hB : Blk w N 22 [.slice xo x.length c, .slice yo y.length d]) (hx : Bts w xo c x) (hy : Bts w yo d y) : Lst w (some ⟨N, 0, none⟩) 2 [x, y] := by
  refine ⟨(fun e => by cases e), by simp, by decide, (fun ad e _ => by cases e; rfl), (fun ad e i hi => ?_)⟩
  cases e
  show ∃ ao c, w.cell? ⟨N, 0 + i, none⟩ = _ ∧ _
  match i, hi with
  | 0, _ => exact ⟨xo, c, by rw [hB.cell]; rfl, hx⟩
  | 1, _ => exact ⟨yo, d, by rw [hB.cell]; rfl, hy⟩

theorem alloc_row32 (w2 : World) (Z : Array Value) (hZ : Z = ((List.replicate 32 (0 : UInt8)).map bv).toArray) : ∃ W3, W3 = w2.alloc (.cells Z 36) ∧ Blk W3 w2.heap.size 36 ((List.replicate 32 (0 : UInt8)).map bv) ∧ w2.grownBy W3 none := by
  refine ⟨_, rfl, ?_, gb_alloc (gb_refl _ _) _⟩
  subst hZ
  exact Blk.new w2 36 _

theorem zero_32 (w : World) : (zeroValue 36).run Tryd.prog w = .ok (.agg ((List.replicate 32 (0 : UInt8)).map bv).toArray) w := by kernel_rfl

theorem alloc_two (w2 : World) (x y : Value) : ∃ W3, W3 = w2.alloc (.cells #[x, y] 22) ∧ Blk W3 w2.heap.size 22 [x, y] ∧ w2.grownBy W3 none :=
  ⟨_, rfl, Blk.new w2 22 _, gb_alloc (gb_refl _ _) _⟩

set_option maxRecDepth 100000 in
set_option maxHeartbeats 2000000 in
theorem follow_any (u w : World) (b rb : Nat) (tt : TypeId) (T s : List UInt8) (f n : Nat) (xs zs : List UInt8) (c : Nat) (hB : Blk w b 77 (midC T s f n)) (hR : Blk w rb tt ((xs ++ zs).map bv)) (hne : rb ≠ b)
    (hu : u.grownBy w (some b)) (hrb : u.heap.size ≤ rb) (hTa : ∀ a, u.grownBy a (some b) → Tabs a) (hf : f < 4611686018427387904) :
    Calls Tryd.prog 49 #[.pointer (some ⟨b, 0, none⟩), .slice (some ⟨rb, xs.length, none⟩) zs.length c] w fun e w' => ∃ k P, k = min (32 - f % 32) zs.length ∧ P = ((sumAt T (f / 32)).drop (f % 32)).take k ∧ e = .returned (.int .i64 (k : Int)) ∧ Blk w' rb tt ((xs ++ P ++ zs.drop k).map bv) ∧ Blk w' b 77 (midC T s (f + k) n) ∧ u.grownBy w' (some b) := by
  have tr : ∀ {x y z : World}, x.grownBy y none → y.grownBy z none → x.grownBy z none := fun h k => gb_trans h k (fun _ e => by cases e)
  have hi32 : (Tryd.prog.info? 36).map (·.size) = some 32 := by kernel_rfl
  obtain ⟨q, hq⟩ : ∃ q, q = f / 32 := ⟨_, rfl⟩
  obtain ⟨r, hr⟩ : ∃ r, r = f % 32 := ⟨_, rfl⟩
  obtain ⟨k, hk⟩ : ∃ k, k = min (32 - r) zs.length := ⟨_, rfl⟩
  obtain ⟨D, hD⟩ : ∃ D, D = sumAt T q := ⟨_, rfl⟩
  obtain ⟨P, hP⟩ : ∃ P, P = (D.drop r).take k := ⟨_, rfl⟩
  obtain ⟨sd, hsd⟩ : ∃ sd, sd = shaL T := ⟨_, rfl⟩
  obtain ⟨K, hK⟩ : ∃ K, K = lb q 8 := ⟨_, rfl⟩
  obtain ⟨o, ho⟩ : ∃ o, o = xs.length := ⟨_, rfl⟩
  obtain ⟨m, hm⟩ : ∃ m, m = zs.length := ⟨_, rfl⟩
  have hr32 : r < 32 := by omega
  have hDl : D.length = 32 := by rw [hD]; exact sumAt_length _ _
  have hKl : K.length = 8 := by rw [hK]; exact lb_len _ _
  have hsl : sd.length = 32 := by rw [hsd]; exact shaL_length _
  have hPl : P.length = k := by rw [hP, List.length_take, List.length_drop, hDl]; omega
  have hqi : (f : Int) / 32 = (q : Int) := by omega
  have hri : (f : Int) % 32 = (r : Int) := by omega
  have hc33 := mid_cell33 hB
  have hgoal : ∀ (kk : Nat) w', kk = k → Blk w' rb tt ((xs ++ P ++ zs.drop k).map bv) → Blk w' b 77 (midC T s (f + k) n) → u.grownBy w' (some b) → ∃ k P, k = min (32 - f % 32) zs.length ∧ P = ((sumAt T (f / 32)).drop (f % 32)).take k ∧ Ending.returned (.int .i64 (kk : Int)) = .returned (.int .i64 (k : Int)) ∧ Blk w' rb tt ((xs ++ P ++ zs.drop k).map bv) ∧ Blk w' b 77 (midC T s (f + k) n) ∧ u.grownBy w' (some b) := fun kk w' h0 h1 h2 h3 =>
    ⟨k, P, by rw [hk, hr], by rw [hP, hD, hq, hr], by rw [h0], h1, h2, h3⟩
  have cput : ∀ V, Calls Tryd.prog 68 #[.slice none 0 0, .int .u64 (q : Int), .int .i64 8] V fun e w' => ∃ po pc, e = .returned (.slice po 8 pc) ∧ Bts w' po pc K ∧ V.grownBy w' none := fun V =>
    (put_any V none 0 [] q 8 (Bts.nil V) (by simp)).mono fun e w' ⟨v, he, ⟨po, pc, hv, hb, _⟩, hg⟩ => by
      rw [show nb 8 = 8 from by decide, List.nil_append, ← hK] at hb hv
      exact ⟨po, pc, by rw [he, hv, hKl], hb, hg⟩
  have cof : ∀ V N po pc, w.grownBy V none → Blk V N 22 [.slice (some ⟨b, 1, none⟩) 32 32, .slice po 8 pc] → Bts V po pc K → Calls Tryd.prog 26 #[.slice (some ⟨N, 0, none⟩) 2 2] V fun e w' => e = .returned (.agg (D.map bv).toArray) ∧ V.grownBy w' none := fun V N po pc hV hN hKb => by
    have h1 : Lst V (some ⟨N, 0, none⟩) 2 [sd, K] := lst_two (by rw [hsl, hKl]; exact hN) (by rw [hsd]; exact (mid_seed hB).kept hV (fun _ e => by cases e)) hKb
    have h2 := of_any V _ 2 [sd, K] h1 (hTa V (gb_trans hu hV (fun _ e => by cases e))) (by simp [hsl, hKl])
    rw [show [sd, K].flatten = sd ++ K by simp, hsd, hK] at h2
    rw [hD]
    exact h2
  have hsD : ((D.map bv).toArray).size = 32 := by simp [hDl]
  have slS : ∀ W : World, (Instr.sliceAt 36 (.pointer (some ⟨b, 1, none⟩)) none none none).run Tryd.prog W = .ok (.slice (some ⟨b, 1, none⟩) 32 32) W := fun W => slice_whole5 36 5 32 Tryd.underlying36 size_byte b 1 (by omega) W
  have slT : ∀ (p : Nat) (W : World), (Instr.sliceAt 36 (.pointer (some ⟨p, 0, none⟩)) (some (.int .u64 (r : Int))) none none).run Tryd.prog W = .ok (.slice (some ⟨p, r, none⟩) (32 - r) (32 - r)) W := fun p W => slice_arr_tailu 36 5 32 Tryd.underlying36 size_byte p r hr32 W
  have hwq : IntKind.u64.wrap (q : Int) = (q : Int) := by rw [IntKind.wrap_u64]; omega
  have hwr : IntKind.u64.wrap (r : Int) = (r : Int) := by rw [IntKind.wrap_u64]; omega
  obtain ⟨Z, hZ⟩ : ∃ Z : Array Value, Z = ((List.replicate 32 (0 : UInt8)).map bv).toArray := ⟨_, rfl⟩
  have hzv := zero_32
  rw [← hZ] at hzv
  rw [← ho, ← hm]
  have h0 : w.grownBy w.drew none := gb_drew (gb_refl _ _)
  have HSD := hide hsD
  have HDL := hide hDl
  have HPL := hide hPl
  have HP := hide hP
  have HK := hide hk
  have HO := hide ho
  have HM := hide hm
  have HZ := hide hZ
  have HGO := hide hgoal
  have HB := hide hB
  have HR := hide hR
  clear hD hK hq hr hsd hsl hKl hsD hDl hPl hP hk hTa hZ hgoal ho hm hB hR
  go_enter Tryd.func49, Tryd.ntmps49
  go_upto_region 1 with fail
  go_cut [5] (fun x5 wx => ∃ p : Nat, x5 = .pointer (some ⟨p, 0, none⟩) ∧ w.heap.size ≤ p ∧ Blk wx p 36 (D.map bv) ∧ w.grownBy wx none)
  case first =>
    refine wp_region_noPanic ?_
    refine wp_region_held_drew (S := fun V => w.grownBy V none) (by kernel_rfl) h0 (fun _ => ?_)
    refine wpAnyH_take (i := 0) (oi := { dst := some 7, op := Op.move (Operand.tmp 0), type := _, pos := _, after := _, guard := _ }) (v := .pointer (some ⟨b, 0, none⟩)) rfl (by kernel_rfl) (by kernel_rfl) (by kernel_rfl) (fun _ _ _ h => h) (Or.inl ⟨by rfl, fun V (hV : w.grownBy V none) => by go_simp⟩) h0 ?_
    (try simp only [Act.put, List.setIfInBounds_toArray, List.set_cons_zero, List.set_cons_succ])
    refine wpAnyH_take (i := 1) (oi := { dst := some 8, op := Op.nilCheck (Operand.tmp 7), type := _, pos := _, after := _, guard := _ }) (v := .pointer (some ⟨b, 0, none⟩)) rfl (by kernel_rfl) (by kernel_rfl) (by kernel_rfl) (fun _ _ _ h => h) (Or.inl ⟨by rfl, fun V (hV : w.grownBy V none) => by go_simp⟩) h0 ?_
    (try simp only [Act.put, List.setIfInBounds_toArray, List.set_cons_zero, List.set_cons_succ])
    refine wpAnyH_take (i := 2) (oi := { dst := some 9, op := Op.fieldAddr 77 (Operand.tmp 8) 1, type := _, pos := _, after := _, guard := _ }) (v := .pointer (some ⟨b, 1, none⟩)) rfl (by kernel_rfl) (by kernel_rfl) (by kernel_rfl) (fun _ _ _ h => h) (Or.inl ⟨by rfl, fun V (hV : w.grownBy V none) => by go_simp⟩) h0 ?_
    (try simp only [Act.put, List.setIfInBounds_toArray, List.set_cons_zero, List.set_cons_succ])
    refine wpAnyH_take (i := 3) (oi := { dst := some 10, op := Op.slice 36 (Operand.tmp 9) none none none, type := _, pos := _, after := _, guard := _ }) (v := .slice (some ⟨b, 1, none⟩) 32 32) rfl (by kernel_rfl) (by kernel_rfl) (by kernel_rfl) (fun _ _ _ h => h) (Or.inl ⟨by rfl, fun V (hV : w.grownBy V none) => by go_simp⟩) h0 ?_
    (try simp only [Act.put, List.setIfInBounds_toArray, List.set_cons_zero, List.set_cons_succ])
    refine wpAnyH_take (i := 4) (oi := { dst := some 11, op := Op.move (Operand.tmp 0), type := _, pos := _, after := _, guard := _ }) (v := .pointer (some ⟨b, 0, none⟩)) rfl (by kernel_rfl) (by kernel_rfl) (by kernel_rfl) (fun _ _ _ h => h) (Or.inl ⟨by rfl, fun V (hV : w.grownBy V none) => by go_simp⟩) h0 ?_
    (try simp only [Act.put, List.setIfInBounds_toArray, List.set_cons_zero, List.set_cons_succ])
    refine wpAnyH_take (i := 5) (oi := { dst := some 12, op := Op.nilCheck (Operand.tmp 11), type := _, pos := _, after := _, guard := _ }) (v := .pointer (some ⟨b, 0, none⟩)) rfl (by kernel_rfl) (by kernel_rfl) (by kernel_rfl) (fun _ _ _ h => h) (Or.inl ⟨by rfl, fun V (hV : w.grownBy V none) => by go_simp⟩) h0 ?_
    (try simp only [Act.put, List.setIfInBounds_toArray, List.set_cons_zero, List.set_cons_succ])
    refine wpAnyH_take (i := 6) (oi := { dst := some 13, op := Op.fieldAddr 77 (Operand.tmp 12) 2, type := _, pos := _, after := _, guard := _ }) (v := .pointer (some ⟨b, 33, none⟩)) rfl (by kernel_rfl) (by kernel_rfl) (by kernel_rfl) (fun _ _ _ h => h) (Or.inl ⟨by rfl, fun V (hV : w.grownBy V none) => by go_simp⟩) h0 ?_
    (try simp only [Act.put, List.setIfInBounds_toArray, List.set_cons_zero, List.set_cons_succ])
    refine wpAnyH_take (i := 7) (oi := { dst := some 14, op := Op.load 75 (Operand.tmp 13), type := _, pos := _, after := _, guard := _ }) (v := .int .u64 (f : Int)) rfl (by kernel_rfl) (by kernel_rfl) (by kernel_rfl) (fun _ _ _ h => h) (Or.inl ⟨by rfl, fun V (hV : w.grownBy V none) => by (have hv1 := hV.cell hc33 (by simp); go_simp)⟩) h0 ?_
    (try simp only [Act.put, List.setIfInBounds_toArray, List.set_cons_zero, List.set_cons_succ])
    refine wpAnyH_take (i := 8) (oi := { dst := some 15, op := Op.binOp BinOp.quo 75 (Operand.tmp 14) (Operand.const (Value.int IntKind.u64 32)) 75, type := _, pos := _, after := _, guard := _ }) (v := .int .u64 (q : Int)) rfl (by kernel_rfl) (by kernel_rfl) (by kernel_rfl) (fun _ _ _ h => h) (Or.inl ⟨by rfl, fun V (hV : w.grownBy V none) => by go_simp⟩) h0 ?_
    (try simp only [Act.put, List.setIfInBounds_toArray, List.set_cons_zero, List.set_cons_succ])
    refine wpAnyH_ready (rs := [9, 12]) (by kernel_rfl) (by simp) ?_
    refine AllReadyH.cons (o := { dst := some 16, op := Op.call { callee := Callee.value (Operand.func 68), args := #[Operand.const (Value.slice none 0 0), (Operand.tmp 15), Operand.const (Value.int IntKind.i64 8)], argTypes := #[22, 75, 3] }, type := _, pos := _, after := _, guard := _ }) rfl (fun K9 hK9 => ?_) (AllReadyH.cons (o := { dst := some 5, op := Op.alloc 36, type := _, pos := _, after := _, guard := _ }) rfl (fun K9 hK9 => ?_) AllReadyH.nil)
    · go_simp
      go_at_call 68
      refine (cput _).mono ?_
      rintro e w2 ⟨po, pc, rfl, hb2, g2⟩
      go_wp2_with fail
      refine hK9.out _ _ (tr h0 g2) (fun _ => ?_)
      clear hK9 K9
      (try simp only [Act.put, List.setIfInBounds_toArray, List.set_cons_zero, List.set_cons_succ])
      refine wpAnyH_ready (rs := [10, 12]) (by kernel_rfl) (by simp) ?_
      refine AllReadyH.cons (o := { dst := some 17, op := Op.buildSlice 53 2 #[(0, (Operand.tmp 10)), (1, (Operand.tmp 16))], type := _, pos := _, after := _, guard := _ }) rfl (fun K9 hK9 => ?_) (AllReadyH.cons (o := { dst := some 5, op := Op.alloc 36, type := _, pos := _, after := _, guard := _ }) rfl (fun K9 hK9 => ?_) AllReadyH.nil)
      · go_simp
        refine hK9.out _ _ (gb_alloc (tr h0 g2) _) (fun _ => ?_)
        clear hK9 K9
        (try simp only [Act.put, List.setIfInBounds_toArray, List.set_cons_zero, List.set_cons_succ])
        obtain ⟨Wb, hWb, hN, gN⟩ := alloc_two (w2) (.slice (some ⟨b, 1, none⟩) 32 32) (.slice po 8 pc)
        rw [← hWb]
        clear hWb
        refine wpAnyH_ready (rs := [11, 12]) (by kernel_rfl) (by simp) ?_
        refine AllReadyH.cons (o := { dst := some 18, op := Op.call { callee := Callee.value (Operand.func 26), args := #[(Operand.tmp 17)], argTypes := #[53] }, type := _, pos := _, after := _, guard := _ }) rfl (fun K9 hK9 => ?_) (AllReadyH.cons (o := { dst := some 5, op := Op.alloc 36, type := _, pos := _, after := _, guard := _ }) rfl (fun K9 hK9 => ?_) AllReadyH.nil)
        · go_simp
          go_at_call 26
          refine (cof _ _ po pc (tr (tr h0 g2) gN) hN (hb2.kept gN (fun _ e => by cases e))).mono ?_
          rintro e w3 ⟨rfl, g3⟩
          go_wp2_with fail
          refine hK9.out _ _ (tr (tr (tr h0 g2) gN) g3) (fun _ => ?_)
          clear hK9 K9
          (try simp only [Act.put, List.setIfInBounds_toArray, List.set_cons_zero, List.set_cons_succ])
          refine wpAnyH_ready (rs := [12]) (by kernel_rfl) (by simp) ?_
          refine AllReadyH.cons (o := { dst := some 5, op := Op.alloc 36, type := _, pos := _, after := _, guard := _ }) rfl (fun K9 hK9 => ?_) AllReadyH.nil
          go_simp
          refine hK9.out _ _ (gb_alloc (tr (tr (tr h0 g2) gN) g3) _) (fun _ => ?_)
          clear hK9 K9
          (try simp only [Act.put, List.setIfInBounds_toArray, List.set_cons_zero, List.set_cons_succ])
          obtain ⟨Wa, hWa, hBa, gA⟩ := alloc_row32 (w3) Z (unhide HZ)
          rw [← hWa]
          have hp : w.heap.size ≤ (w3).heap.size := ((tr (tr (tr h0 g2) gN) g3)).size
          clear hWa
          refine wpAnyH_ready (rs := [13]) (by kernel_rfl) (by simp) ?_
          refine AllReadyH.cons (o := { dst := none, op := Op.store 36 (Operand.tmp 5) (Operand.tmp 18), type := _, pos := _, after := _, guard := _ }) rfl (fun K9 hK9 => ?_) AllReadyH.nil
          rw [if_pos (by rfl)]
          refine wp_store_row _ _ _ rfl ((w3).heap.size) _ rfl rfl _ _ hBa (by rw [unhide HSD]; exact hi32) (by rw [unhide HSD]; rfl) (all_oneCell_toArray (bv_one _)) ?_
          refine hK9.out _ _ (gb_row (tr (tr (tr (tr h0 g2) gN) g3) gA) _ (Or.inl hp)) (fun _ => ?_)
          clear hK9 K9
          (try simp only [Act.put])
          refine wpAnyH_done (by kernel_rfl) ?_ _
          refine NoPanic.normal ?_
          have hfB := (hBa).row (D.map bv)
          have hfG := gb_row (tr (tr (tr (tr h0 g2) gN) g3) gA) (D.map bv).toArray (Or.inl hp)
          have HFB := hide hfB
          have HFG := hide hfG
          clear hfB hfG
          go_wp2
          go_meet
          case rel => exact ⟨_, rfl, hp, unhide HFB, unhide HFG⟩
        · go_simp
          refine hK9.out _ _ (gb_alloc (tr (tr h0 g2) gN) _) (fun _ => ?_)
          clear hK9 K9
          (try simp only [Act.put, List.setIfInBounds_toArray, List.set_cons_zero, List.set_cons_succ])
          obtain ⟨Wa, hWa, hBa, gA⟩ := alloc_row32 (Wb) Z (unhide HZ)
          rw [← hWa]
          have hp : w.heap.size ≤ (Wb).heap.size := ((tr (tr h0 g2) gN)).size
          clear hWa
          refine wpAnyH_ready (rs := [11]) (by kernel_rfl) (by simp) ?_
          refine AllReadyH.cons (o := { dst := some 18, op := Op.call { callee := Callee.value (Operand.func 26), args := #[(Operand.tmp 17)], argTypes := #[53] }, type := _, pos := _, after := _, guard := _ }) rfl (fun K9 hK9 => ?_) AllReadyH.nil
          go_simp
          go_at_call 26
          refine (cof _ _ po pc (tr (tr (tr h0 g2) gN) gA) (hN.kept gA (by simp)) ((hb2.kept gN (fun _ e => by cases e)).kept gA (fun _ e => by cases e))).mono ?_
          rintro e w3 ⟨rfl, g3⟩
          go_wp2_with fail
          refine hK9.out _ _ (tr (tr (tr (tr h0 g2) gN) gA) g3) (fun _ => ?_)
          clear hK9 K9
          (try simp only [Act.put, List.setIfInBounds_toArray, List.set_cons_zero, List.set_cons_succ])
          refine wpAnyH_ready (rs := [13]) (by kernel_rfl) (by simp) ?_
          refine AllReadyH.cons (o := { dst := none, op := Op.store 36 (Operand.tmp 5) (Operand.tmp 18), type := _, pos := _, after := _, guard := _ }) rfl (fun K9 hK9 => ?_) AllReadyH.nil
          rw [if_pos (by rfl)]
          refine wp_store_row _ _ _ rfl ((Wb).heap.size) _ rfl rfl _ _ (hBa.kept g3 (by simp)) (by rw [unhide HSD]; exact hi32) (by rw [unhide HSD]; rfl) (all_oneCell_toArray (bv_one _)) ?_
          refine hK9.out _ _ (gb_row (tr (tr (tr (tr h0 g2) gN) gA) g3) _ (Or.inl hp)) (fun _ => ?_)
          clear hK9 K9
          (try simp only [Act.put])
          refine wpAnyH_done (by kernel_rfl) ?_ _
          refine NoPanic.normal ?_
          have hfB := ((hBa.kept g3 (by simp))).row (D.map bv)
          have hfG := gb_row (tr (tr (tr (tr h0 g2) gN) gA) g3) (D.map bv).toArray (Or.inl hp)
          have HFB := hide hfB
          have HFG := hide hfG
          clear hfB hfG
          go_wp2
          go_meet
          case rel => exact ⟨_, rfl, hp, unhide HFB, unhide HFG⟩
      · go_simp
        refine hK9.out _ _ (gb_alloc (tr h0 g2) _) (fun _ => ?_)
        clear hK9 K9
        (try simp only [Act.put, List.setIfInBounds_toArray, List.set_cons_zero, List.set_cons_succ])
        obtain ⟨Wa, hWa, hBa, gA⟩ := alloc_row32 (w2) Z (unhide HZ)
        rw [← hWa]
        have hp : w.heap.size ≤ (w2).heap.size := ((tr h0 g2)).size
        clear hWa
        refine wpAnyH_ready (rs := [10]) (by kernel_rfl) (by simp) ?_
        refine AllReadyH.cons (o := { dst := some 17, op := Op.buildSlice 53 2 #[(0, (Operand.tmp 10)), (1, (Operand.tmp 16))], type := _, pos := _, after := _, guard := _ }) rfl (fun K9 hK9 => ?_) AllReadyH.nil
        go_simp
        refine hK9.out _ _ (gb_alloc (tr (tr h0 g2) gA) _) (fun _ => ?_)
        clear hK9 K9
        (try simp only [Act.put, List.setIfInBounds_toArray, List.set_cons_zero, List.set_cons_succ])
        obtain ⟨Wb, hWb, hN, gN⟩ := alloc_two (Wa) (.slice (some ⟨b, 1, none⟩) 32 32) (.slice po 8 pc)
        rw [← hWb]
        clear hWb
        refine wpAnyH_ready (rs := [11]) (by kernel_rfl) (by simp) ?_
        refine AllReadyH.cons (o := { dst := some 18, op := Op.call { callee := Callee.value (Operand.func 26), args := #[(Operand.tmp 17)], argTypes := #[53] }, type := _, pos := _, after := _, guard := _ }) rfl (fun K9 hK9 => ?_) AllReadyH.nil
        go_simp
        go_at_call 26
        refine (cof _ _ po pc (tr (tr (tr h0 g2) gA) gN) hN ((hb2.kept gA (fun _ e => by cases e)).kept gN (fun _ e => by cases e))).mono ?_
        rintro e w3 ⟨rfl, g3⟩
        go_wp2_with fail
        refine hK9.out _ _ (tr (tr (tr (tr h0 g2) gA) gN) g3) (fun _ => ?_)
        clear hK9 K9
        (try simp only [Act.put, List.setIfInBounds_toArray, List.set_cons_zero, List.set_cons_succ])
        refine wpAnyH_ready (rs := [13]) (by kernel_rfl) (by simp) ?_
        refine AllReadyH.cons (o := { dst := none, op := Op.store 36 (Operand.tmp 5) (Operand.tmp 18), type := _, pos := _, after := _, guard := _ }) rfl (fun K9 hK9 => ?_) AllReadyH.nil
        rw [if_pos (by rfl)]
        refine wp_store_row _ _ _ rfl ((w2).heap.size) _ rfl rfl _ _ ((hBa.kept gN (by simp)).kept g3 (by simp)) (by rw [unhide HSD]; exact hi32) (by rw [unhide HSD]; rfl) (all_oneCell_toArray (bv_one _)) ?_
        refine hK9.out _ _ (gb_row (tr (tr (tr (tr h0 g2) gA) gN) g3) _ (Or.inl hp)) (fun _ => ?_)
        clear hK9 K9
        (try simp only [Act.put])
        refine wpAnyH_done (by kernel_rfl) ?_ _
        refine NoPanic.normal ?_
        have hfB := (((hBa.kept gN (by simp)).kept g3 (by simp))).row (D.map bv)
        have hfG := gb_row (tr (tr (tr (tr h0 g2) gA) gN) g3) (D.map bv).toArray (Or.inl hp)
        have HFB := hide hfB
        have HFG := hide hfG
        clear hfB hfG
        go_wp2
        go_meet
        case rel => exact ⟨_, rfl, hp, unhide HFB, unhide HFG⟩
    · go_simp
      refine hK9.out _ _ (gb_alloc h0 _) (fun _ => ?_)
      clear hK9 K9
      (try simp only [Act.put, List.setIfInBounds_toArray, List.set_cons_zero, List.set_cons_succ])
      obtain ⟨Wa, hWa, hBa, gA⟩ := alloc_row32 (w.drew) Z (unhide HZ)
      rw [show (w.alloc (.cells Z 36)).drew = Wa by rw [hWa]; rfl]
      have hp : w.heap.size ≤ (w.drew).heap.size := (h0).size
      clear hWa
      refine wpAnyH_ready (rs := [9]) (by kernel_rfl) (by simp) ?_
      refine AllReadyH.cons (o := { dst := some 16, op := Op.call { callee := Callee.value (Operand.func 68), args := #[Operand.const (Value.slice none 0 0), (Operand.tmp 15), Operand.const (Value.int IntKind.i64 8)], argTypes := #[22, 75, 3] }, type := _, pos := _, after := _, guard := _ }) rfl (fun K9 hK9 => ?_) AllReadyH.nil
      go_simp
      go_at_call 68
      refine (cput _).mono ?_
      rintro e w2 ⟨po, pc, rfl, hb2, g2⟩
      go_wp2_with fail
      refine hK9.out _ _ (tr (tr h0 gA) g2) (fun _ => ?_)
      clear hK9 K9
      (try simp only [Act.put, List.setIfInBounds_toArray, List.set_cons_zero, List.set_cons_succ])
      refine wpAnyH_ready (rs := [10]) (by kernel_rfl) (by simp) ?_
      refine AllReadyH.cons (o := { dst := some 17, op := Op.buildSlice 53 2 #[(0, (Operand.tmp 10)), (1, (Operand.tmp 16))], type := _, pos := _, after := _, guard := _ }) rfl (fun K9 hK9 => ?_) AllReadyH.nil
      go_simp
      refine hK9.out _ _ (gb_alloc (tr (tr h0 gA) g2) _) (fun _ => ?_)
      clear hK9 K9
      (try simp only [Act.put, List.setIfInBounds_toArray, List.set_cons_zero, List.set_cons_succ])
      obtain ⟨Wb, hWb, hN, gN⟩ := alloc_two (w2) (.slice (some ⟨b, 1, none⟩) 32 32) (.slice po 8 pc)
      rw [← hWb]
      clear hWb
      refine wpAnyH_ready (rs := [11]) (by kernel_rfl) (by simp) ?_
      refine AllReadyH.cons (o := { dst := some 18, op := Op.call { callee := Callee.value (Operand.func 26), args := #[(Operand.tmp 17)], argTypes := #[53] }, type := _, pos := _, after := _, guard := _ }) rfl (fun K9 hK9 => ?_) AllReadyH.nil
      go_simp
      go_at_call 26
      refine (cof _ _ po pc (tr (tr (tr h0 gA) g2) gN) hN (hb2.kept gN (fun _ e => by cases e))).mono ?_
      rintro e w3 ⟨rfl, g3⟩
      go_wp2_with fail
      refine hK9.out _ _ (tr (tr (tr (tr h0 gA) g2) gN) g3) (fun _ => ?_)
      clear hK9 K9
      (try simp only [Act.put, List.setIfInBounds_toArray, List.set_cons_zero, List.set_cons_succ])
      refine wpAnyH_ready (rs := [13]) (by kernel_rfl) (by simp) ?_
      refine AllReadyH.cons (o := { dst := none, op := Op.store 36 (Operand.tmp 5) (Operand.tmp 18), type := _, pos := _, after := _, guard := _ }) rfl (fun K9 hK9 => ?_) AllReadyH.nil
      rw [if_pos (by rfl)]
      refine wp_store_row _ _ _ rfl ((w.drew).heap.size) _ rfl rfl _ _ (((hBa.kept g2 (by simp)).kept gN (by simp)).kept g3 (by simp)) (by rw [unhide HSD]; exact hi32) (by rw [unhide HSD]; rfl) (all_oneCell_toArray (bv_one _)) ?_
      refine hK9.out _ _ (gb_row (tr (tr (tr (tr h0 gA) g2) gN) g3) _ (Or.inl hp)) (fun _ => ?_)
      clear hK9 K9
      (try simp only [Act.put])
      refine wpAnyH_done (by kernel_rfl) ?_ _
      refine NoPanic.normal ?_
      have hfB := ((((hBa.kept g2 (by simp)).kept gN (by simp)).kept g3 (by simp))).row (D.map bv)
      have hfG := gb_row (tr (tr (tr (tr h0 gA) g2) gN) g3) (D.map bv).toArray (Or.inl hp)
      have HFB := hide hfB
      have HFG := hide hfG
      clear hfB hfG
      go_wp2
      go_meet
      case rel => exact ⟨_, rfl, hp, unhide HFB, unhide HFG⟩
  case rest =>
    obtain ⟨p, rfl, hp, hX, gc⟩ := hcut
    have hm := unhide HM
    have hk := unhide HK
    have hkm : k ≤ m := by omega
    have hk32 : k ≤ 32 - r := by omega
    have hB1 := (unhide HB).kept gc (by simp)
    have hrlt := (unhide HR).lt
    have hRs : Blk wc rb tt (xs.map bv ++ ((zs.take k).map bv ++ (zs.drop k).map bv)) := by
      have := (unhide HR).kept gc (by simp)
      rw [← List.map_append, List.take_append_drop, ← List.map_append]
      exact this
    have hol : (xs.map bv).length = o := by rw [List.length_map, unhide HO]
    have hzl : ((zs.take k).map bv).length = k := by rw [List.length_map, List.length_take]; omega
    have hth := hRs.thereIn
    rw [hol, hzl] at hth
    have hPl := unhide HPL
    have hPc : (P.map bv).length = k := by rw [List.length_map, hPl]
    have hXd : Bts wc (some ⟨p, r, none⟩) 32 (D.drop r) := blk_back hX r 32 (by rw [unhide HDL]; omega) (by decide)
    have hcp : (Builtin.copy_ #[22, 22] 3 #[.slice (some ⟨rb, o, none⟩) m c, .slice (some ⟨p, r, none⟩) (32 - r) (32 - r)]).run Tryd.prog wc = .ok (goInt (P.map bv).length) (wc.setCells rb o (P.map bv)) :=
      run_copy_cells wc _ _ _ 5 rb o _ _ ⟨p, r, none⟩ _ _ (P.map bv) Tryd.underlying22 (by kernel_rfl) (by rw [hPc, hk, ← hm]) (by rw [unhide HP]; exact (hXd.take k (by rw [List.length_drop, unhide HDL]; exact hk32)).news _ rfl) (fun j hj => (hth j (by rw [hPc] at hj; exact hj)).1) (fun j hj => (hth j (by rw [hPc] at hj; exact hj)).2) (bv_one _)
    rw [hPc] at hcp
    obtain ⟨W1, hW1⟩ : ∃ W1, W1 = wc.setCells rb o (P.map bv) := ⟨_, rfl⟩
    rw [← hW1] at hcp
    have hB2 : Blk W1 b 77 (midC T s f n) := by rw [hW1]; exact Blk.setCells_other hne _ _ hB1
    have hR2 : Blk W1 rb tt ((xs ++ P ++ zs.drop k).map bv) := by
      have := Blk.setCells (P.map bv) _ hRs (by rw [hzl, hPc])
      rw [hol, ← hW1] at this
      simpa [List.append_assoc] using this
    have hG1 : u.grownBy W1 (some b) := by rw [hW1]; exact gb_setCells (Or.inl hrb) _ _ (gb_trans hu gc (fun _ e => by cases e))
    have hc1 := mid_cell33 hB1
    have hc2 := mid_cell33 hB2
    have hfz := hB2.fz 33
    have hadd : IntKind.u64.wrap ((f : Int) + (k : Int)) = (f : Int) + (k : Int) := by rw [IntKind.wrap_u64]; omega
    have hfin : Blk (W1.setCell ⟨b, 33, none⟩ (.int .u64 ((f : Int) + (k : Int)))) b 77 (midC T s (f + k) n) := by
      rw [← mid_set33 T s f n (f + k), show ((f + k : Nat) : Int) = (f : Int) + (k : Int) from by omega]; exact hB2.set 33 _
    have hfin2 : Blk (W1.setCell ⟨b, 33, none⟩ (.int .u64 ((f : Int) + (k : Int)))) rb tt ((xs ++ P ++ zs.drop k).map bv) := hR2.other _ _ (fun e => hne e.symm)
    have hfin3 : u.grownBy (W1.setCell ⟨b, 33, none⟩ (.int .u64 ((f : Int) + (k : Int)))) (some b) := gb_setCell hG1 _ _ (Or.inr rfl)
    have HF1 := hide hfin
    have HF2 := hide hfin2
    have HF3 := hide hfin3
    have hk64 : (k : Int) < 4294967296 := by omega
    clear hc33 cput cof slS h0 hzv hqi hfin hfin2 hfin3 hB1 hB2 hR2 hRs hth hXd hG1 hW1 hPl hPc hol hzl hX hm hk
    go_wp2
    go_ret
    have := unhide HGO k _ rfl (unhide HF2) (unhide HF1) (unhide HF3)
    rw [← unhide HM] at this
    exact this
end Go.Proofs.YtjckdgapefaokaaDoor
