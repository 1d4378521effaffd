/- What poly's numberOf and times answer. No condition but the bounds that each lemma names. -/
import Derived.Test.YtjckdgapefaokaaDoorPNumC
import Derived.Test.YtjckdgapefaokaaDoorPRefK
import Derived.Test.YtjckdgapefaokaaDoorKEqual
namespace Go.Proofs.YtjckdgapefaokaaDoor
open Go.RowKit

theorem leN_take_succ (l : List UInt8) (k : Nat) (h : k < l.length) : leN (l.take (k + 1)) = leN (l.take k) + 256 ^ k * l[k].toNat := by
  unfold leN
  rw [List.map_take, List.map_take, take_getD]
  simp [List.getD, h]
theorem shl_fit (x r : Nat) (hx : x < 256) (hr : r < 26) : x * 2 ^ r < 2 ^ 34 := by
  have h1 : 2 ^ r ≤ 2 ^ 25 := Nat.pow_le_pow_right (by omega) (by omega)
  have h2 : x * 2 ^ r ≤ 255 * 2 ^ 25 := Nat.mul_le_mul (by omega) h1
  omega

set_option maxRecDepth 100000 in
set_option maxHeartbeats 1000000 in
theorem numberOf_any (w : World) (ao : Option Addr) (c : Nat) (l : List UInt8) (hb : Bts w ao c l) (hl : l.length ≤ 17) (hv : leN l < t130) :
    Calls Tryd.prog 73 #[.slice ao l.length c] w fun e w' => ∃ n, Lim n ∧ v26 n = leN l ∧ e = .returned (num n) ∧ w.grownBy w' none := by
  obtain ⟨Z, hZ⟩ : ∃ A : Array Value, A = (zero5L.map nv).toArray := ⟨_, rfl⟩
  have hz := zero5
  rw [← hZ] at hz
  obtain ⟨W1, hW1⟩ : ∃ W1, W1 = (w.alloc (.cells Z 132)).alloc (.cells Z 132) := ⟨_, rfl⟩
  have hg : w.grownBy W1 none := by rw [hW1]; exact gb_alloc (gb_alloc (gb_refl _ _) _) _
  have hR1 : Blk W1 w.heap.size 132 (zero5L.map nv) := by rw [hW1, hZ]; exact (Blk.new w 132 _).alloc _
  have hN1 : Blk W1 (w.heap.size + 1) 132 (zero5L.map nv) := by
    have := Blk.new (w.alloc (.cells Z 132)) 132 (zero5L.map nv)
    rw [World.size_alloc] at this
    rw [hZ] at this
    rw [hW1, hZ]; exact this
  obtain ⟨m, hm⟩ : ∃ m, m = l.length := ⟨_, rfl⟩
  rw [← hm]
  rw [← hm] at hl
  have HM := hide hm
  have HV := hide hv
  have HW1 := hide hW1
  have HR := hide hR1
  have HN := hide hN1
  clear hZ hW1 hR1 hN1 hm hv
  go_enter Tryd.func73, Tryd.ntmps73
  go_wp2
  rw [← unhide HW1]
  go_loopw [9] (fun i wr => ∃ (k : Nat) (n : List Nat), k ≤ m ∧ i = .int .i64 (k : Int) ∧ n.length = 5 ∧ v26 n = leN (l.take k) ∧ (∀ j, n.getD j 0 ≤ k * 2 ^ 34) ∧ Blk wr (w.heap.size + 1) 132 (n.map nv) ∧ Blk wr w.heap.size 132 (zero5L.map nv) ∧ w.grownBy wr none) (fun i _ => m - (intOf i).toNat)
  case atStart =>
    refine ⟨0, zero5L, Nat.zero_le _, rfl, rfl, rfl, fun j => ?_, unhide HN, unhide HR, hg⟩
    match j with
    | 0 => decide
    | 1 => decide
    | 2 => decide
    | 3 => decide
    | 4 => decide
    | j + 5 => rw [getD_out _ _ (by simp [zero5L])]; omega
  case round =>
    clear HR HN hg HW1
    obtain ⟨k, n, hk, rfl, hnl, hnv, hnb, hN, hR, hg⟩ := hrel
    by_cases hlt : k < m
    · have hkl : k < l.length := by rw [← unhide HM]; exact hlt
      obtain ⟨ad, rfl⟩ : ∃ ad, ao = some ad := by
        cases ao with
        | none => have := hb.zip rfl; omega
        | some ad => exact ⟨ad, rfl⟩
      have hcb := (hb.kept hg (fun _ e => by cases e)).cell ad rfl k hkl
      have hsb := hb.shape ad rfl (by omega)
      obtain ⟨ab, aoff, asp⟩ := ad
      simp only at hsb hcb
      subst hsb
      obtain ⟨x, hx⟩ : ∃ x, x = l[k].toNat := ⟨_, rfl⟩
      rw [← hx] at hcb
      have hx8 : x < 256 := by rw [hx]; exact l[k].toNat_lt
      obtain ⟨q, hq⟩ : ∃ q, q = k * 8 / 26 := ⟨_, rfl⟩
      obtain ⟨r, hr⟩ : ∃ r, r = k * 8 % 26 := ⟨_, rfl⟩
      have hr26 : r < 26 := by omega
      have hq5 : q < 5 := by omega
      obtain ⟨s, hs⟩ : ∃ s, s = x * 2 ^ r := ⟨_, rfl⟩
      have hs34 : s < 2 ^ 34 := by rw [hs]; exact shl_fit x r hx8 hr26
      obtain ⟨y, hy⟩ : ∃ y, y = n.getD q 0 := ⟨_, rfl⟩
      have hyb := hnb q
      rw [← hy] at hyb
      have hfz := hN.fz q
      have hcn : wr.cell? ⟨w.heap.size + 1, q, none⟩ = some (.int .u64 (y : Int)) := by
        rw [hN.cell, nv_at n q (by omega), hy]
      have hq0 : (0 : Int) ≤ (q : Int) := by omega
      have hq1 : (q : Int) < 5 := by omega
      have d1 : Int.tdiv ((k : Int) * 8) 26 = (q : Int) := by rw [Int.tdiv_eq_ediv_of_nonneg (by omega)]; omega
      have d2 : (k : Int) * 8 / 26 = (q : Int) := by omega
      have d3 : Int.tmod ((k : Int) * 8) 26 = (r : Int) := by rw [Int.tmod_eq_emod_of_nonneg (by omega)]; omega
      have d4 : (k : Int) * 8 % 26 = (r : Int) := by omega
      have d5 : IntKind.i64.wrap ((k : Int) * 8) = (k : Int) * 8 := by rw [IntKind.wrap_i64]; omega
      have r0 : (0 : Int) ≤ (r : Int) := by omega
      have r1 : ¬ (64 : Int) ≤ (r : Int) := by omega
      have hk1 : (k : Int) < (m : Int) := by omega
      obtain ⟨t, ht⟩ : ∃ t, t = y + s := ⟨_, rfl⟩
      have f1 : IntKind.i64.wrap (q : Int) = (q : Int) := by rw [IntKind.wrap_i64]; omega
      have f2 : IntKind.u64.wrap (x : Int) = (x : Int) := by rw [IntKind.wrap_u64]; omega
      have f3 : IntKind.i64.wrap (r : Int) = (r : Int) := by rw [IntKind.wrap_i64]; omega
      have f4 : (x : Int) % 18446744073709551616 = (x : Int) := by omega
      have e1 : IntKind.u64.wrap (s : Int) = (s : Int) := by rw [IntKind.wrap_u64]; omega
      have e2 : (y : Int) + (s : Int) = (t : Int) := by omega
      have e3 : IntKind.u64.wrap (t : Int) = (t : Int) := by rw [IntKind.wrap_u64]; omega
      have e4 : (t : Int) % 18446744073709551616 = (t : Int) := by omega
      have e5 : (x : Int) * 2 ^ r = (s : Int) := by rw [hs, Int.natCast_mul, Int.natCast_pow]; rfl
      have e6 : (s : Int) % 18446744073709551616 = (s : Int) := by omega
      have hNV : v26 (n.set q t) = leN (l.take (k + 1)) := by
        rw [leN_take_succ l k hkl, ← hx, ← hnv, ht, hy, hs, hq, hr]
        exact number_step n k x hnl (by omega)
      have hNB : ∀ j, (n.set q t).getD j 0 ≤ (k + 1) * 2 ^ 34 := fun j => by
        rw [set_getD n q j t (by omega)]
        have := hnb j
        by_cases e : j = q
        · rw [if_pos e]; omega
        · rw [if_neg e]; exact Nat.le_trans this (Nat.mul_le_mul_right _ (Nat.le_succ k))
      have hB2 : Blk (wr.setCell ⟨w.heap.size + 1, q, none⟩ (.int .u64 (t : Int))).drew (w.heap.size + 1) 132 ((n.set q t).map nv) := by
        rw [List.map_set]; exact (hN.set q (nv t)).drew
      have hR2 : Blk (wr.setCell ⟨w.heap.size + 1, q, none⟩ (.int .u64 (t : Int))).drew w.heap.size 132 (zero5L.map nv) := (hR.other _ _ (by simp)).drew
      have hG2 : w.grownBy (wr.setCell ⟨w.heap.size + 1, q, none⟩ (.int .u64 (t : Int))).drew none := gb_drew (gb_setCell hg _ _ (Or.inl (by simp)))
      have hNL : (n.set q t).length = 5 := by simp [hnl]
      have HNV := hide hNV
      have HNB := hide hNB
      have HB2 := hide hB2
      have HR2 := hide hR2
      have HG2 := hide hG2
      have HNL := hide hNL
      clear hNV hNB hB2 hR2 hG2 hNL hN hR hnb hnv hnl hx hs hs34 hy hyb hq hr ht
      go_wp2
      refine wp_region_noPanic ?_
      refine wp_region_held_drew (S := fun V => True) (by kernel_rfl) trivial (fun _ => ?_)
      refine wpAnyH_take (i := 0) (oi := { dst := some 16, op := Op.move (Operand.tmp 6), type := _, pos := _, after := _, guard := _ }) (v := .int .i64 ((k : Int) * 8)) rfl (by kernel_rfl) (by kernel_rfl) (by kernel_rfl) (fun _ _ _ h => h) (Or.inl ⟨by rfl, fun V (hV : True) => by go_simp⟩) trivial ?_
      (try simp only [Act.put, List.setIfInBounds_toArray, List.set_cons_zero, List.set_cons_succ])
      refine wpAnyH_take (i := 1) (oi := { dst := some 17, op := Op.binOp BinOp.quo 3 (Operand.tmp 16) (Operand.const (Value.int IntKind.i64 26)) 3, type := _, pos := _, after := _, guard := _ }) (v := .int .i64 (q : Int)) rfl (by kernel_rfl) (by kernel_rfl) (by kernel_rfl) (fun _ _ _ h => h) (Or.inl ⟨by rfl, fun V (hV : True) => by go_simp⟩) trivial ?_
      (try simp only [Act.put, List.setIfInBounds_toArray, List.set_cons_zero, List.set_cons_succ])
      refine wpAnyH_take (i := 2) (oi := { dst := some 18, op := Op.indexAddr 132 (Operand.tmp 3) (Operand.tmp 17), type := _, pos := _, after := _, guard := _ }) (v := .pointer (some ⟨w.heap.size + 1, q, none⟩)) rfl (by kernel_rfl) (by kernel_rfl) (by kernel_rfl) (fun _ _ _ h => h) (Or.inl ⟨by rfl, fun V (hV : True) => by go_simp⟩) trivial ?_
      (try simp only [Act.put, List.setIfInBounds_toArray, List.set_cons_zero, List.set_cons_succ])
      refine wpAnyH_take (i := 4) (oi := { dst := some 20, op := Op.move (Operand.tmp 5), type := _, pos := _, after := _, guard := _ }) (v := .int .u8 (x : Int)) rfl (by kernel_rfl) (by kernel_rfl) (by kernel_rfl) (fun _ _ _ h => h) (Or.inl ⟨by rfl, fun V (hV : True) => by go_simp⟩) trivial ?_
      (try simp only [Act.put, List.setIfInBounds_toArray, List.set_cons_zero, List.set_cons_succ])
      refine wpAnyH_take (i := 5) (oi := { dst := some 21, op := Op.convert 5 75 (Operand.tmp 20), type := _, pos := _, after := _, guard := _ }) (v := .int .u64 (x : Int)) rfl (by kernel_rfl) (by kernel_rfl) (by kernel_rfl) (fun _ _ _ h => h) (Or.inl ⟨by rfl, fun V (hV : True) => by go_simp⟩) trivial ?_
      (try simp only [Act.put, List.setIfInBounds_toArray, List.set_cons_zero, List.set_cons_succ])
      refine wpAnyH_take (i := 6) (oi := { dst := some 22, op := Op.move (Operand.tmp 6), type := _, pos := _, after := _, guard := _ }) (v := .int .i64 ((k : Int) * 8)) rfl (by kernel_rfl) (by kernel_rfl) (by kernel_rfl) (fun _ _ _ h => h) (Or.inl ⟨by rfl, fun V (hV : True) => by go_simp⟩) trivial ?_
      (try simp only [Act.put, List.setIfInBounds_toArray, List.set_cons_zero, List.set_cons_succ])
      refine wpAnyH_take (i := 7) (oi := { dst := some 23, op := Op.binOp BinOp.rem 3 (Operand.tmp 22) (Operand.const (Value.int IntKind.i64 26)) 3, type := _, pos := _, after := _, guard := _ }) (v := .int .i64 (r : Int)) rfl (by kernel_rfl) (by kernel_rfl) (by kernel_rfl) (fun _ _ _ h => h) (Or.inl ⟨by rfl, fun V (hV : True) => by go_simp⟩) trivial ?_
      (try simp only [Act.put, List.setIfInBounds_toArray, List.set_cons_zero, List.set_cons_succ])
      refine wpAnyH_take (i := 8) (oi := { dst := some 24, op := Op.binOp BinOp.shl 75 (Operand.tmp 21) (Operand.tmp 23) 3, type := _, pos := _, after := _, guard := _ }) (v := .int .u64 (s : Int)) rfl (by kernel_rfl) (by kernel_rfl) (by kernel_rfl) (fun _ _ _ h => h) (Or.inl ⟨by rfl, fun V (hV : True) => by go_simp⟩) trivial ?_
      (try simp only [Act.put, List.setIfInBounds_toArray, List.set_cons_zero, List.set_cons_succ])
      refine wpAnyH_ready (rs := [3]) (by kernel_rfl) (by simp) ?_
      refine AllReadyH.cons (o := { dst := some 19, op := Op.load 75 (Operand.tmp 18), type := _, pos := _, after := _, guard := _ }) rfl (fun K9 hK9 => ?_) AllReadyH.nil
      go_simp
      refine hK9.out _ _ trivial (fun _ => ?_)
      clear hK9 K9
      (try simp only [Act.put, List.setIfInBounds_toArray, List.set_cons_zero, List.set_cons_succ])
      refine wpAnyH_take (i := 9) (oi := { dst := some 25, op := Op.binOp BinOp.add 75 (Operand.tmp 19) (Operand.tmp 24) 75, type := _, pos := _, after := _, guard := _ }) (v := .int .u64 (t : Int)) rfl (by kernel_rfl) (by kernel_rfl) (by kernel_rfl) (fun _ _ _ h => h) (Or.inl ⟨by rfl, fun V (hV : True) => by go_simp⟩) trivial ?_
      (try simp only [Act.put, List.setIfInBounds_toArray, List.set_cons_zero, List.set_cons_succ])
      refine wpAnyH_take (i := 10) (oi := { dst := some 26, op := Op.indexAddr 132 (Operand.tmp 3) (Operand.tmp 17), type := _, pos := _, after := _, guard := _ }) (v := .pointer (some ⟨w.heap.size + 1, q, none⟩)) rfl (by kernel_rfl) (by kernel_rfl) (by kernel_rfl) (fun _ _ _ h => h) (Or.inl ⟨by rfl, fun V (hV : True) => by go_simp⟩) trivial ?_
      (try simp only [Act.put, List.setIfInBounds_toArray, List.set_cons_zero, List.set_cons_succ])
      refine wpAnyH_ready (rs := [11]) (by kernel_rfl) (by simp) ?_
      refine AllReadyH.cons (o := { dst := none, op := Op.store 75 (Operand.tmp 26) (Operand.tmp 25), type := _, pos := _, after := _, guard := _ }) rfl (fun K9 hK9 => ?_) AllReadyH.nil
      go_simp
      refine hK9.out _ _ trivial (fun _ => ?_)
      clear hK9 K9
      (try simp only [Act.put, List.setIfInBounds_toArray, List.set_cons_zero, List.set_cons_succ])
      refine wpAnyH_done (by kernel_rfl) ?_ _
      refine NoPanic.normal ?_
      go_wp2
      go_roundw
      case rel => exact ⟨k + 1, n.set q t, by omega, by go_num, unhide HNL, unhide HNV, unhide HNB, unhide HB2, unhide HR2, unhide HG2⟩
      case measure => simp [intOf]; omega
    · have c1 : ¬ (k : Int) < (m : Int) := by omega
      obtain rfl : k = m := by omega
      rw [List.take_of_length_le (by rw [unhide HM]; exact Nat.le_refl _)] at hnv
      have hcar := carried5_any wr n hnl (fun j => by have := hnb j; omega)
      obtain ⟨C, hC⟩ : ∃ C, C = cutL n := ⟨_, rfl⟩
      have hCl : Lim C := by rw [hC]; exact cutL_lim n
      have hCv : v26 C = leN l := by rw [hC, cut_val_mod n hnl, hnv, Nat.mod_eq_of_lt (unhide HV)]
      rw [← hC] at hcar
      unfold num at hcar
      have hi := info5n n hnl
      have hiC := info5n C hCl.1
      have hsn := num_size n hnl
      have hsC := num_size C hCl.1
      have HI := hide hi
      have HIC := hide hiC
      have HSN := hide hsn
      have HSC := hide hsC
      have HCL := hide hCl
      have HCV := hide hCv
      have HN := hide hN
      have HR := hide hR
      clear hi hiC hsn hsC hCl hCv hN hR hC hnb hnv hnl
      go_wp2_with (first
        | (refine wpList_load_row rfl 132 _ rfl (w.heap.size + 1) rfl _ _ _ _ (unhide HN) Tryd.underlying132 rfl ?_ ?_; (exact unhide HI))
        | (go_at_call 76; refine hcar.mono ?_; rintro e w2 ⟨rfl, g2⟩; have hN2 := (unhide HN).kept g2 (by simp); have hR2 := (unhide HR).kept g2 (by simp); have hN3 := hN2.row (C.map nv); have hR3 := hR2.row_other (w.heap.size + 1) (C.map nv).toArray (by omega); have HN2 := hide hN2; have HN3 := hide hN3; have HR3 := hide hR3; clear hN2 hN3 hR2 hR3)
        | (refine wpList_store_row rfl 132 _ _ rfl (w.heap.size + 1) _ rfl rfl _ _ (unhide HN2) ?_ ?_ ?_ ?_; (exact unhide HIC); (rw [unhide HSC, unhide HSN]); (exact all_oneCell_toArray (nv_one _)))
        | (refine wpList_load_row rfl 132 _ rfl (w.heap.size + 1) rfl _ _ _ _ (unhide HN3) Tryd.underlying132 rfl ?_ ?_; (exact unhide HIC))
        | (refine wpList_store_row rfl 132 _ _ rfl w.heap.size _ rfl rfl _ _ (unhide HR3) ?_ ?_ ?_ ?_; (exact unhide HIC); (rw [unhide HSC]; rfl); (exact all_oneCell_toArray (nv_one _))))
      have hS := (unhide HR3).row (C.map nv)
      refine bodyPost_ret (v := num C) (results_cell_row (g := w.heap.size) rfl _ _ _ _ _ _ ?_ hS Tryd.underlying132 rfl (unhide HIC)) rfl ⟨C, unhide HCL, unhide HCV, rfl, ?_⟩
      · rfl
      · exact gb_row (gb_row (gb_trans hg g2 (fun _ e => by cases e)) _ (Or.inl (by omega))) _ (Or.inl (Nat.le_refl _))
end Go.Proofs.YtjckdgapefaokaaDoor

/- What poly's lowest answers: the lowest sixteen bytes of a number whose limbs are carried on. No other condition. -/
namespace Go.Proofs.YtjckdgapefaokaaDoor
open Go.RowKit

theorem or_fit (s y r : Nat) (hs : s < 2 ^ r) (hy : y < 67108864) (hr : r < 26) : bits .or .u64 (s : Int) ((y * 2 ^ r : Nat) : Int) = ((s + y * 2 ^ r : Nat) : Int) := by
  have h1 : 2 ^ r ≤ 2 ^ 25 := Nat.pow_le_pow_right (by omega) (by omega)
  have h2 : y * 2 ^ r ≤ 67108863 * 2 ^ 25 := Nat.mul_le_mul (by omega) h1
  rw [u64_or_nat _ _ (by omega) (by omega)]
  have h3 := Nat.shiftLeft_add_eq_or_of_lt (b := s) (i := r) hs y
  rw [Nat.shiftLeft_eq] at h3
  rw [Nat.or_comm, ← h3, Nat.add_comm]
def lowB8 (n : List Nat) (i : Nat) : UInt8 := UInt8.ofNat (v26 n / 256 ^ i)
theorem lowB8_toNat (n : List Nat) (h : Lim n) (i : Nat) (hi : i < 16) : (lowB8 n i).toNat = lowX n i % 256 := by
  rw [low_byte n h i hi, lowB8, UInt8.toNat_ofNat']
def zero16L : List UInt8 := List.replicate 16 0

set_option maxRecDepth 100000 in
set_option maxHeartbeats 1000000 in
theorem lowest_any (w : World) (n : List Nat) (hn : Lim n) :
    Calls Tryd.prog 78 #[num n] w fun e w' => e = .returned (.agg ((leB 16 (v26 n)).map bv).toArray) ∧ w.grownBy w' none := by
  have hi16 : (Tryd.prog.info? 93).map (·.size) = some 16 := by kernel_rfl
  obtain ⟨A, hA⟩ : ∃ A : Array Value, A = (n.map nv).toArray := ⟨_, rfl⟩
  obtain ⟨Z, hZ⟩ : ∃ A : Array Value, A = (zero16L.map bv).toArray := ⟨_, rfl⟩
  have hz : ∀ w : World, (zeroValue 93).run Tryd.prog w = .ok (.agg Z) w := by rw [hZ]; exact zero16b
  obtain ⟨W1, hW1⟩ : ∃ W1, W1 = ((w.alloc (.cells A 132)).alloc (.cells Z 93)).alloc (.cells Z 93) := ⟨_, rfl⟩
  have hg : w.grownBy W1 none := by rw [hW1]; exact gb_alloc (gb_alloc (gb_alloc (gb_refl _ _) _) _) _
  have hN1 : Blk W1 w.heap.size 132 (n.map nv) := by rw [hW1, hA]; exact ((Blk.new w 132 _).alloc _).alloc _
  have hR1 : Blk W1 (w.heap.size + 1) 93 (zero16L.map bv) := by
    have := (Blk.new (w.alloc (.cells A 132)) 93 (zero16L.map bv)).alloc (.cells Z 93)
    rw [World.size_alloc, ← hZ] at this
    rw [hW1]; exact this
  have hB1 : Blk W1 (w.heap.size + 2) 93 ((stepL 16 0 (lowB8 n) (fun _ => 0)).map bv) := by
    have := Blk.new ((w.alloc (.cells A 132)).alloc (.cells Z 93)) 93 (zero16L.map bv)
    rw [World.size_alloc, World.size_alloc, ← hZ] at this
    rw [hW1]; exact this
  show Calls Tryd.prog 78 #[.agg (n.map nv).toArray] w _
  rw [← hA]
  have HN := hide hn
  have HW1 := hide hW1
  have HN1 := hide hN1
  have HR1 := hide hR1
  have HB1 := hide hB1
  clear hn hA hZ hW1 hN1 hR1 hB1
  go_enter Tryd.func78, Tryd.ntmps78
  go_wp2
  rw [← unhide HW1]
  go_loopw [8] (fun i wr => ∃ k : Nat, k ≤ 16 ∧ i = .int .i64 (k : Int) ∧ Blk wr w.heap.size 132 (n.map nv) ∧ Blk wr (w.heap.size + 1) 93 (zero16L.map bv) ∧ Blk wr (w.heap.size + 2) 93 ((stepL 16 k (lowB8 n) (fun _ => 0)).map bv) ∧ w.grownBy wr none) (fun i _ => 16 - (intOf i).toNat)
  case atStart => exact ⟨0, Nat.zero_le _, rfl, unhide HN1, unhide HR1, unhide HB1, hg⟩
  case round =>
    clear HN1 HR1 HB1 hg HW1
    obtain ⟨k, hk, rfl, hN, hR, hB, hg⟩ := hrel
    by_cases hlt : k < 16
    · have hk0 : (0 : Int) ≤ (k : Int) := by omega
      have hk1 : (k : Int) < 16 := by omega
      have hnl := (unhide HN).1
      obtain ⟨q, hq⟩ : ∃ q, q = k * 8 / 26 := ⟨_, rfl⟩
      obtain ⟨r, hr⟩ : ∃ r, r = k * 8 % 26 := ⟨_, rfl⟩
      have hr26 : r < 26 := by omega
      have hq5 : q < 5 := by omega
      obtain ⟨x, hx⟩ : ∃ x, x = n.getD q 0 := ⟨_, rfl⟩
      have hxb : x < 67108864 := by rw [hx]; exact (unhide HN).2 q
      obtain ⟨s, hs⟩ : ∃ s, s = x / 2 ^ r := ⟨_, rfl⟩
      have hsb : s < 2 ^ (26 - r) := by
        rw [hs]
        apply Nat.div_lt_of_lt_mul
        rw [← Nat.pow_add, show r + (26 - r) = 26 by omega]
        exact hxb
      have hlow := lowB8_toNat n (unhide HN) k hlt
      rw [lowX, ← hq, ← hr, ← hx, ← hs] at hlow
      have hcn : wr.cell? ⟨w.heap.size, q, none⟩ = some (.int .u64 (x : Int)) := by
        rw [hN.cell, nv_at n q (by omega), hx]
      have hq0 : (0 : Int) ≤ (q : Int) := by omega
      have hq1 : (q : Int) < 5 := by omega
      have d1 : Int.tdiv ((k : Int) * 8) 26 = (q : Int) := by rw [Int.tdiv_eq_ediv_of_nonneg (by omega)]; omega
      have d2 : (k : Int) * 8 / 26 = (q : Int) := by omega
      have d3 : Int.tmod ((k : Int) * 8) 26 = (r : Int) := by rw [Int.tmod_eq_emod_of_nonneg (by omega)]; omega
      have d4 : (k : Int) * 8 % 26 = (r : Int) := by omega
      have d5 : IntKind.i64.wrap ((k : Int) * 8) = (k : Int) * 8 := by rw [IntKind.wrap_i64]; omega
      have f1 : IntKind.i64.wrap (q : Int) = (q : Int) := by rw [IntKind.wrap_i64]; omega
      have f3 : IntKind.i64.wrap (r : Int) = (r : Int) := by rw [IntKind.wrap_i64]; omega
      have r0 : (0 : Int) ≤ (r : Int) := by omega
      have r1 : ¬ (64 : Int) ≤ (r : Int) := by omega
      have e1 : (x : Int) / 2 ^ r = (s : Int) := by rw [hs, Int.natCast_ediv, Int.natCast_pow]; rfl
      have hs64 : s < 67108864 := by rw [hs]; exact Nat.lt_of_le_of_lt (Nat.div_le_self _ _) hxb
      have hcb : wr.cell? ⟨w.heap.size + 2, k, none⟩ = some (.int .u8 (0 : Int)) := by
        rw [hB.cell, List.getElem?_map, stepL_at _ _ _ _ _ hlt, if_neg (by omega)]; rfl
      have hfb := hB.fz k
      obtain ⟨y, hy⟩ : ∃ y, y = (lowB8 n k).toNat := ⟨_, rfl⟩
      have hB2 : Blk (wr.setCell ⟨w.heap.size + 2, k, none⟩ (.int .u8 (y : Int))) (w.heap.size + 2) 93 ((stepL 16 (k + 1) (lowB8 n) (fun _ => 0)).map bv) := by
        rw [← stepL_set, List.map_set, hy]; exact hB.set k (bv (lowB8 n k))
      have hN2 : Blk (wr.setCell ⟨w.heap.size + 2, k, none⟩ (.int .u8 (y : Int))) w.heap.size 132 (n.map nv) := hN.other _ _ (by simp)
      have hR2 : Blk (wr.setCell ⟨w.heap.size + 2, k, none⟩ (.int .u8 (y : Int))) (w.heap.size + 1) 93 (zero16L.map bv) := hR.other _ _ (by simp)
      have hG2 : w.grownBy (wr.setCell ⟨w.heap.size + 2, k, none⟩ (.int .u8 (y : Int))) none := gb_setCell hg _ _ (Or.inl (by simp))
      rw [← hy] at hlow
      by_cases h18 : 18 < r
      · rw [if_pos h18] at hlow
        have c18 : (18 : Int) < (r : Int) := by omega
        obtain ⟨p, hp⟩ : ∃ p, p = q + 1 := ⟨_, rfl⟩
        have hp5 : p < 5 := by omega
        rw [← hp] at hlow
        obtain ⟨v, hv⟩ : ∃ v, v = n.getD p 0 := ⟨_, rfl⟩
        rw [← hv] at hlow
        have hvb : v < 67108864 := by rw [hv]; exact (unhide HN).2 p
        have hcv : wr.cell? ⟨w.heap.size, p, none⟩ = some (.int .u64 (v : Int)) := by
          rw [hN.cell, nv_at n p (by omega), hv]
        obtain ⟨u, hu⟩ : ∃ u, u = 26 - r := ⟨_, rfl⟩
        rw [← hu] at hlow hsb
        have hor := or_fit s v u hsb hvb (by omega)
        obtain ⟨t, ht⟩ : ∃ t, t = v * 2 ^ u := ⟨_, rfl⟩
        rw [← ht] at hor hlow
        have ht64 : t < 2 ^ 52 := by
          rw [ht]
          have h1 : 2 ^ u ≤ 2 ^ 8 := Nat.pow_le_pow_right (by omega) (by omega)
          have h2 : v * 2 ^ u ≤ 67108863 * 2 ^ 8 := Nat.mul_le_mul (by omega) h1
          omega
        obtain ⟨z, hz2⟩ : ∃ z, z = s + t := ⟨_, rfl⟩
        rw [← hz2] at hor hlow
        have g1 : (q : Int) + 1 = (p : Int) := by omega
        have g2 : (p : Int) < 5 := by omega
        have g3 : (0 : Int) ≤ (p : Int) := by omega
        have g4 : (26 : Int) - (r : Int) = (u : Int) := by omega
        have g5 : (0 : Int) ≤ (u : Int) := by omega
        have g6 : ¬ (64 : Int) ≤ (u : Int) := by omega
        have g7 : (v : Int) * 2 ^ u = (t : Int) := by rw [ht, Int.natCast_mul, Int.natCast_pow]; rfl
        have g8 : (t : Int) % 18446744073709551616 = (t : Int) := by omega
        have g9 : IntKind.u64.wrap (t : Int) = (t : Int) := by rw [IntKind.wrap_u64]; omega
        have g10 : (z : Int) % 256 = (y : Int) := by omega
        have g11 : IntKind.u8.wrap (z : Int) = (y : Int) := by rw [IntKind.wrap_u8]; omega
        have g12 : IntKind.i64.wrap (p : Int) = (p : Int) := by rw [IntKind.wrap_i64]; omega
        have g13 : IntKind.i64.wrap (u : Int) = (u : Int) := by rw [IntKind.wrap_i64]; omega
        have HB2 := hide hB2
        have HN2 := hide hN2
        have HR2 := hide hR2
        have HG2 := hide hG2
        clear hB2 hN2 hR2 hG2 hB hN hR hnl hq hr hx hxb hs hsb hlow hy hp hp5 hv hvb hu ht ht64 hz2 hs64
        go_wp2
        go_roundw
        case rel => exact ⟨k + 1, by omega, by go_num, unhide HN2, unhide HR2, unhide HB2, unhide HG2⟩
        case measure => simp [intOf]; omega
      · rw [if_neg h18] at hlow
        have c18 : ¬ (18 : Int) < (r : Int) := by omega
        have g10 : (s : Int) % 256 = (y : Int) := by omega
        have g11 : IntKind.u8.wrap (s : Int) = (y : Int) := by rw [IntKind.wrap_u8]; omega
        have HB2 := hide hB2
        have HN2 := hide hN2
        have HR2 := hide hR2
        have HG2 := hide hG2
        clear hB2 hN2 hR2 hG2 hB hN hR hnl hq hr hx hxb hs hsb hlow hy hs64
        go_wp2
        go_roundw
        case rel => exact ⟨k + 1, by omega, by go_num, unhide HN2, unhide HR2, unhide HB2, unhide HG2⟩
        case measure => simp [intOf]; omega
    · obtain rfl : k = 16 := by omega
      rw [stepL_all] at hB
      rw [show ((16 : Nat) : Int) = 16 from rfl]
      obtain ⟨C, hC⟩ : ∃ C, C = leB 16 (v26 n) := ⟨_, rfl⟩
      have hB2 : Blk wr (w.heap.size + 2) 93 (C.map bv) := by rw [hC]; exact hB
      have hCl : C.length = 16 := by rw [hC]; exact leB_length _ _
      have hsz : ((C.map bv).toArray).size = 16 := by simp [hCl]
      have hS := hR.row (C.map bv)
      have hG : w.grownBy (wr.setRow (w.heap.size + 1) (C.map bv).toArray) none := gb_row hg _ (Or.inl (by omega))
      have HB := hide hB2
      have HR := hide hR
      have HSZ := hide hsz
      have HC := hide hC
      have HS := hide hS
      have HG := hide hG
      clear hB2 hB hN hR hCl hsz hC hS hG
      go_wp2_with (first
        | (refine wpList_load_row rfl 93 _ rfl (w.heap.size + 2) rfl _ _ _ _ (unhide HB) Tryd.underlying93 rfl ?_ ?_; (rw [unhide HSZ]; exact hi16))
        | (refine wpList_store_row rfl 93 _ _ rfl (w.heap.size + 1) _ rfl rfl _ _ (unhide HR) ?_ ?_ ?_ ?_; (rw [unhide HSZ]; exact hi16); (rw [unhide HSZ]; rfl); (exact all_oneCell_toArray (bv_one _))))
      refine bodyPost_ret (v := .agg (C.map bv).toArray) (results_cell_row (g := w.heap.size + 1) rfl _ _ _ _ _ _ ?_ (unhide HS) Tryd.underlying93 rfl ?_) rfl ⟨by rw [unhide HC], unhide HG⟩
      · rfl
      · rw [unhide HSZ]; exact hi16
end Go.Proofs.YtjckdgapefaokaaDoor

/- What poly's Clamp and clamped answer: sixteen bytes with the bits of r that are let be, and their number. No condition but that they are sixteen. -/
namespace Go.Proofs.YtjckdgapefaokaaDoor
open Go.RowKit

theorem and15 (x : Nat) (h : x < 256) : bits .and .u8 (x : Int) 15 = ((x % 16 : Nat) : Int) := by
  have : ∀ k : Fin 256, bits .and .u8 (k.val : Int) 15 = ((k.val % 16 : Nat) : Int) := by decide +kernel
  exact this ⟨x, h⟩
theorem and252 (x : Nat) (h : x < 256) : bits .and .u8 (x : Int) 252 = ((x / 4 * 4 : Nat) : Int) := by
  have : ∀ k : Fin 256, bits .and .u8 (k.val : Int) 252 = ((k.val / 4 * 4 : Nat) : Int) := by decide +kernel
  exact this ⟨x, h⟩
def clamF (l : List UInt8) (i : Nat) : UInt8 := clampB i (l.getD i 0)
theorem clam_all (l : List UInt8) (h : l.length = 16) : (List.range 16).map (clamF l) = clampL l := by
  apply List.ext_getElem
  · simp [clampL, h]
  · intro i h1 h2
    have hi : i < l.length := by simpa [clampL] using h2
    simp [clampL, clamF, List.getD, hi]
theorem clam_none (l : List UInt8) (h : l.length = 16) : (List.range 16).map (fun i => l.getD i 0) = l := by
  apply List.ext_getElem
  · simp [h]
  · intro i h1 h2
    simp [List.getD, h2]

set_option maxRecDepth 100000 in
set_option maxHeartbeats 2000000 in
theorem pclamp_any (w : World) (l : List UInt8) (hl : l.length = 16) :
    Calls Tryd.prog 97 #[.agg (l.map bv).toArray] w fun e w' => e = .returned (.agg ((clampL l).map bv).toArray) ∧ w.grownBy w' none := by
  have hi16 : (Tryd.prog.info? 93).map (·.size) = some 16 := by kernel_rfl
  obtain ⟨A, hA⟩ : ∃ A : Array Value, A = (l.map bv).toArray := ⟨_, rfl⟩
  obtain ⟨Z, hZ⟩ : ∃ A : Array Value, A = (zero16L.map bv).toArray := ⟨_, rfl⟩
  have hz : ∀ w : World, (zeroValue 93).run Tryd.prog w = .ok (.agg Z) w := by rw [hZ]; exact zero16b
  obtain ⟨W1, hW1⟩ : ∃ W1, W1 = (w.alloc (.cells A 93)).alloc (.cells Z 93) := ⟨_, rfl⟩
  have hg : w.grownBy W1 none := by rw [hW1]; exact gb_alloc (gb_alloc (gb_refl _ _) _) _
  have hB1 : Blk W1 w.heap.size 93 ((stepL 16 0 (clamF l) (fun i => l.getD i 0)).map bv) := by
    rw [hW1, hA, stepL_none, clam_none l hl]; exact (Blk.new w 93 _).alloc _
  have hR1 : Blk W1 (w.heap.size + 1) 93 (zero16L.map bv) := by
    have := Blk.new (w.alloc (.cells A 93)) 93 (zero16L.map bv)
    rw [World.size_alloc, ← hZ] at this
    rw [hW1]; exact this
  rw [← hA]
  have HL := hide hl
  have HW1 := hide hW1
  have HB1 := hide hB1
  have HR1 := hide hR1
  clear hl hA hZ hW1 hB1 hR1
  go_enter Tryd.func97, Tryd.ntmps97
  go_wp2
  rw [← unhide HW1]
  go_loopw [4] (fun i wr => ∃ k : Nat, k ≤ 16 ∧ i = .int .i64 (k : Int) ∧ Blk wr w.heap.size 93 ((stepL 16 k (clamF l) (fun i => l.getD i 0)).map bv) ∧ Blk wr (w.heap.size + 1) 93 (zero16L.map bv) ∧ w.grownBy wr none) (fun i _ => 16 - (intOf i).toNat)
  case atStart => exact ⟨0, Nat.zero_le _, rfl, unhide HB1, unhide HR1, hg⟩
  case round =>
    clear HB1 HR1 hg HW1
    obtain ⟨k, hk, rfl, hB, hR, hg⟩ := hrel
    by_cases hlt : k < 16
    · obtain ⟨x, hx⟩ : ∃ x, x = (l.getD k 0).toNat := ⟨_, rfl⟩
      have hx8 : x < 256 := by rw [hx]; exact UInt8.toNat_lt _
      have hcb : wr.cell? ⟨w.heap.size, k, none⟩ = some (.int .u8 (x : Int)) := by
        rw [hB.cell, List.getElem?_map, stepL_at _ _ _ _ _ hlt, if_neg (by omega), hx]; rfl
      have hfb := hB.fz k
      have a15 := and15 x hx8
      have a252 := and252 x hx8
      obtain ⟨y, hy⟩ : ∃ y, y = (clamF l k).toNat := ⟨_, rfl⟩
      have hB2 : Blk (wr.setCell ⟨w.heap.size, k, none⟩ (.int .u8 (y : Int))) w.heap.size 93 ((stepL 16 (k + 1) (clamF l) (fun i => l.getD i 0)).map bv) := by
        rw [← stepL_set, List.map_set, hy]; exact hB.set k (bv (clamF l k))
      have hR2 : Blk (wr.setCell ⟨w.heap.size, k, none⟩ (.int .u8 (y : Int))) (w.heap.size + 1) 93 (zero16L.map bv) := hR.other _ _ (by simp)
      have hG2 : w.grownBy (wr.setCell ⟨w.heap.size, k, none⟩ (.int .u8 (y : Int))) none := gb_setCell hg _ _ (Or.inl (by simp))
      have HY := hide hy
      have HX := hide hx
      have HB2 := hide hB2
      have HR2 := hide hR2
      have HG2 := hide hG2
      clear hy hx hB2 hR2 hG2
      by_cases h3 : k % 4 = 3
      · have hyx : y = x % 16 := by
          rw [unhide HY, clamF, clampB, if_pos h3, b8_mod16, ← unhide HX]
        rw [← hyx] at a15
        clear hB hR hyx a252
        rcases (show k = 3 ∨ k = 7 ∨ k = 11 ∨ k = 15 by omega) with rfl | rfl | rfl | rfl
        · rw [show ((3 : Nat) : Int) = 3 from rfl]
          clear h3
          go_wp2
          go_roundw
          case rel => exact ⟨3 + 1, by omega, by go_num, unhide HB2, unhide HR2, unhide HG2⟩
          case measure => simp [intOf]
        · rw [show ((7 : Nat) : Int) = 7 from rfl]
          clear h3
          go_wp2
          go_roundw
          case rel => exact ⟨7 + 1, by omega, by go_num, unhide HB2, unhide HR2, unhide HG2⟩
          case measure => simp [intOf]
        · rw [show ((11 : Nat) : Int) = 11 from rfl]
          clear h3
          go_wp2
          go_roundw
          case rel => exact ⟨11 + 1, by omega, by go_num, unhide HB2, unhide HR2, unhide HG2⟩
          case measure => simp [intOf]
        · rw [show ((15 : Nat) : Int) = 15 from rfl]
          clear h3
          go_wp2
          go_roundw
          case rel => exact ⟨15 + 1, by omega, by go_num, unhide HB2, unhide HR2, unhide HG2⟩
          case measure => simp [intOf]
      · by_cases h0 : k % 4 = 0 ∧ 0 < k
        · have hyx : y = x / 4 * 4 := by
            rw [unhide HY, clamF, clampB, if_neg h3, if_pos h0, b8_low4, ← unhide HX]
          rw [← hyx] at a252
          clear hB hR hyx a15
          rcases (show k = 4 ∨ k = 8 ∨ k = 12 by omega) with rfl | rfl | rfl
          · rw [show ((4 : Nat) : Int) = 4 from rfl]
            clear h3
            go_wp2
            go_roundw
            case rel => exact ⟨4 + 1, by omega, by go_num, unhide HB2, unhide HR2, unhide HG2⟩
            case measure => simp [intOf]
          · rw [show ((8 : Nat) : Int) = 8 from rfl]
            clear h3
            go_wp2
            go_roundw
            case rel => exact ⟨8 + 1, by omega, by go_num, unhide HB2, unhide HR2, unhide HG2⟩
            case measure => simp [intOf]
          · rw [show ((12 : Nat) : Int) = 12 from rfl]
            clear h3
            go_wp2
            go_roundw
            case rel => exact ⟨12 + 1, by omega, by go_num, unhide HB2, unhide HR2, unhide HG2⟩
            case measure => simp [intOf]
        · have hyx : clamF l k = l.getD k 0 := by rw [clamF, clampB, if_neg h3, if_neg h0]
          have hB3 : Blk wr w.heap.size 93 ((stepL 16 (k + 1) (clamF l) (fun i => l.getD i 0)).map bv) := by
            have e : stepL 16 (k + 1) (clamF l) (fun i => l.getD i 0) = stepL 16 k (clamF l) (fun i => l.getD i 0) := by
              rw [← stepL_set]
              apply List.ext_getElem
              · simp
              · intro i h1 h2
                rw [List.getElem_set]
                by_cases e : k = i
                · subst e; rw [if_pos rfl, hyx]; simp [stepL]
                · rw [if_neg e]
            rw [e]; exact hB
          have n1 : ¬ (k : Int) = 3 := by omega
          have n2 : ¬ (k : Int) = 7 := by omega
          have n3 : ¬ (k : Int) = 11 := by omega
          have n4 : ¬ (k : Int) = 15 := by omega
          have n5 : ¬ (k : Int) = 4 := by omega
          have n6 : ¬ (k : Int) = 8 := by omega
          have n7 : ¬ (k : Int) = 12 := by omega
          have k0 : (0 : Int) ≤ (k : Int) := by omega
          have k1 : (k : Int) < 16 := by omega
          have HB3 := hide hB3
          have HR := hide hR
          clear hB hB3 hR hyx a15 a252 HB2 HR2 HG2 hcb hfb h3 h0 HX HY hx8
          go_wp2
          go_roundw
          case rel => exact ⟨k + 1, by omega, by go_num, unhide HB3, unhide HR, hg⟩
          case measure => simp [intOf]; omega
    · obtain rfl : k = 16 := by omega
      rw [stepL_all, clam_all l (unhide HL)] at hB
      rw [show ((16 : Nat) : Int) = 16 from rfl]
      obtain ⟨C, hC⟩ : ∃ C, C = clampL l := ⟨_, rfl⟩
      rw [← hC] at hB
      have hsz : ((C.map bv).toArray).size = 16 := by rw [hC]; simp [clampL_length, unhide HL]
      have hS := hR.row (C.map bv)
      have hG : w.grownBy (wr.setRow (w.heap.size + 1) (C.map bv).toArray) none := gb_row hg _ (Or.inl (by omega))
      have HB := hide hB
      have HR := hide hR
      have HSZ := hide hsz
      have HC := hide hC
      have HS := hide hS
      have HG := hide hG
      clear hB hR hsz hC hS hG
      go_wp2_with (first
        | (refine wpList_load_row rfl 93 _ rfl w.heap.size rfl _ _ _ _ (unhide HB) Tryd.underlying93 rfl ?_ ?_; (rw [unhide HSZ]; exact hi16))
        | (refine wpList_store_row rfl 93 _ _ rfl (w.heap.size + 1) _ rfl rfl _ _ (unhide HR) ?_ ?_ ?_ ?_; (rw [unhide HSZ]; exact hi16); (rw [unhide HSZ]; rfl); (exact all_oneCell_toArray (bv_one _))))
      refine bodyPost_ret (v := .agg (C.map bv).toArray) (results_cell_row (g := w.heap.size + 1) rfl _ _ _ _ _ _ ?_ (unhide HS) Tryd.underlying93 rfl ?_) rfl ⟨by rw [unhide HC], unhide HG⟩
      · rfl
      · rw [unhide HSZ]; exact hi16
end Go.Proofs.YtjckdgapefaokaaDoor

/- What poly's clamped answers: the clamped bytes' number, in limbs. No condition but that the bytes are sixteen. -/
namespace Go.Proofs.YtjckdgapefaokaaDoor
open Go.RowKit

theorem leN_lt16 (l : List UInt8) (h : l.length ≤ 16) : leN l < t130 := by
  have h1 := leN_lt l
  have h2 : (256 : Nat) ^ l.length ≤ 256 ^ 16 := Nat.pow_le_pow_right (by omega) h
  have h3 : (256 : Nat) ^ 16 < t130 := by decide
  omega

theorem step_new {w W1 w2 W3 : World} {z : List Value} {Y : Array Value} {C : List UInt8} (h3 : W3 = w2.alloc (.cells Y 93)) (hY : Y = (zero16L.map bv).toArray) (g2 : W1.grownBy w2 none) (hR : Blk W1 (w.heap.size + 1) 132 z) (hg : w.grownBy W1 none) :
    ∃ W4, W4 = W3.setRow w2.heap.size (C.map bv).toArray ∧ Blk W4 w2.heap.size 93 (C.map bv) ∧ Blk W4 (w.heap.size + 1) 132 z ∧ w.grownBy W4 none := by
  have h2 := hR.kept g2 (by simp)
  have l2 := h2.lt
  have hn : Blk W3 w2.heap.size 93 (zero16L.map bv) := by rw [h3, hY]; exact Blk.new w2 _ _
  subst h3
  exact ⟨_, rfl, hn.row _, (h2.alloc _).row_other _ _ (by omega), gb_row (gb_alloc (gb_trans hg g2 (fun _ e => by cases e)) _) _ (Or.inl (by omega))⟩

set_option maxRecDepth 100000 in
set_option maxHeartbeats 1000000 in
theorem clamped_any (w : World) (l : List UInt8) (hl : l.length = 16) :
    Calls Tryd.prog 72 #[.agg (l.map bv).toArray] w fun e w' => ∃ n, Lim n ∧ v26 n = leN (clampL l) ∧ e = .returned (num n) ∧ w.grownBy w' none := by
  have hi16 : (Tryd.prog.info? 93).map (·.size) = some 16 := by kernel_rfl
  obtain ⟨A, hA⟩ : ∃ A : Array Value, A = (l.map bv).toArray := ⟨_, rfl⟩
  have hAs : A.size = 16 := by rw [hA]; simp [hl]
  obtain ⟨Z, hZ⟩ : ∃ A : Array Value, A = (zero5L.map nv).toArray := ⟨_, rfl⟩
  have hz := zero5
  rw [← hZ] at hz
  obtain ⟨Y, hY⟩ : ∃ A : Array Value, A = (zero16L.map bv).toArray := ⟨_, rfl⟩
  have hy : ∀ w : World, (zeroValue 93).run Tryd.prog w = .ok (.agg Y) w := by rw [hY]; exact zero16b
  obtain ⟨W1, hW1⟩ : ∃ W1, W1 = (w.alloc (.cells A 93)).alloc (.cells Z 132) := ⟨_, rfl⟩
  have hg : w.grownBy W1 none := by rw [hW1]; exact gb_alloc (gb_alloc (gb_refl _ _) _) _
  have hB1 : W1.heap[w.heap.size]? = some (.cells A 93 (0, 0)) := by
    have := (Blk.new w 93 (l.map bv)).alloc (.cells Z 132)
    rw [hW1, hA]; exact this
  have hR1 : Blk W1 (w.heap.size + 1) 132 (zero5L.map nv) := by
    have := Blk.new (w.alloc (.cells A 93)) 132 (zero5L.map nv)
    rw [World.size_alloc, ← hZ] at this
    rw [hW1]; exact this
  obtain ⟨C, hC⟩ : ∃ C, C = clampL l := ⟨_, rfl⟩
  have hCl : C.length = 16 := by rw [hC, clampL_length, hl]
  have hsC : ((C.map bv).toArray).size = 16 := by simp [hCl]
  have hpc := pclamp_any W1 l hl
  rw [← hA, ← hC] at hpc
  rw [← hA, ← hC]
  have hsl : ∀ (b : Nat) (W : World), (Instr.sliceAt 93 (.pointer (some ⟨b, 0, none⟩)) none none none).run Tryd.prog W = .ok (.slice (some ⟨b, 0, none⟩) 16 16) W := fun b W => slice_whole5 93 5 16 Tryd.underlying93 size_byte b 0 (by omega) W
  have HW1 := hide hW1
  have HB1 := hide hB1
  have HR1 := hide hR1
  have HAS := hide hAs
  have HSC := hide hsC
  have HCL := hide hCl
  have HY := hide hY
  clear hl hA hAs hZ hY hW1 hB1 hR1 hC hCl hsC
  go_enter Tryd.func72, Tryd.ntmps72
  go_wp2_with (first
    | (rw [← unhide HW1]; refine wpList_load_row rfl 93 _ rfl w.heap.size rfl _ _ _ _ (unhide HB1) Tryd.underlying93 rfl ?_ ?_; (rw [unhide HAS]; exact hi16))
    | (go_at_call 97; refine hpc.mono ?_; rintro e w2 ⟨rfl, g2⟩; clear hpc; obtain ⟨W3, hW3⟩ : ∃ W3, W3 = w2.alloc (.cells Y 93) := ⟨_, rfl⟩; have HW3 := hide hW3; clear hW3)
    | (rw [← unhide HW3]; refine wpList_store_row rfl 93 _ _ rfl w2.heap.size _ rfl rfl _ _ (by rw [unhide HW3]; exact heap_alloc_new _ _) ?_ ?_ ?_ ?_; (rw [unhide HSC]; exact hi16); (rw [unhide HSC, unhide HY]; rfl); (exact all_oneCell_toArray (bv_one _)); obtain ⟨W4, hW4, hC4, hR4, hg4⟩ : ∃ W4, W4 = W3.setRow w2.heap.size (C.map bv).toArray ∧ Blk W4 w2.heap.size 93 (C.map bv) ∧ Blk W4 (w.heap.size + 1) 132 (zero5L.map nv) ∧ w.grownBy W4 none := step_new (unhide HW3) (unhide HY) g2 (unhide HR1) hg; rw [← hW4]; have HR4 := hide hR4; have hnum := numberOf_any W4 (some ⟨w2.heap.size, 0, none⟩) 16 C (blk_bytes hC4 16 (by rw [unhide HCL]; omega) (by decide)) (by rw [unhide HCL]; omega) (leN_lt16 C (by rw [unhide HCL]; omega)); rw [unhide HCL] at hnum; clear hW4 hC4 hR4)
    | (go_at_call 73; refine hnum.mono ?_; rintro e w5 ⟨n, nl, nval, rfl, g5⟩; clear hnum; have hR5 := (unhide HR4).kept g5 (by simp); have hsn := num_size n nl.1; have hin := info5n n nl.1; have HSN := hide hsn; have HIN := hide hin; have HNL := hide nl; have HNV := hide nval; clear hsn hin nl nval; (unfold num))
    | (refine wpList_store_row rfl 132 _ _ rfl (w.heap.size + 1) _ rfl rfl _ _ hR5 ?_ ?_ ?_ ?_; (exact unhide HIN); (rw [unhide HSN]; rfl); (exact all_oneCell_toArray (nv_one _))))
  have hS := hR5.row (n.map nv)
  refine bodyPost_ret (v := num n) (results_cell_row (g := w.heap.size + 1) rfl _ _ _ _ _ _ ?_ hS Tryd.underlying132 rfl (unhide HIN)) rfl ⟨n, unhide HNL, unhide HNV, rfl, ?_⟩
  · rfl
  · exact gb_row (gb_trans hg4 g5 (fun _ e => by cases e)) _ (Or.inl (by omega))

end Go.Proofs.YtjckdgapefaokaaDoor

/- What poly's least answers: the number modulo 2 to the 130, but for 5, in limbs that are carried on. No condition but that the number's limbs are as times makes them. -/
namespace Go.Proofs.YtjckdgapefaokaaDoor
open Go.RowKit

theorem lin5_lt (n : List Nat) (h : Lin5 n) (k : Nat) : n.getD k 0 < 67108869 := by
  rcases Nat.eq_zero_or_pos k with e | e
  · rw [e]; exact h.2.1
  · have := h.2.2 k e; omega

theorem step6 {w W4 w5 W6 : World} {Z : Obj} {n : List Value} {z : List Value} {A : Array Value} (h6 : W6 = w5.alloc Z) (g5 : W4.grownBy w5 none) (hN : Blk W4 w.heap.size 132 n) (hR : Blk W4 (w.heap.size + 1) 132 z) (hg : w.grownBy W4 none) :
    ∃ W7, W7 = W6.setRow w5.heap.size A ∧ Blk W7 w.heap.size 132 n ∧ Blk W7 (w.heap.size + 1) 132 z ∧ w.grownBy W7 none := by
  have h1 := hN.kept g5 (by simp)
  have h2 := hR.kept g5 (by simp)
  have l1 := h1.lt
  have l2 := h2.lt
  subst h6
  exact ⟨_, rfl, (h1.alloc _).row_other _ _ (by omega), (h2.alloc _).row_other _ _ (by omega), gb_row (gb_alloc (gb_trans hg g5 (fun _ e => by cases e)) _) _ (Or.inl (by omega))⟩
theorem step8 {w W7 : World} {n Y : List Nat} {z : List Value} {x o : Nat} (hx : x = n.getD 0 0) (hY : Y = n.set 0 (x + 5 * o)) (hn : n.length = 5) (hN : Blk W7 w.heap.size 132 (n.map nv)) (hR : Blk W7 (w.heap.size + 1) 132 z) (hg : w.grownBy W7 none) :
    ∃ W8, W8 = W7.setCell ⟨w.heap.size, 0, none⟩ (.int .u64 ((x : Int) + 5 * (o : Int))) ∧ Blk W8 w.heap.size 132 (Y.map nv) ∧ Blk W8 (w.heap.size + 1) 132 z ∧ w.grownBy W8 none ∧ W7.cell? ⟨w.heap.size, 0, none⟩ = some (.int .u64 (x : Int)) ∧ W7.frozen? ⟨w.heap.size, 0, none⟩ = false := by
  refine ⟨_, rfl, ?_, hR.other _ _ (by simp), gb_setCell hg _ _ (Or.inl (by simp)), ?_, hN.fz 0⟩
  · rw [hY, List.map_set]; exact hN.set 0 (nv (x + 5 * o))
  · rw [hN.cell, nv_at n 0 (by omega), hx]

set_option maxRecDepth 100000 in
set_option maxHeartbeats 1000000 in
theorem least5_any (w : World) (n : List Nat) (hn : Lin5 n) :
    Calls Tryd.prog 77 #[num n] w fun e w' => ∃ c, Lim c ∧ v26 c = v26 n % pN ∧ e = .returned (num c) ∧ w.grownBy w' none := by
  have hlv := least_val n hn
  have hn5 := hn.1
  have hlt := lin5_lt n hn
  obtain ⟨A, hA⟩ : ∃ A : Array Value, A = (n.map nv).toArray := ⟨_, rfl⟩
  obtain ⟨Z, hZ⟩ : ∃ A : Array Value, A = (zero5L.map nv).toArray := ⟨_, rfl⟩
  have hz := zero5
  rw [← hZ] at hz
  obtain ⟨x, hx⟩ : ∃ x, x = n.getD 0 0 := ⟨_, rfl⟩
  have hx9 : x < 67108869 := by rw [hx]; exact hlt 0
  obtain ⟨M, hM⟩ : ∃ M, M = n.set 0 (x + 5) := ⟨_, rfl⟩
  have hMl : M.length = 5 := by rw [hM]; simp [hn5]
  have hMb : ∀ k, M.getD k 0 < 2 ^ 62 := fun k => by
    rw [hM, set_getD n 0 k _ (by omega)]
    have := hlt k
    by_cases e : k = 0
    · rw [if_pos e]; omega
    · rw [if_neg e]; omega
  obtain ⟨o, ho⟩ : ∃ o, o = ovr M 5 := ⟨_, rfl⟩
  have hob : o < 2 ^ 37 := by rw [ho]; exact ovr_lt M hMb 5
  obtain ⟨Y, hY⟩ : ∃ Y, Y = n.set 0 (x + 5 * o) := ⟨_, rfl⟩
  have hYl : Y.length = 5 := by rw [hY]; simp [hn5]
  have hYb : ∀ k, Y.getD k 0 < 2 ^ 62 := fun k => by
    rw [hY, set_getD n 0 k _ (by omega)]
    have := hlt k
    by_cases e : k = 0
    · rw [if_pos e]; omega
    · rw [if_neg e]; omega
  obtain ⟨C, hC⟩ : ∃ C, C = cutL Y := ⟨_, rfl⟩
  have hCl : Lim C := by rw [hC]; exact cutL_lim Y
  have hCv : v26 C = v26 n % pN := by rw [hC, hY, ho, hM, hx]; exact hlv
  obtain ⟨CM, hCM⟩ : ∃ C, C = cutL M := ⟨_, rfl⟩
  have hCMl : CM.length = 5 := by rw [hCM]; exact cutL_length M
  have hc1 : ∀ W, Calls Tryd.prog 76 #[.agg (M.map nv).toArray] W fun e w' => e = .returned (.tuple #[.agg (CM.map nv).toArray, .int .u64 (o : Int)]) ∧ W.grownBy w' none := fun W => by
    rw [hCM, ho]; exact carried5_any W M hMl hMb
  have hc2 : ∀ W, Calls Tryd.prog 76 #[.agg (Y.map nv).toArray] W fun e w' => e = .returned (.tuple #[.agg (C.map nv).toArray, nv (ovr Y 5)]) ∧ W.grownBy w' none := fun W => by
    rw [hC]; exact carried5_any W Y hYl hYb
  have e1 : (x : Int) + 5 = ((x + 5 : Nat) : Int) := by omega
  have e2 : IntKind.u64.wrap ((x : Int) + 5) = (x : Int) + 5 := by rw [IntKind.wrap_u64]; omega
  have e3 : ((x : Int) + 5) % 18446744073709551616 = (x : Int) + 5 := by omega
  have e4 : ((5 : Int) * (o : Int)) % 18446744073709551616 = 5 * (o : Int) := by omega
  have e5 : IntKind.u64.wrap ((5 : Int) * (o : Int)) = 5 * (o : Int) := by rw [IntKind.wrap_u64]; omega
  have e6 : ((x : Int) + 5 * (o : Int)) % 18446744073709551616 = (x : Int) + 5 * (o : Int) := by omega
  have e7 : IntKind.u64.wrap ((x : Int) + 5 * (o : Int)) = (x : Int) + 5 * (o : Int) := by rw [IntKind.wrap_u64]; omega
  -- the worlds ahead of the first call
  obtain ⟨W1, hW1⟩ : ∃ W1, W1 = (w.alloc (.cells A 132)).alloc (.cells Z 132) := ⟨_, rfl⟩
  have hs1 : W1.heap.size = w.heap.size + 2 := by rw [hW1, World.size_alloc, World.size_alloc]
  have hg1 : w.grownBy W1 none := by rw [hW1]; exact gb_alloc (gb_alloc (gb_refl _ _) _) _
  have hN1 : Blk W1 w.heap.size 132 (n.map nv) := by rw [hW1, hA]; exact (Blk.new w 132 _).alloc _
  have hR1 : Blk W1 (w.heap.size + 1) 132 (zero5L.map nv) := by
    have := Blk.new (w.alloc (.cells A 132)) 132 (zero5L.map nv)
    rw [World.size_alloc] at this
    rw [hW1, hZ]; exact this
  obtain ⟨W2, hW2⟩ : ∃ W2, W2 = W1.alloc (.cells Z 132) := ⟨_, rfl⟩
  have hM2 : Blk W2 (w.heap.size + 2) 132 (zero5L.map nv) := by
    have := Blk.new W1 132 (zero5L.map nv)
    rw [hs1] at this
    rw [hW2, hZ]; exact this
  obtain ⟨W3, hW3⟩ : ∃ W3, W3 = W2.setRow (w.heap.size + 2) A := ⟨_, rfl⟩
  have hM3 : Blk W3 (w.heap.size + 2) 132 (n.map nv) := by rw [hW3, hA]; exact hM2.row _
  obtain ⟨W4, hW4⟩ : ∃ W4, W4 = W3.setCell ⟨w.heap.size + 2, 0, none⟩ (.int .u64 ((x : Int) + 5)) := ⟨_, rfl⟩
  have hM4 : Blk W4 (w.heap.size + 2) 132 (M.map nv) := by
    rw [hW4, hM, List.map_set]; exact hM3.set 0 (nv (x + 5))
  have hN4 : Blk W4 w.heap.size 132 (n.map nv) := by
    rw [hW4, hW3, hW2]; exact ((hN1.alloc _).row_other _ _ (by omega)).other _ _ (by simp)
  have hR4 : Blk W4 (w.heap.size + 1) 132 (zero5L.map nv) := by
    rw [hW4, hW3, hW2]; exact ((hR1.alloc _).row_other _ _ (by omega)).other _ _ (by simp)
  have hg4 : w.grownBy W4 none := by
    rw [hW4, hW3, hW2]; exact gb_setCell (gb_row (gb_alloc hg1 _) _ (Or.inl (by omega))) _ _ (Or.inl (by simp))
  have hc3 : W3.cell? ⟨w.heap.size + 2, 0, none⟩ = some (.int .u64 (x : Int)) := by
    rw [hM3.cell, nv_at n 0 (by omega), hx]
  have hf3 := hM3.fz 0
  have hN1' : W1.heap[w.heap.size]? = some (.cells A 132 (0, 0)) := by rw [hA]; exact hN1
  have hsA : A.size = 5 := by rw [hA]; exact num_size n hn5
  have hiA : (Tryd.prog.info? 132).map (·.size) = some A.size := by rw [hsA]; exact info5
  have hone : A.all (·.oneCell') = true := by rw [hA]; exact all_oneCell_toArray (nv_one _)
  have hiM := info5n M hMl
  have hiCM := info5n CM hCMl
  have hsCM := num_size CM hCMl
  have hiY := info5n Y hYl
  have hsY := num_size Y hYl
  have hiC := info5n C hCl.1
  have hsC := num_size C hCl.1
  have hsn := num_size n hn5
  show Calls Tryd.prog 77 #[.agg (n.map nv).toArray] w _
  rw [← hA]
  have HW1 := hide hW1
  have HW2 := hide hW2
  have HW3 := hide hW3
  have HW4 := hide hW4
  have HN1 := hide hN1'
  have HM2 := hide hM2
  have HM4 := hide hM4
  have HN4 := hide hN4
  have HR4 := hide hR4
  have HIA := hide hiA
  have HSA := hide hsA
  have HONE := hide hone
  have HIM := hide hiM
  have HICM := hide hiCM
  have HSCM := hide hsCM
  have HIY := hide hiY
  have HSY := hide hsY
  have HIC := hide hiC
  have HSC := hide hsC
  have HSN := hide hsn
  have HCL := hide hCl
  have HCV := hide hCv
  have HX := hide hx
  have HN5 := hide hn5
  have HY := hide hY
  have HZ := hide hZ
  clear hlv hn5 hlt hA hZ hx hx9 hM hMl hMb ho hob hY hYl hYb hC hCl hCv hCM hCMl e1 hW1 hN1 hR1 hW2 hM2 hW3 hM3 hW4 hM4 hN4 hR4 hN1' hsA hiA hone hiM hiCM hsCM hiY hsY hiC hsC hsn hn hg1
  go_enter Tryd.func77, Tryd.ntmps77
  go_wp2_with (first
    | (rw [← unhide HW1]; refine wpList_load_row rfl 132 _ rfl w.heap.size rfl _ _ _ _ (unhide HN1) Tryd.underlying132 rfl ?_ ?_; (exact unhide HIA))
    | (rw [← unhide HW2]; refine wpList_store_row rfl 132 _ _ rfl (w.heap.size + 2) _ rfl rfl _ _ (unhide HM2) ?_ ?_ ?_ ?_; (exact unhide HIA); (rw [unhide HSA]; rfl); (exact unhide HONE); rw [← unhide HW3])
    | (rw [← unhide HW4]; refine wpList_load_row rfl 132 _ rfl (w.heap.size + 2) rfl _ _ _ _ (unhide HM4) Tryd.underlying132 rfl ?_ ?_; (exact unhide HIM); clear hf3 hc3)
    | (go_at_call 76; refine (hc1 _).mono ?_; rintro e w5 ⟨rfl, g5⟩; clear hc1; obtain ⟨W6, hW6⟩ : ∃ W6, W6 = w5.alloc (.cells Z 132) := ⟨_, rfl⟩; have HW6 := hide hW6; clear hW6)
    | (rw [← unhide HW6]; refine wpList_store_row rfl 132 _ _ rfl w5.heap.size _ rfl rfl _ _ (by rw [unhide HW6]; exact heap_alloc_new _ _) ?_ ?_ ?_ ?_; (exact unhide HICM); (rw [unhide HSCM, unhide HZ]; rfl); (exact all_oneCell_toArray (nv_one _)); obtain ⟨W7, hW7, hN7, hR7, hg7⟩ : ∃ W7, W7 = W6.setRow w5.heap.size (CM.map nv).toArray ∧ Blk W7 w.heap.size 132 (n.map nv) ∧ Blk W7 (w.heap.size + 1) 132 (zero5L.map nv) ∧ w.grownBy W7 none := step6 (unhide HW6) g5 (unhide HN4) (unhide HR4) hg4; rw [← hW7]; obtain ⟨W8, hW8, hN8, hR8, hg8, hc7, hf7⟩ : ∃ W8, W8 = W7.setCell ⟨w.heap.size, 0, none⟩ (.int .u64 ((x : Int) + 5 * (o : Int))) ∧ Blk W8 w.heap.size 132 (Y.map nv) ∧ Blk W8 (w.heap.size + 1) 132 (zero5L.map nv) ∧ w.grownBy W8 none ∧ W7.cell? ⟨w.heap.size, 0, none⟩ = some (.int .u64 (x : Int)) ∧ W7.frozen? ⟨w.heap.size, 0, none⟩ = false := step8 (unhide HX) (unhide HY) (unhide HN5) hN7 hR7 hg7; have HW8 := hide hW8; have HN8 := hide hN8; have HR8 := hide hR8; clear hW7 hN7 hR7 hg7 hW8 hN8 hR8)
    | (rw [← unhide HW8]; refine wpList_load_row rfl 132 _ rfl w.heap.size rfl _ _ _ _ (unhide HN8) Tryd.underlying132 rfl ?_ ?_; (exact unhide HIY))
    | (go_at_call 76; refine (hc2 _).mono ?_; rintro e w9 ⟨rfl, g9⟩; clear hc2; have hN9 := (unhide HN8).kept g9 (by simp); have hR9 := (unhide HR8).kept g9 (by simp); have hN10 := hN9.row (C.map nv); have hR10 := hR9.row_other w.heap.size (C.map nv).toArray (by omega); have HN9 := hide hN9; have HN10 := hide hN10; have HR10 := hide hR10; clear hN9 hR9 hN10 hR10)
    | (refine wpList_store_row rfl 132 _ _ rfl w.heap.size _ rfl rfl _ _ (unhide HN9) ?_ ?_ ?_ ?_; (exact unhide HIC); (rw [unhide HSC, unhide HSY]); (exact all_oneCell_toArray (nv_one _)); clear HN9)
    | (refine wpList_load_row rfl 132 _ rfl w.heap.size rfl _ _ _ _ (unhide HN10) Tryd.underlying132 rfl ?_ ?_; (exact unhide HIC))
    | (refine wpList_store_row rfl 132 _ _ rfl (w.heap.size + 1) _ rfl rfl _ _ (unhide HR10) ?_ ?_ ?_ ?_; (exact unhide HIC); (rw [unhide HSC]; rfl); (exact all_oneCell_toArray (nv_one _))))
  have hS := (unhide HR10).row (C.map nv)
  refine bodyPost_ret (v := num C) (results_cell_row (g := w.heap.size + 1) rfl _ _ _ _ _ _ ?_ hS Tryd.underlying132 rfl (unhide HIC)) rfl ⟨C, unhide HCL, unhide HCV, rfl, ?_⟩
  · rfl
  · exact gb_row (gb_row (gb_trans hg8 g9 (fun _ e => by cases e)) _ (Or.inl (Nat.le_refl _))) _ (Or.inl (by omega))
end Go.Proofs.YtjckdgapefaokaaDoor
