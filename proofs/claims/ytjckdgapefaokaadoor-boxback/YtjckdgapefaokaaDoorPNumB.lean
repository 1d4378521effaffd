/- What poly's numberOf and times answer. No condition but the bounds that each lemma names. -/
import Derived.Test.YtjckdgapefaokaaDoorPNum
namespace Go.Proofs.YtjckdgapefaokaaDoor
open Go.RowKit

theorem leN_take_succ (l : List UInt8) (k : Nat) (h : k < l.length) : leN (l.take (k + 1)) = leN (l.take k) + 256 ^ k * l[k].toNat := by
  unfold leN
  rw [List.map_take, List.map_take, take_getD]
  simp [List.getD, h]
theorem shl_fit (x r : Nat) (hx : x < 256) (hr : r < 26) : x * 2 ^ r < 2 ^ 34 := by
  have h1 : 2 ^ r ≤ 2 ^ 25 := Nat.pow_le_pow_right (by omega) (by omega)
  have h2 : x * 2 ^ r ≤ 255 * 2 ^ 25 := Nat.mul_le_mul (by omega) h1
  omega

set_option maxRecDepth 100000 in
set_option maxHeartbeats 1000000 in
theorem numberOf_any (w : World) (ao : Option Addr) (c : Nat) (l : List UInt8) (hb : Bts w ao c l) (hl : l.length ≤ 17) (hv : leN l < t130) :
    Calls Tryd.prog 73 #[.slice ao l.length c] w fun e w' => ∃ n, Lim n ∧ v26 n = leN l ∧ e = .returned (num n) ∧ w.grownBy w' none := by
  obtain ⟨Z, hZ⟩ : ∃ A : Array Value, A = (zero5L.map nv).toArray := ⟨_, rfl⟩
  have hz := zero5
  rw [← hZ] at hz
  obtain ⟨W1, hW1⟩ : ∃ W1, W1 = (w.alloc (.cells Z 132)).alloc (.cells Z 132) := ⟨_, rfl⟩
  have hg : w.grownBy W1 none := by rw [hW1]; exact gb_alloc (gb_alloc (gb_refl _ _) _) _
  have hR1 : Blk W1 w.heap.size 132 (zero5L.map nv) := by rw [hW1, hZ]; exact (Blk.new w 132 _).alloc _
  have hN1 : Blk W1 (w.heap.size + 1) 132 (zero5L.map nv) := by
    have := Blk.new (w.alloc (.cells Z 132)) 132 (zero5L.map nv)
    rw [World.size_alloc] at this
    rw [hZ] at this
    rw [hW1, hZ]; exact this
  obtain ⟨m, hm⟩ : ∃ m, m = l.length := ⟨_, rfl⟩
  rw [← hm]
  rw [← hm] at hl
  have HM := hide hm
  have HV := hide hv
  have HW1 := hide hW1
  have HR := hide hR1
  have HN := hide hN1
  clear hZ hW1 hR1 hN1 hm hv
  go_enter Tryd.func73, Tryd.ntmps73
  go_wp2
  rw [← unhide HW1]
  go_loopw [9] (fun i wr => ∃ (k : Nat) (n : List Nat), k ≤ m ∧ i = .int .i64 (k : Int) ∧ n.length = 5 ∧ v26 n = leN (l.take k) ∧ (∀ j, n.getD j 0 ≤ k * 2 ^ 34) ∧ Blk wr (w.heap.size + 1) 132 (n.map nv) ∧ Blk wr w.heap.size 132 (zero5L.map nv) ∧ w.grownBy wr none) (fun i _ => m - (intOf i).toNat)
  case atStart =>
    refine ⟨0, zero5L, Nat.zero_le _, rfl, rfl, rfl, fun j => ?_, unhide HN, unhide HR, hg⟩
    match j with
    | 0 => decide
    | 1 => decide
    | 2 => decide
    | 3 => decide
    | 4 => decide
    | j + 5 => rw [getD_out _ _ (by simp [zero5L])]; omega
  case round =>
    clear HR HN hg HW1
    obtain ⟨k, n, hk, rfl, hnl, hnv, hnb, hN, hR, hg⟩ := hrel
    by_cases hlt : k < m
    · have hkl : k < l.length := by rw [← unhide HM]; exact hlt
      obtain ⟨ad, rfl⟩ : ∃ ad, ao = some ad := by
        cases ao with
        | none => have := hb.zip rfl; omega
        | some ad => exact ⟨ad, rfl⟩
      have hcb := (hb.kept hg (fun _ e => by cases e)).cell ad rfl k hkl
      have hsb := hb.shape ad rfl (by omega)
      obtain ⟨ab, aoff, asp⟩ := ad
      simp only at hsb hcb
      subst hsb
      obtain ⟨x, hx⟩ : ∃ x, x = l[k].toNat := ⟨_, rfl⟩
      rw [← hx] at hcb
      have hx8 : x < 256 := by rw [hx]; exact l[k].toNat_lt
      obtain ⟨q, hq⟩ : ∃ q, q = k * 8 / 26 := ⟨_, rfl⟩
      obtain ⟨r, hr⟩ : ∃ r, r = k * 8 % 26 := ⟨_, rfl⟩
      have hr26 : r < 26 := by omega
      have hq5 : q < 5 := by omega
      obtain ⟨s, hs⟩ : ∃ s, s = x * 2 ^ r := ⟨_, rfl⟩
      have hs34 : s < 2 ^ 34 := by rw [hs]; exact shl_fit x r hx8 hr26
      obtain ⟨y, hy⟩ : ∃ y, y = n.getD q 0 := ⟨_, rfl⟩
      have hyb := hnb q
      rw [← hy] at hyb
      have hfz := hN.fz q
      have hcn : wr.cell? ⟨w.heap.size + 1, q, none⟩ = some (.int .u64 (y : Int)) := by
        rw [hN.cell, nv_at n q (by omega), hy]
      have hq0 : (0 : Int) ≤ (q : Int) := by omega
      have hq1 : (q : Int) < 5 := by omega
      have d1 : Int.tdiv ((k : Int) * 8) 26 = (q : Int) := by rw [Int.tdiv_eq_ediv_of_nonneg (by omega)]; omega
      have d2 : (k : Int) * 8 / 26 = (q : Int) := by omega
      have d3 : Int.tmod ((k : Int) * 8) 26 = (r : Int) := by rw [Int.tmod_eq_emod_of_nonneg (by omega)]; omega
      have d4 : (k : Int) * 8 % 26 = (r : Int) := by omega
      have d5 : IntKind.i64.wrap ((k : Int) * 8) = (k : Int) * 8 := by rw [IntKind.wrap_i64]; omega
      have r0 : (0 : Int) ≤ (r : Int) := by omega
      have r1 : ¬ (64 : Int) ≤ (r : Int) := by omega
      have hk1 : (k : Int) < (m : Int) := by omega
      obtain ⟨t, ht⟩ : ∃ t, t = y + s := ⟨_, rfl⟩
      have f1 : IntKind.i64.wrap (q : Int) = (q : Int) := by rw [IntKind.wrap_i64]; omega
      have f2 : IntKind.u64.wrap (x : Int) = (x : Int) := by rw [IntKind.wrap_u64]; omega
      have f3 : IntKind.i64.wrap (r : Int) = (r : Int) := by rw [IntKind.wrap_i64]; omega
      have f4 : (x : Int) % 18446744073709551616 = (x : Int) := by omega
      have e1 : IntKind.u64.wrap (s : Int) = (s : Int) := by rw [IntKind.wrap_u64]; omega
      have e2 : (y : Int) + (s : Int) = (t : Int) := by omega
      have e3 : IntKind.u64.wrap (t : Int) = (t : Int) := by rw [IntKind.wrap_u64]; omega
      have e4 : (t : Int) % 18446744073709551616 = (t : Int) := by omega
      have e5 : (x : Int) * 2 ^ r = (s : Int) := by rw [hs, Int.natCast_mul, Int.natCast_pow]; rfl
      have e6 : (s : Int) % 18446744073709551616 = (s : Int) := by omega
      have hNV : v26 (n.set q t) = leN (l.take (k + 1)) := by
        rw [leN_take_succ l k hkl, ← hx, ← hnv, ht, hy, hs, hq, hr]
        exact number_step n k x hnl (by omega)
      have hNB : ∀ j, (n.set q t).getD j 0 ≤ (k + 1) * 2 ^ 34 := fun j => by
        rw [set_getD n q j t (by omega)]
        have := hnb j
        by_cases e : j = q
        · rw [if_pos e]; omega
        · rw [if_neg e]; exact Nat.le_trans this (Nat.mul_le_mul_right _ (Nat.le_succ k))
      have hB2 : Blk (wr.setCell ⟨w.heap.size + 1, q, none⟩ (.int .u64 (t : Int))).drew (w.heap.size + 1) 132 ((n.set q t).map nv) := by
        rw [List.map_set]; exact (hN.set q (nv t)).drew
      have hR2 : Blk (wr.setCell ⟨w.heap.size + 1, q, none⟩ (.int .u64 (t : Int))).drew w.heap.size 132 (zero5L.map nv) := (hR.other _ _ (by simp)).drew
      have hG2 : w.grownBy (wr.setCell ⟨w.heap.size + 1, q, none⟩ (.int .u64 (t : Int))).drew none := gb_drew (gb_setCell hg _ _ (Or.inl (by simp)))
      have hNL : (n.set q t).length = 5 := by simp [hnl]
      have HNV := hide hNV
      have HNB := hide hNB
      have HB2 := hide hB2
      have HR2 := hide hR2
      have HG2 := hide hG2
      have HNL := hide hNL
      clear hNV hNB hB2 hR2 hG2 hNL hN hR hnb hnv hnl hx hs hs34 hy hyb hq hr ht
      go_wp2
      refine wp_region_noPanic ?_
      refine wp_region_held_drew (S := fun V => True) (by kernel_rfl) trivial (fun _ => ?_)
      refine wpAnyH_take (i := 0) (oi := { dst := some 16, op := Op.move (Operand.tmp 6), type := _, pos := _, after := _, guard := _ }) (v := .int .i64 ((k : Int) * 8)) rfl (by kernel_rfl) (by kernel_rfl) (by kernel_rfl) (fun _ _ _ h => h) (Or.inl ⟨by rfl, fun V (hV : True) => by go_simp⟩) trivial ?_
      (try simp only [Act.put, List.setIfInBounds_toArray, List.set_cons_zero, List.set_cons_succ])
      refine wpAnyH_take (i := 1) (oi := { dst := some 17, op := Op.binOp BinOp.quo 3 (Operand.tmp 16) (Operand.const (Value.int IntKind.i64 26)) 3, type := _, pos := _, after := _, guard := _ }) (v := .int .i64 (q : Int)) rfl (by kernel_rfl) (by kernel_rfl) (by kernel_rfl) (fun _ _ _ h => h) (Or.inl ⟨by rfl, fun V (hV : True) => by go_simp⟩) trivial ?_
      (try simp only [Act.put, List.setIfInBounds_toArray, List.set_cons_zero, List.set_cons_succ])
      refine wpAnyH_take (i := 2) (oi := { dst := some 18, op := Op.indexAddr 132 (Operand.tmp 3) (Operand.tmp 17), type := _, pos := _, after := _, guard := _ }) (v := .pointer (some ⟨w.heap.size + 1, q, none⟩)) rfl (by kernel_rfl) (by kernel_rfl) (by kernel_rfl) (fun _ _ _ h => h) (Or.inl ⟨by rfl, fun V (hV : True) => by go_simp⟩) trivial ?_
      (try simp only [Act.put, List.setIfInBounds_toArray, List.set_cons_zero, List.set_cons_succ])
      refine wpAnyH_take (i := 4) (oi := { dst := some 20, op := Op.move (Operand.tmp 5), type := _, pos := _, after := _, guard := _ }) (v := .int .u8 (x : Int)) rfl (by kernel_rfl) (by kernel_rfl) (by kernel_rfl) (fun _ _ _ h => h) (Or.inl ⟨by rfl, fun V (hV : True) => by go_simp⟩) trivial ?_
      (try simp only [Act.put, List.setIfInBounds_toArray, List.set_cons_zero, List.set_cons_succ])
      refine wpAnyH_take (i := 5) (oi := { dst := some 21, op := Op.convert 5 75 (Operand.tmp 20), type := _, pos := _, after := _, guard := _ }) (v := .int .u64 (x : Int)) rfl (by kernel_rfl) (by kernel_rfl) (by kernel_rfl) (fun _ _ _ h => h) (Or.inl ⟨by rfl, fun V (hV : True) => by go_simp⟩) trivial ?_
      (try simp only [Act.put, List.setIfInBounds_toArray, List.set_cons_zero, List.set_cons_succ])
      refine wpAnyH_take (i := 6) (oi := { dst := some 22, op := Op.move (Operand.tmp 6), type := _, pos := _, after := _, guard := _ }) (v := .int .i64 ((k : Int) * 8)) rfl (by kernel_rfl) (by kernel_rfl) (by kernel_rfl) (fun _ _ _ h => h) (Or.inl ⟨by rfl, fun V (hV : True) => by go_simp⟩) trivial ?_
      (try simp only [Act.put, List.setIfInBounds_toArray, List.set_cons_zero, List.set_cons_succ])
      refine wpAnyH_take (i := 7) (oi := { dst := some 23, op := Op.binOp BinOp.rem 3 (Operand.tmp 22) (Operand.const (Value.int IntKind.i64 26)) 3, type := _, pos := _, after := _, guard := _ }) (v := .int .i64 (r : Int)) rfl (by kernel_rfl) (by kernel_rfl) (by kernel_rfl) (fun _ _ _ h => h) (Or.inl ⟨by rfl, fun V (hV : True) => by go_simp⟩) trivial ?_
      (try simp only [Act.put, List.setIfInBounds_toArray, List.set_cons_zero, List.set_cons_succ])
      refine wpAnyH_take (i := 8) (oi := { dst := some 24, op := Op.binOp BinOp.shl 75 (Operand.tmp 21) (Operand.tmp 23) 3, type := _, pos := _, after := _, guard := _ }) (v := .int .u64 (s : Int)) rfl (by kernel_rfl) (by kernel_rfl) (by kernel_rfl) (fun _ _ _ h => h) (Or.inl ⟨by rfl, fun V (hV : True) => by go_simp⟩) trivial ?_
      (try simp only [Act.put, List.setIfInBounds_toArray, List.set_cons_zero, List.set_cons_succ])
      refine wpAnyH_ready (rs := [3]) (by kernel_rfl) (by simp) ?_
      refine AllReadyH.cons (o := { dst := some 19, op := Op.load 75 (Operand.tmp 18), type := _, pos := _, after := _, guard := _ }) rfl (fun K9 hK9 => ?_) AllReadyH.nil
      go_simp
      refine hK9.out _ _ trivial (fun _ => ?_)
      clear hK9 K9
      (try simp only [Act.put, List.setIfInBounds_toArray, List.set_cons_zero, List.set_cons_succ])
      refine wpAnyH_take (i := 9) (oi := { dst := some 25, op := Op.binOp BinOp.add 75 (Operand.tmp 19) (Operand.tmp 24) 75, type := _, pos := _, after := _, guard := _ }) (v := .int .u64 (t : Int)) rfl (by kernel_rfl) (by kernel_rfl) (by kernel_rfl) (fun _ _ _ h => h) (Or.inl ⟨by rfl, fun V (hV : True) => by go_simp⟩) trivial ?_
      (try simp only [Act.put, List.setIfInBounds_toArray, List.set_cons_zero, List.set_cons_succ])
      refine wpAnyH_take (i := 10) (oi := { dst := some 26, op := Op.indexAddr 132 (Operand.tmp 3) (Operand.tmp 17), type := _, pos := _, after := _, guard := _ }) (v := .pointer (some ⟨w.heap.size + 1, q, none⟩)) rfl (by kernel_rfl) (by kernel_rfl) (by kernel_rfl) (fun _ _ _ h => h) (Or.inl ⟨by rfl, fun V (hV : True) => by go_simp⟩) trivial ?_
      (try simp only [Act.put, List.setIfInBounds_toArray, List.set_cons_zero, List.set_cons_succ])
      refine wpAnyH_ready (rs := [11]) (by kernel_rfl) (by simp) ?_
      refine AllReadyH.cons (o := { dst := none, op := Op.store 75 (Operand.tmp 26) (Operand.tmp 25), type := _, pos := _, after := _, guard := _ }) rfl (fun K9 hK9 => ?_) AllReadyH.nil
      go_simp
      refine hK9.out _ _ trivial (fun _ => ?_)
      clear hK9 K9
      (try simp only [Act.put, List.setIfInBounds_toArray, List.set_cons_zero, List.set_cons_succ])
      refine wpAnyH_done (by kernel_rfl) ?_ _
      refine NoPanic.normal ?_
      go_wp2
      go_roundw
      case rel => exact ⟨k + 1, n.set q t, by omega, by go_num, unhide HNL, unhide HNV, unhide HNB, unhide HB2, unhide HR2, unhide HG2⟩
      case measure => simp [intOf]; omega
    · have c1 : ¬ (k : Int) < (m : Int) := by omega
      obtain rfl : k = m := by omega
      rw [List.take_of_length_le (by rw [unhide HM]; exact Nat.le_refl _)] at hnv
      have hcar := carried5_any wr n hnl (fun j => by have := hnb j; omega)
      obtain ⟨C, hC⟩ : ∃ C, C = cutL n := ⟨_, rfl⟩
      have hCl : Lim C := by rw [hC]; exact cutL_lim n
      have hCv : v26 C = leN l := by rw [hC, cut_val_mod n hnl, hnv, Nat.mod_eq_of_lt (unhide HV)]
      rw [← hC] at hcar
      unfold num at hcar
      have hi := info5n n hnl
      have hiC := info5n C hCl.1
      have hsn := num_size n hnl
      have hsC := num_size C hCl.1
      have HI := hide hi
      have HIC := hide hiC
      have HSN := hide hsn
      have HSC := hide hsC
      have HCL := hide hCl
      have HCV := hide hCv
      have HN := hide hN
      have HR := hide hR
      clear hi hiC hsn hsC hCl hCv hN hR hC hnb hnv hnl
      go_wp2_with (first
        | (refine wpList_load_row rfl 132 _ rfl (w.heap.size + 1) rfl _ _ _ _ (unhide HN) Tryd.underlying132 rfl ?_ ?_; (exact unhide HI))
        | (go_at_call 76; refine hcar.mono ?_; rintro e w2 ⟨rfl, g2⟩; have hN2 := (unhide HN).kept g2 (by simp); have hR2 := (unhide HR).kept g2 (by simp); have hN3 := hN2.row (C.map nv); have hR3 := hR2.row_other (w.heap.size + 1) (C.map nv).toArray (by omega); have HN2 := hide hN2; have HN3 := hide hN3; have HR3 := hide hR3; clear hN2 hN3 hR2 hR3)
        | (refine wpList_store_row rfl 132 _ _ rfl (w.heap.size + 1) _ rfl rfl _ _ (unhide HN2) ?_ ?_ ?_ ?_; (exact unhide HIC); (rw [unhide HSC, unhide HSN]); (exact all_oneCell_toArray (nv_one _)))
        | (refine wpList_load_row rfl 132 _ rfl (w.heap.size + 1) rfl _ _ _ _ (unhide HN3) Tryd.underlying132 rfl ?_ ?_; (exact unhide HIC))
        | (refine wpList_store_row rfl 132 _ _ rfl w.heap.size _ rfl rfl _ _ (unhide HR3) ?_ ?_ ?_ ?_; (exact unhide HIC); (rw [unhide HSC]; rfl); (exact all_oneCell_toArray (nv_one _))))
      have hS := (unhide HR3).row (C.map nv)
      refine bodyPost_ret (v := num C) (results_cell_row (g := w.heap.size) rfl _ _ _ _ _ _ ?_ hS Tryd.underlying132 rfl (unhide HIC)) rfl ⟨C, unhide HCL, unhide HCV, rfl, ?_⟩
      · rfl
      · exact gb_row (gb_row (gb_trans hg g2 (fun _ e => by cases e)) _ (Or.inl (by omega))) _ (Or.inl (Nat.le_refl _))
end Go.Proofs.YtjckdgapefaokaaDoor
