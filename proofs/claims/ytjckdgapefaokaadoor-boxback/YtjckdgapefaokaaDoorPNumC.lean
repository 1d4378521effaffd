/- What poly's times answers: a product modulo 2 to the 130, but for 5, in limbs. No condition but the bounds that each lemma names. -/
import Derived.Test.YtjckdgapefaokaaDoorPNum
namespace Go.Proofs.YtjckdgapefaokaaDoor
open Go.RowKit

theorem prod_fit (x y : Nat) (hx : x < 2 ^ 28) (hy : y < 67108864) : x * y < 2 ^ 54 := by
  have := Nat.mul_le_mul (Nat.le_of_lt_succ (show x < (2 ^ 28 - 1) + 1 by omega)) (Nat.le_of_lt_succ (show y < 67108863 + 1 by omega))
  omega

set_option maxRecDepth 100000 in
set_option maxHeartbeats 2000000 in
theorem times5_any (w : World) (a b : List Nat) (ha : a.length = 5) (hab : ∀ k, a.getD k 0 < 2 ^ 28) (hbl : Lim b) :
    Calls Tryd.prog 74 #[num a, num b] w fun e w' => ∃ n, Lin5 n ∧ v26 n % pN = v26 a * v26 b % pN ∧ e = .returned (num n) ∧ w.grownBy w' none := by
  have hb := hbl.1
  have hbb := hbl.2
  obtain ⟨A, hA⟩ : ∃ A : Array Value, A = (a.map nv).toArray := ⟨_, rfl⟩
  obtain ⟨B, hB⟩ : ∃ A : Array Value, A = (b.map nv).toArray := ⟨_, rfl⟩
  obtain ⟨Z, hZ⟩ : ∃ A : Array Value, A = (zero5L.map nv).toArray := ⟨_, rfl⟩
  have hz := zero5
  rw [← hZ] at hz
  have hxa : ∀ k : Nat, k < 5 → ∀ W, (Instr.index 132 (.agg A) (.int .i64 (k : Int))).run Tryd.prog W = .ok (.int .u64 (a.getD k 0 : Nat)) W := fun k hk W => by
    rw [hA]; exact index_row 132 75 5 (a.map nv) k _ Tryd.underlying132 size_limb agg_limb hk (nv_at a k (by omega)) W
  have hxb : ∀ k : Nat, k < 5 → ∀ W, (Instr.index 132 (.agg B) (.int .i64 (k : Int))).run Tryd.prog W = .ok (.int .u64 (b.getD k 0 : Nat)) W := fun k hk W => by
    rw [hB]; exact index_row 132 75 5 (b.map nv) k _ Tryd.underlying132 size_limb agg_limb hk (nv_at b k (by omega)) W
  obtain ⟨W1, hW1⟩ : ∃ W1, W1 = (((w.alloc (.cells A 132)).alloc (.cells B 132)).alloc (.cells Z 132)).alloc (.cells Z 132) := ⟨_, rfl⟩
  have hg : w.grownBy W1 none := by rw [hW1]; exact gb_alloc (gb_alloc (gb_alloc (gb_alloc (gb_refl _ _) _) _) _) _
  have hA1 : W1.heap[w.heap.size]? = some (.cells A 132 (0, 0)) := by
    have := (((Blk.new w 132 (a.map nv)).alloc (.cells B 132)).alloc (.cells Z 132)).alloc (.cells Z 132)
    rw [hW1, hA]; exact this
  have hB1 : W1.heap[w.heap.size + 1]? = some (.cells B 132 (0, 0)) := by
    have := ((Blk.new (w.alloc (.cells A 132)) 132 (b.map nv)).alloc (.cells Z 132)).alloc (.cells Z 132)
    rw [World.size_alloc] at this
    rw [hW1, hB]; exact this
  have hR1 : Blk W1 (w.heap.size + 2) 132 (zero5L.map nv) := by
    have := (Blk.new ((w.alloc (.cells A 132)).alloc (.cells B 132)) 132 (zero5L.map nv)).alloc (.cells Z 132)
    rw [World.size_alloc, World.size_alloc, ← hZ] at this
    rw [hW1]; exact this
  have hN1 : Blk W1 (w.heap.size + 3) 132 (zero5L.map nv) := by
    have := Blk.new (((w.alloc (.cells A 132)).alloc (.cells B 132)).alloc (.cells Z 132)) 132 (zero5L.map nv)
    rw [World.size_alloc, World.size_alloc, World.size_alloc, ← hZ] at this
    rw [hW1]; exact this
  show Calls Tryd.prog 74 #[.agg (a.map nv).toArray, .agg (b.map nv).toArray] w _
  rw [← hA, ← hB]
  have hiA : (Tryd.prog.info? 132).map (·.size) = some A.size := by rw [hA]; exact info5n a ha
  have hiB : (Tryd.prog.info? 132).map (·.size) = some B.size := by rw [hB]; exact info5n b hb
  have HAL := hide ha
  have HBL := hide hb
  have HAB := hide hab
  have HBB := hide hbb
  have HXA := hide hxa
  have HXB := hide hxb
  have HW1 := hide hW1
  have HA1 := hide hA1
  have HB1 := hide hB1
  have HR := hide hR1
  have HN := hide hN1
  have HIA := hide hiA
  have HIB := hide hiB
  clear ha hb hab hbb hbl hxa hxb hA hB hZ hW1 hA1 hB1 hR1 hN1 hiA hiB
  go_enter Tryd.func74, Tryd.ntmps74
  go_wp2_with (rw [← unhide HW1]; refine wpList_load_row rfl 132 _ rfl w.heap.size rfl _ _ _ _ (unhide HA1) Tryd.underlying132 rfl ?_ ?_; (exact unhide HIA))
  go_loopw [11] (fun iv wr => ∃ (i : Nat) (n : List Nat), i ≤ 5 ∧ iv = .int .i64 (i : Int) ∧ n.length = 5 ∧ v26 n % pN = (v26 (a.take i) * v26 b) % pN ∧ (∀ j, n.getD j 0 ≤ (5 * i) * 2 ^ 57) ∧ wr.heap[w.heap.size + 1]? = some (.cells B 132 (0, 0)) ∧ Blk wr (w.heap.size + 3) 132 (n.map nv) ∧ Blk wr (w.heap.size + 2) 132 (zero5L.map nv) ∧ w.grownBy wr none) (fun iv _ => 5 - (intOf iv).toNat)
  case atStart =>
    refine ⟨0, zero5L, Nat.zero_le _, rfl, rfl, ?_, fun j => ?_, unhide HB1, unhide HN, unhide HR, hg⟩
    · rw [show v26 zero5L = 0 from rfl, List.take_zero, v26, Nat.zero_mul]
    match j with
    | 0 => decide
    | 1 => decide
    | 2 => decide
    | 3 => decide
    | 4 => decide
    | j + 5 => rw [getD_out _ _ (by simp [zero5L])]; omega
  case round =>
    clear HR HN HA1 HB1 hg HW1
    obtain ⟨i, n, hi, rfl, hnl, hnv, hnb, hB, hN, hR, hg⟩ := hrel
    by_cases hlt : i < 5
    · have hq0 : (0 : Int) ≤ (i : Int) := by omega
      have hq1 : (i : Int) < 5 := by omega
      have hx := unhide HXA i hlt
      have b1 := unhide HAB i
      obtain ⟨x, hxe⟩ : ∃ x, x = a.getD i 0 := ⟨_, rfl⟩
      rw [← hxe] at hx b1
      have hta : v26 (a.take (i + 1)) = v26 (a.take i) + 67108864 ^ i * x := by
        rw [hxe]; exact v26_take a i (by rw [unhide HAL]; exact hlt)
      have HTA := hide hta
      have HB := hide hB
      have HN := hide hN
      have HR := hide hR
      have HNB := hide hnb
      have HNV := hide hnv
      have HNL := hide hnl
      clear hta hB hN hR hnb hnv hnl hxe
      go_wp2_with (refine wpList_load_row rfl 132 _ rfl (w.heap.size + 1) rfl _ _ _ _ (unhide HB) Tryd.underlying132 rfl ?_ ?_; (exact unhide HIB))
      go_loopw [16] (fun jv wr => ∃ (j : Nat) (n : List Nat), j ≤ 5 ∧ jv = .int .i64 (j : Int) ∧ n.length = 5 ∧ v26 n % pN = (v26 (a.take i) * v26 b + 67108864 ^ i * x * v26 (b.take j)) % pN ∧ (∀ q, n.getD q 0 ≤ (5 * i + j) * 2 ^ 57) ∧ wr.heap[w.heap.size + 1]? = some (.cells B 132 (0, 0)) ∧ Blk wr (w.heap.size + 3) 132 (n.map nv) ∧ Blk wr (w.heap.size + 2) 132 (zero5L.map nv) ∧ w.grownBy wr none) (fun jv _ => 5 - (intOf jv).toNat)
      case atStart =>
        refine ⟨0, n, Nat.zero_le _, rfl, unhide HNL, ?_, unhide HNB, unhide HB, unhide HN, unhide HR, hg⟩
        rw [List.take_zero, v26, Nat.mul_zero, Nat.add_zero]; exact unhide HNV
      case round =>
        clear HR HN HB hg HNL HNV HNB
        obtain ⟨j, n, hj, rfl, hnl, hnv, hnb, hB, hN, hR, hg⟩ := hrel
        by_cases hjl : j < 5
        · have hj0 : (0 : Int) ≤ (j : Int) := by omega
          have hj1 : (j : Int) < 5 := by omega
          have hy := unhide HXB j hjl
          have b2 := unhide HBB j
          have hstep := times_step n b (v26 (a.take i) * v26 b) i j x hnl (unhide HBL) hlt hjl hnv
          obtain ⟨y, hye⟩ : ∃ y, y = b.getD j 0 := ⟨_, rfl⟩
          rw [← hye] at hy b2 hstep
          have hxy := prod_fit x y b1 b2
          by_cases hij : i + j < 5
          · have hqe : (i + j) % 5 = i + j := Nat.mod_eq_of_lt hij
            rw [hqe, if_pos hij] at hstep
            obtain ⟨q, hq⟩ : ∃ q, q = i + j := ⟨_, rfl⟩
            obtain ⟨m, hm⟩ : ∃ m, m = x * y := ⟨_, rfl⟩
            have hm1 : m < 2 ^ 57 := by omega
            have g1 : (i : Int) + (j : Int) = (q : Int) := by omega
            have g2 : (q : Int) < 5 := by omega
            have g3 : (0 : Int) ≤ (q : Int) := by omega
            have g4 : (x : Int) * (y : Int) = (m : Int) := by rw [hm]; exact (Int.natCast_mul x y).symm
            have hq5 : q < 5 := by omega
            rw [← hq, ← hm] at hstep
            obtain ⟨z, hz2⟩ : ∃ z, z = n.getD q 0 := ⟨_, rfl⟩
            have hzb := hnb q
            rw [← hz2] at hzb hstep
            obtain ⟨t, ht⟩ : ∃ t, t = z + m := ⟨_, rfl⟩
            rw [← ht] at hstep
            have k1 : IntKind.u64.wrap (m : Int) = (m : Int) := by rw [IntKind.wrap_u64]; omega
            have k2 : (m : Int) % 18446744073709551616 = (m : Int) := by omega
            have k3 : (z : Int) + (m : Int) = (t : Int) := by omega
            have k4 : IntKind.u64.wrap (t : Int) = (t : Int) := by rw [IntKind.wrap_u64]; omega
            have k5 : (t : Int) % 18446744073709551616 = (t : Int) := by omega
            have k6 : IntKind.i64.wrap (q : Int) = (q : Int) := by rw [IntKind.wrap_i64]; omega
            have hfz := hN.fz q
            have hcn : wr.cell? ⟨w.heap.size + 3, q, none⟩ = some (.int .u64 (z : Int)) := by
              rw [hN.cell, nv_at n q (by omega), hz2]
            have hNB : ∀ p, (n.set q t).getD p 0 ≤ (5 * i + (j + 1)) * 2 ^ 57 := fun p => by
              rw [set_getD n q p t (by omega)]
              have := hnb p
              by_cases e : p = q
              · rw [if_pos e]; omega
              · rw [if_neg e]; exact Nat.le_trans this (Nat.mul_le_mul_right _ (Nat.le_succ _))
            have hB2 : (wr.setCell ⟨w.heap.size + 3, q, none⟩ (.int .u64 (t : Int))).heap[w.heap.size + 1]? = some (.cells B 132 (0, 0)) := by
              rw [heap_setCell_other _ _ _ _ (by simp)]; exact hB
            have hN2 : Blk (wr.setCell ⟨w.heap.size + 3, q, none⟩ (.int .u64 (t : Int))) (w.heap.size + 3) 132 ((n.set q t).map nv) := by
              rw [List.map_set]; exact hN.set q (nv t)
            have hR2 : Blk (wr.setCell ⟨w.heap.size + 3, q, none⟩ (.int .u64 (t : Int))) (w.heap.size + 2) 132 (zero5L.map nv) := hR.other _ _ (by simp)
            have hG2 : w.grownBy (wr.setCell ⟨w.heap.size + 3, q, none⟩ (.int .u64 (t : Int))) none := gb_setCell hg _ _ (Or.inl (by simp))
            have hNL : (n.set q t).length = 5 := by simp [hnl]
            have HST := hide hstep
            have HNB := hide hNB
            have HB2 := hide hB2
            have HN2 := hide hN2
            have HR2 := hide hR2
            have HG2 := hide hG2
            have HNL := hide hNL
            clear hstep hNB hB2 hN2 hR2 hG2 hNL hB hN hR hnb hnv hnl hye hm hz2 ht hzb hxy hq hqe
            go_wp2
            go_roundw
            case rel => exact ⟨j + 1, n.set q t, by omega, by go_num, unhide HNL, unhide HST, unhide HNB, unhide HB2, unhide HN2, unhide HR2, unhide HG2⟩
            case measure => simp [intOf]; omega
          · have hqe : (i + j) % 5 = i + j - 5 := by omega
            rw [hqe, if_neg hij] at hstep
            obtain ⟨q, hq⟩ : ∃ q, q = i + j - 5 := ⟨_, rfl⟩
            obtain ⟨x5, hx5⟩ : ∃ m, m = 5 * x := ⟨_, rfl⟩
            obtain ⟨m, hm⟩ : ∃ m, m = 5 * x * y := ⟨_, rfl⟩
            have hm1 : m < 2 ^ 57 := by rw [hm, Nat.mul_assoc]; omega
            obtain ⟨p, hp⟩ : ∃ p, p = i + j := ⟨_, rfl⟩
            have g1 : (i : Int) + (j : Int) = (p : Int) := by omega
            have g2 : ¬ (p : Int) < 5 := by omega
            have g9 : (p : Int) - 5 = (q : Int) := by omega
            have g10 : (q : Int) < 5 := by omega
            have g3 : (0 : Int) ≤ (q : Int) := by omega
            have g5 : (5 : Int) * (x : Int) = (x5 : Int) := by omega
            have g6 : IntKind.u64.wrap (x5 : Int) = (x5 : Int) := by rw [IntKind.wrap_u64]; omega
            have g7 : (x5 : Int) % 18446744073709551616 = (x5 : Int) := by omega
            have g8 : IntKind.i64.wrap (p : Int) = (p : Int) := by rw [IntKind.wrap_i64]; omega
            have g11 : IntKind.i64.wrap (q : Int) = (q : Int) := by rw [IntKind.wrap_i64]; omega
            have g4 : (x5 : Int) * (y : Int) = (m : Int) := by rw [hm, hx5]; exact (Int.natCast_mul _ y).symm
            have hq5 : q < 5 := by omega
            rw [← hq, ← hm] at hstep
            obtain ⟨z, hz2⟩ : ∃ z, z = n.getD q 0 := ⟨_, rfl⟩
            have hzb := hnb q
            rw [← hz2] at hzb hstep
            obtain ⟨t, ht⟩ : ∃ t, t = z + m := ⟨_, rfl⟩
            rw [← ht] at hstep
            have k1 : IntKind.u64.wrap (m : Int) = (m : Int) := by rw [IntKind.wrap_u64]; omega
            have k2 : (m : Int) % 18446744073709551616 = (m : Int) := by omega
            have k3 : (z : Int) + (m : Int) = (t : Int) := by omega
            have k4 : IntKind.u64.wrap (t : Int) = (t : Int) := by rw [IntKind.wrap_u64]; omega
            have k5 : (t : Int) % 18446744073709551616 = (t : Int) := by omega
            have k6 : IntKind.i64.wrap (q : Int) = (q : Int) := by rw [IntKind.wrap_i64]; omega
            have hfz := hN.fz q
            have hcn : wr.cell? ⟨w.heap.size + 3, q, none⟩ = some (.int .u64 (z : Int)) := by
              rw [hN.cell, nv_at n q (by omega), hz2]
            have hNB : ∀ p, (n.set q t).getD p 0 ≤ (5 * i + (j + 1)) * 2 ^ 57 := fun p => by
              rw [set_getD n q p t (by omega)]
              have := hnb p
              by_cases e : p = q
              · rw [if_pos e]; omega
              · rw [if_neg e]; exact Nat.le_trans this (Nat.mul_le_mul_right _ (Nat.le_succ _))
            have hB2 : (wr.setCell ⟨w.heap.size + 3, q, none⟩ (.int .u64 (t : Int))).heap[w.heap.size + 1]? = some (.cells B 132 (0, 0)) := by
              rw [heap_setCell_other _ _ _ _ (by simp)]; exact hB
            have hN2 : Blk (wr.setCell ⟨w.heap.size + 3, q, none⟩ (.int .u64 (t : Int))) (w.heap.size + 3) 132 ((n.set q t).map nv) := by
              rw [List.map_set]; exact hN.set q (nv t)
            have hR2 : Blk (wr.setCell ⟨w.heap.size + 3, q, none⟩ (.int .u64 (t : Int))) (w.heap.size + 2) 132 (zero5L.map nv) := hR.other _ _ (by simp)
            have hG2 : w.grownBy (wr.setCell ⟨w.heap.size + 3, q, none⟩ (.int .u64 (t : Int))) none := gb_setCell hg _ _ (Or.inl (by simp))
            have hNL : (n.set q t).length = 5 := by simp [hnl]
            have HST := hide hstep
            have HNB := hide hNB
            have HB2 := hide hB2
            have HN2 := hide hN2
            have HR2 := hide hR2
            have HG2 := hide hG2
            have HNL := hide hNL
            clear hstep hNB hB2 hN2 hR2 hG2 hNL hB hN hR hnb hnv hnl hye hm hz2 ht hzb hxy hq hp hx5 hqe
            go_wp2
            go_roundw
            case rel => exact ⟨j + 1, n.set q t, by omega, by go_num, unhide HNL, unhide HST, unhide HNB, unhide HB2, unhide HN2, unhide HR2, unhide HG2⟩
            case measure => simp [intOf]; omega
        · have c1 : ¬ (j : Int) < 5 := by omega
          obtain rfl : j = 5 := by omega
          rw [List.take_of_length_le (l := b) (by rw [unhide HBL]; exact Nat.le_refl _), ← Nat.add_mul, ← unhide HTA] at hnv
          have hnb2 : ∀ q, n.getD q 0 ≤ (5 * (i + 1)) * 2 ^ 57 := fun q => by rw [Nat.mul_add]; exact hnb q
          rw [show ((5 : Nat) : Int) = 5 from rfl] at c1 ⊢
          have HNB := hide hnb2
          have HNV := hide hnv
          have HNL := hide hnl
          have HB := hide hB
          have HN := hide hN
          have HR := hide hR
          clear hnb hnb2 hnv hnl hB hN hR
          go_wp2
          go_roundw
          case rel => exact ⟨i + 1, n, by omega, by go_num, unhide HNL, unhide HNV, unhide HNB, unhide HB, unhide HN, unhide HR, hg⟩
          case measure => simp [intOf]; omega
    · obtain rfl : i = 5 := by omega
      rw [show ((5 : Nat) : Int) = 5 from rfl]
      rw [List.take_of_length_le (l := a) (by rw [unhide HAL]; exact Nat.le_refl _)] at hnv
      have hb62 : ∀ q, n.getD q 0 < 2 ^ 62 := fun q => by have := hnb q; omega
      have hf1 := fold5_any wr n hnl hb62
      obtain ⟨D, hD⟩ : ∃ D, D = foldL n := ⟨_, rfl⟩
      have hDl : D.length = 5 := by rw [hD]; exact foldL_length n
      have hDb := fold_first n hb62
      rw [← hD] at hf1 hDb
      obtain ⟨E, hE⟩ : ∃ E, E = foldL D := ⟨_, rfl⟩
      have hEl : Lin5 E := by rw [hE]; exact fold_again D hDl hDb.1 hDb.2
      have hEv : v26 E % pN = v26 a * v26 b % pN := by rw [hE, fold_mod D hDl, hD, fold_mod n hnl, hnv]
      have hf2 : ∀ W, Calls Tryd.prog 98 #[num D] W fun e w' => e = .returned (num E) ∧ W.grownBy w' none := fun W => by
        rw [hE]; exact fold5_any W D hDl (fun k => by
          rcases Nat.eq_zero_or_pos k with h | h
          · rw [h]; have := hDb.1; omega
          · have := hDb.2 k h; omega)
      unfold num at hf1 hf2
      have hin := info5n n hnl
      have hiE := info5n E hEl.1
      have hsE := num_size E hEl.1
      have HIN := hide hin
      have HIE := hide hiE
      have HSE := hide hsE
      have HEL := hide hEl
      have HEV := hide hEv
      have HN := hide hN
      have HR := hide hR
      clear hin hiE hsE hEl hEv hN hR hB hD hE hDb hDl hnb hnv hnl hb62
      go_wp2_with (first
        | (refine wpList_load_row rfl 132 _ rfl (w.heap.size + 3) rfl _ _ _ _ (unhide HN) Tryd.underlying132 rfl ?_ ?_; (exact unhide HIN))
        | (go_at_call 98; refine hf1.mono ?_; rintro e w2 ⟨rfl, g2⟩; have hR2 := (unhide HR).kept g2 (by simp); clear hf1)
        | (go_at_call 98; refine (hf2 _).mono ?_; rintro e w3 ⟨rfl, g3⟩; have hR3 := hR2.kept g3 (by simp))
        | (refine wpList_store_row rfl 132 _ _ rfl (w.heap.size + 2) _ rfl rfl _ _ hR3 ?_ ?_ ?_ ?_; (exact unhide HIE); (rw [unhide HSE]; rfl); (exact all_oneCell_toArray (nv_one _))))
      have hS := hR3.row (E.map nv)
      refine bodyPost_ret (v := num E) (results_cell_row (g := w.heap.size + 2) rfl _ _ _ _ _ _ ?_ hS Tryd.underlying132 rfl (unhide HIE)) rfl ⟨E, unhide HEL, unhide HEV, rfl, ?_⟩
      · rfl
      · exact gb_row (gb_trans (gb_trans hg g2 (fun _ e => by cases e)) g3 (fun _ e => by cases e)) _ (Or.inl (by omega))
end Go.Proofs.YtjckdgapefaokaaDoor
