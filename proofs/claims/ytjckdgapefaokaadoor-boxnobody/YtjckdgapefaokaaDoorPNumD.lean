/- What poly's least answers: the number modulo 2 to the 130, but for 5, in limbs that are carried on. No condition but that the number's limbs are as times makes them. -/
import Derived.Test.YtjckdgapefaokaaDoorPNum
namespace Go.Proofs.YtjckdgapefaokaaDoor
open Go.RowKit

theorem lin5_lt (n : List Nat) (h : Lin5 n) (k : Nat) : n.getD k 0 < 67108869 := by
  rcases Nat.eq_zero_or_pos k with e | e
  · rw [e]; exact h.2.1
  · have := h.2.2 k e; omega

theorem step6 {w W4 w5 W6 : World} {Z : Obj} {n : List Value} {z : List Value} {A : Array Value} (h6 : W6 = w5.alloc Z) (g5 : W4.grownBy w5 none) (hN : Blk W4 w.heap.size 132 n) (hR : Blk W4 (w.heap.size + 1) 132 z) (hg : w.grownBy W4 none) :
    ∃ W7, W7 = W6.setRow w5.heap.size A ∧ Blk W7 w.heap.size 132 n ∧ Blk W7 (w.heap.size + 1) 132 z ∧ w.grownBy W7 none := by
  have h1 := hN.kept g5 (by simp)
  have h2 := hR.kept g5 (by simp)
  have l1 := h1.lt
  have l2 := h2.lt
  subst h6
  exact ⟨_, rfl, (h1.alloc _).row_other _ _ (by omega), (h2.alloc _).row_other _ _ (by omega), gb_row (gb_alloc (gb_trans hg g5 (fun _ e => by cases e)) _) _ (Or.inl (by omega))⟩
theorem step8 {w W7 : World} {n Y : List Nat} {z : List Value} {x o : Nat} (hx : x = n.getD 0 0) (hY : Y = n.set 0 (x + 5 * o)) (hn : n.length = 5) (hN : Blk W7 w.heap.size 132 (n.map nv)) (hR : Blk W7 (w.heap.size + 1) 132 z) (hg : w.grownBy W7 none) :
    ∃ W8, W8 = W7.setCell ⟨w.heap.size, 0, none⟩ (.int .u64 ((x : Int) + 5 * (o : Int))) ∧ Blk W8 w.heap.size 132 (Y.map nv) ∧ Blk W8 (w.heap.size + 1) 132 z ∧ w.grownBy W8 none ∧ W7.cell? ⟨w.heap.size, 0, none⟩ = some (.int .u64 (x : Int)) ∧ W7.frozen? ⟨w.heap.size, 0, none⟩ = false := by
  refine ⟨_, rfl, ?_, hR.other _ _ (by simp), gb_setCell hg _ _ (Or.inl (by simp)), ?_, hN.fz 0⟩
  · rw [hY, List.map_set]; exact hN.set 0 (nv (x + 5 * o))
  · rw [hN.cell, nv_at n 0 (by omega), hx]

set_option maxRecDepth 100000 in
set_option maxHeartbeats 1000000 in
theorem least5_any (w : World) (n : List Nat) (hn : Lin5 n) :
    Calls Tryd.prog 77 #[num n] w fun e w' => ∃ c, Lim c ∧ v26 c = v26 n % pN ∧ e = .returned (num c) ∧ w.grownBy w' none := by
  have hlv := least_val n hn
  have hn5 := hn.1
  have hlt := lin5_lt n hn
  obtain ⟨A, hA⟩ : ∃ A : Array Value, A = (n.map nv).toArray := ⟨_, rfl⟩
  obtain ⟨Z, hZ⟩ : ∃ A : Array Value, A = (zero5L.map nv).toArray := ⟨_, rfl⟩
  have hz := zero5
  rw [← hZ] at hz
  obtain ⟨x, hx⟩ : ∃ x, x = n.getD 0 0 := ⟨_, rfl⟩
  have hx9 : x < 67108869 := by rw [hx]; exact hlt 0
  obtain ⟨M, hM⟩ : ∃ M, M = n.set 0 (x + 5) := ⟨_, rfl⟩
  have hMl : M.length = 5 := by rw [hM]; simp [hn5]
  have hMb : ∀ k, M.getD k 0 < 2 ^ 62 := fun k => by
    rw [hM, set_getD n 0 k _ (by omega)]
    have := hlt k
    by_cases e : k = 0
    · rw [if_pos e]; omega
    · rw [if_neg e]; omega
  obtain ⟨o, ho⟩ : ∃ o, o = ovr M 5 := ⟨_, rfl⟩
  have hob : o < 2 ^ 37 := by rw [ho]; exact ovr_lt M hMb 5
  obtain ⟨Y, hY⟩ : ∃ Y, Y = n.set 0 (x + 5 * o) := ⟨_, rfl⟩
  have hYl : Y.length = 5 := by rw [hY]; simp [hn5]
  have hYb : ∀ k, Y.getD k 0 < 2 ^ 62 := fun k => by
    rw [hY, set_getD n 0 k _ (by omega)]
    have := hlt k
    by_cases e : k = 0
    · rw [if_pos e]; omega
    · rw [if_neg e]; omega
  obtain ⟨C, hC⟩ : ∃ C, C = cutL Y := ⟨_, rfl⟩
  have hCl : Lim C := by rw [hC]; exact cutL_lim Y
  have hCv : v26 C = v26 n % pN := by rw [hC, hY, ho, hM, hx]; exact hlv
  obtain ⟨CM, hCM⟩ : ∃ C, C = cutL M := ⟨_, rfl⟩
  have hCMl : CM.length = 5 := by rw [hCM]; exact cutL_length M
  have hc1 : ∀ W, Calls Tryd.prog 76 #[.agg (M.map nv).toArray] W fun e w' => e = .returned (.tuple #[.agg (CM.map nv).toArray, .int .u64 (o : Int)]) ∧ W.grownBy w' none := fun W => by
    rw [hCM, ho]; exact carried5_any W M hMl hMb
  have hc2 : ∀ W, Calls Tryd.prog 76 #[.agg (Y.map nv).toArray] W fun e w' => e = .returned (.tuple #[.agg (C.map nv).toArray, nv (ovr Y 5)]) ∧ W.grownBy w' none := fun W => by
    rw [hC]; exact carried5_any W Y hYl hYb
  have e1 : (x : Int) + 5 = ((x + 5 : Nat) : Int) := by omega
  have e2 : IntKind.u64.wrap ((x : Int) + 5) = (x : Int) + 5 := by rw [IntKind.wrap_u64]; omega
  have e3 : ((x : Int) + 5) % 18446744073709551616 = (x : Int) + 5 := by omega
  have e4 : ((5 : Int) * (o : Int)) % 18446744073709551616 = 5 * (o : Int) := by omega
  have e5 : IntKind.u64.wrap ((5 : Int) * (o : Int)) = 5 * (o : Int) := by rw [IntKind.wrap_u64]; omega
  have e6 : ((x : Int) + 5 * (o : Int)) % 18446744073709551616 = (x : Int) + 5 * (o : Int) := by omega
  have e7 : IntKind.u64.wrap ((x : Int) + 5 * (o : Int)) = (x : Int) + 5 * (o : Int) := by rw [IntKind.wrap_u64]; omega
  -- the worlds ahead of the first call
  obtain ⟨W1, hW1⟩ : ∃ W1, W1 = (w.alloc (.cells A 132)).alloc (.cells Z 132) := ⟨_, rfl⟩
  have hs1 : W1.heap.size = w.heap.size + 2 := by rw [hW1, World.size_alloc, World.size_alloc]
  have hg1 : w.grownBy W1 none := by rw [hW1]; exact gb_alloc (gb_alloc (gb_refl _ _) _) _
  have hN1 : Blk W1 w.heap.size 132 (n.map nv) := by rw [hW1, hA]; exact (Blk.new w 132 _).alloc _
  have hR1 : Blk W1 (w.heap.size + 1) 132 (zero5L.map nv) := by
    have := Blk.new (w.alloc (.cells A 132)) 132 (zero5L.map nv)
    rw [World.size_alloc] at this
    rw [hW1, hZ]; exact this
  obtain ⟨W2, hW2⟩ : ∃ W2, W2 = W1.alloc (.cells Z 132) := ⟨_, rfl⟩
  have hM2 : Blk W2 (w.heap.size + 2) 132 (zero5L.map nv) := by
    have := Blk.new W1 132 (zero5L.map nv)
    rw [hs1] at this
    rw [hW2, hZ]; exact this
  obtain ⟨W3, hW3⟩ : ∃ W3, W3 = W2.setRow (w.heap.size + 2) A := ⟨_, rfl⟩
  have hM3 : Blk W3 (w.heap.size + 2) 132 (n.map nv) := by rw [hW3, hA]; exact hM2.row _
  obtain ⟨W4, hW4⟩ : ∃ W4, W4 = W3.setCell ⟨w.heap.size + 2, 0, none⟩ (.int .u64 ((x : Int) + 5)) := ⟨_, rfl⟩
  have hM4 : Blk W4 (w.heap.size + 2) 132 (M.map nv) := by
    rw [hW4, hM, List.map_set]; exact hM3.set 0 (nv (x + 5))
  have hN4 : Blk W4 w.heap.size 132 (n.map nv) := by
    rw [hW4, hW3, hW2]; exact ((hN1.alloc _).row_other _ _ (by omega)).other _ _ (by simp)
  have hR4 : Blk W4 (w.heap.size + 1) 132 (zero5L.map nv) := by
    rw [hW4, hW3, hW2]; exact ((hR1.alloc _).row_other _ _ (by omega)).other _ _ (by simp)
  have hg4 : w.grownBy W4 none := by
    rw [hW4, hW3, hW2]; exact gb_setCell (gb_row (gb_alloc hg1 _) _ (Or.inl (by omega))) _ _ (Or.inl (by simp))
  have hc3 : W3.cell? ⟨w.heap.size + 2, 0, none⟩ = some (.int .u64 (x : Int)) := by
    rw [hM3.cell, nv_at n 0 (by omega), hx]
  have hf3 := hM3.fz 0
  have hN1' : W1.heap[w.heap.size]? = some (.cells A 132 (0, 0)) := by rw [hA]; exact hN1
  have hsA : A.size = 5 := by rw [hA]; exact num_size n hn5
  have hiA : (Tryd.prog.info? 132).map (·.size) = some A.size := by rw [hsA]; exact info5
  have hone : A.all (·.oneCell') = true := by rw [hA]; exact all_oneCell_toArray (nv_one _)
  have hiM := info5n M hMl
  have hiCM := info5n CM hCMl
  have hsCM := num_size CM hCMl
  have hiY := info5n Y hYl
  have hsY := num_size Y hYl
  have hiC := info5n C hCl.1
  have hsC := num_size C hCl.1
  have hsn := num_size n hn5
  show Calls Tryd.prog 77 #[.agg (n.map nv).toArray] w _
  rw [← hA]
  have HW1 := hide hW1
  have HW2 := hide hW2
  have HW3 := hide hW3
  have HW4 := hide hW4
  have HN1 := hide hN1'
  have HM2 := hide hM2
  have HM4 := hide hM4
  have HN4 := hide hN4
  have HR4 := hide hR4
  have HIA := hide hiA
  have HSA := hide hsA
  have HONE := hide hone
  have HIM := hide hiM
  have HICM := hide hiCM
  have HSCM := hide hsCM
  have HIY := hide hiY
  have HSY := hide hsY
  have HIC := hide hiC
  have HSC := hide hsC
  have HSN := hide hsn
  have HCL := hide hCl
  have HCV := hide hCv
  have HX := hide hx
  have HN5 := hide hn5
  have HY := hide hY
  have HZ := hide hZ
  clear hlv hn5 hlt hA hZ hx hx9 hM hMl hMb ho hob hY hYl hYb hC hCl hCv hCM hCMl e1 hW1 hN1 hR1 hW2 hM2 hW3 hM3 hW4 hM4 hN4 hR4 hN1' hsA hiA hone hiM hiCM hsCM hiY hsY hiC hsC hsn hn hg1
  go_enter Tryd.func77, Tryd.ntmps77
  go_wp2_with (first
    | (rw [← unhide HW1]; refine wpList_load_row rfl 132 _ rfl w.heap.size rfl _ _ _ _ (unhide HN1) Tryd.underlying132 rfl ?_ ?_; (exact unhide HIA))
    | (rw [← unhide HW2]; refine wpList_store_row rfl 132 _ _ rfl (w.heap.size + 2) _ rfl rfl _ _ (unhide HM2) ?_ ?_ ?_ ?_; (exact unhide HIA); (rw [unhide HSA]; rfl); (exact unhide HONE); rw [← unhide HW3])
    | (rw [← unhide HW4]; refine wpList_load_row rfl 132 _ rfl (w.heap.size + 2) rfl _ _ _ _ (unhide HM4) Tryd.underlying132 rfl ?_ ?_; (exact unhide HIM); clear hf3 hc3)
    | (go_at_call 76; refine (hc1 _).mono ?_; rintro e w5 ⟨rfl, g5⟩; clear hc1; obtain ⟨W6, hW6⟩ : ∃ W6, W6 = w5.alloc (.cells Z 132) := ⟨_, rfl⟩; have HW6 := hide hW6; clear hW6)
    | (rw [← unhide HW6]; refine wpList_store_row rfl 132 _ _ rfl w5.heap.size _ rfl rfl _ _ (by rw [unhide HW6]; exact heap_alloc_new _ _) ?_ ?_ ?_ ?_; (exact unhide HICM); (rw [unhide HSCM, unhide HZ]; rfl); (exact all_oneCell_toArray (nv_one _)); obtain ⟨W7, hW7, hN7, hR7, hg7⟩ : ∃ W7, W7 = W6.setRow w5.heap.size (CM.map nv).toArray ∧ Blk W7 w.heap.size 132 (n.map nv) ∧ Blk W7 (w.heap.size + 1) 132 (zero5L.map nv) ∧ w.grownBy W7 none := step6 (unhide HW6) g5 (unhide HN4) (unhide HR4) hg4; rw [← hW7]; obtain ⟨W8, hW8, hN8, hR8, hg8, hc7, hf7⟩ : ∃ W8, W8 = W7.setCell ⟨w.heap.size, 0, none⟩ (.int .u64 ((x : Int) + 5 * (o : Int))) ∧ Blk W8 w.heap.size 132 (Y.map nv) ∧ Blk W8 (w.heap.size + 1) 132 (zero5L.map nv) ∧ w.grownBy W8 none ∧ W7.cell? ⟨w.heap.size, 0, none⟩ = some (.int .u64 (x : Int)) ∧ W7.frozen? ⟨w.heap.size, 0, none⟩ = false := step8 (unhide HX) (unhide HY) (unhide HN5) hN7 hR7 hg7; have HW8 := hide hW8; have HN8 := hide hN8; have HR8 := hide hR8; clear hW7 hN7 hR7 hg7 hW8 hN8 hR8)
    | (rw [← unhide HW8]; refine wpList_load_row rfl 132 _ rfl w.heap.size rfl _ _ _ _ (unhide HN8) Tryd.underlying132 rfl ?_ ?_; (exact unhide HIY))
    | (go_at_call 76; refine (hc2 _).mono ?_; rintro e w9 ⟨rfl, g9⟩; clear hc2; have hN9 := (unhide HN8).kept g9 (by simp); have hR9 := (unhide HR8).kept g9 (by simp); have hN10 := hN9.row (C.map nv); have hR10 := hR9.row_other w.heap.size (C.map nv).toArray (by omega); have HN9 := hide hN9; have HN10 := hide hN10; have HR10 := hide hR10; clear hN9 hR9 hN10 hR10)
    | (refine wpList_store_row rfl 132 _ _ rfl w.heap.size _ rfl rfl _ _ (unhide HN9) ?_ ?_ ?_ ?_; (exact unhide HIC); (rw [unhide HSC, unhide HSY]); (exact all_oneCell_toArray (nv_one _)); clear HN9)
    | (refine wpList_load_row rfl 132 _ rfl w.heap.size rfl _ _ _ _ (unhide HN10) Tryd.underlying132 rfl ?_ ?_; (exact unhide HIC))
    | (refine wpList_store_row rfl 132 _ _ rfl (w.heap.size + 1) _ rfl rfl _ _ (unhide HR10) ?_ ?_ ?_ ?_; (exact unhide HIC); (rw [unhide HSC]; rfl); (exact all_oneCell_toArray (nv_one _))))
  have hS := (unhide HR10).row (C.map nv)
  refine bodyPost_ret (v := num C) (results_cell_row (g := w.heap.size + 1) rfl _ _ _ _ _ _ ?_ hS Tryd.underlying132 rfl (unhide HIC)) rfl ⟨C, unhide HCL, unhide HCV, rfl, ?_⟩
  · rfl
  · exact gb_row (gb_row (gb_trans hg8 g9 (fun _ e => by cases e)) _ (Or.inl (Nat.le_refl _))) _ (Or.inl (by omega))
end Go.Proofs.YtjckdgapefaokaaDoor
