/- What the document's Byte (package coffretref07) answers: the byte that our own words tell. Of texts of at most 1000 bytes. -/
import Derived.Test.YtkbldpigbkecpaaDoorDLaw
import Derived.Test.YtkbldpigbkecpaaDoorRSum
namespace Go.Proofs.YtkbldpigbkecpaaDoor
open Go.RowKit

set_option maxRecDepth 100000 in
set_option maxHeartbeats 1000000 in
theorem rbyte_any (w : World) (T : List UInt8) (i : Nat) (hT : T.length ≤ 1000) (hi : i ≤ 100000) :
    Calls Tryd.prog 8 #[.string (str T), .int .i64 (i : Int)] w fun e w' => e = .returned (bv (tell T i)) ∧ w.grownBy w' none := by
  have hsz := str_size T
  by_cases hlt : i < T.length
  · have hix := idx_str T i _ hlt rfl
    have hte : bv (tell T i) = .int .u8 ((T[i].toNat : Nat) : Int) := by
      simp [tell, hlt, bv]
    rw [hte]
    obtain ⟨x, hx⟩ : ∃ x, x = T[i].toNat := ⟨_, rfl⟩
    rw [← hx] at hix ⊢
    obtain ⟨S, hS⟩ : ∃ S, S = str T := ⟨_, rfl⟩
    rw [← hS] at hix hsz ⊢
    clear hS hx hte
    go_enter Tryd.func8, Tryd.ntmps8
    go_wp2
    go_ret
    exact ⟨rfl, gb_refl _ _⟩
  · have hi32 : (Tryd.prog.info? 29).map (·.size) = some 32 := by kernel_rfl
    obtain ⟨j, hj⟩ : ∃ j, j = i - T.length := ⟨_, rfl⟩
    obtain ⟨q, hq⟩ : ∃ q, q = j / 32 := ⟨_, rfl⟩
    obtain ⟨r, hr⟩ : ∃ r, r = j % 32 := ⟨_, rfl⟩
    obtain ⟨A, hA⟩ : ∃ A, A = shaL T := ⟨_, rfl⟩
    obtain ⟨D, hD⟩ : ∃ D, D = sumAt T q := ⟨_, rfl⟩
    have hAl : A.length = 32 := by rw [hA]; exact shaL_length _
    have hDl : D.length = 32 := by rw [hD]; exact sumAt_length _ _
    have hsA : ((A.map bv).toArray).size = 32 := by simp [hAl]
    have hsD : ((D.map bv).toArray).size = 32 := by simp [hDl]
    have hr32 : r < 32 := by omega
    have hte : tell T i = D[r]'(by rw [hDl]; exact hr32) := by
      unfold tell
      rw [if_neg hlt, ← hj, ← hq, ← hr, ← hD]
      simp [List.getD, hDl, hr32]
    rw [hte]
    obtain ⟨x, hx⟩ : ∃ x, x = D[r]'(by rw [hDl]; exact hr32) := ⟨_, rfl⟩
    rw [← hx]
    have hcx : ∀ W p, Blk W p 29 (D.map bv) → W.cell? ⟨p, r, none⟩ = some (bv x) := fun W p h => by
      rw [h.cell, List.getElem?_map, List.getElem?_eq_getElem (by rw [hDl]; exact hr32), hx]; rfl
    have c1 := fun V => rsum_any V T (by omega)
    have c2 := fun V => rput_any V A q 8 (by omega) (by omega)
    have c3 := fun V => rsum_any V (A ++ lb q 8) (by rw [List.length_append, hAl, lb_len]; omega)
    rw [← hA] at c1
    rw [show nb 8 = 8 from by decide] at c2
    rw [show shaL (A ++ lb q 8) = D by rw [hD, hA]; rfl] at c3
    obtain ⟨SS, hSS⟩ : ∃ S, S = str (A ++ lb q 8) := ⟨_, rfl⟩
    rw [← hSS] at c2 c3
    have hij : (i : Int) - (T.length : Int) = (j : Int) := by omega
    have hjq : (j : Int).tdiv 32 = (q : Int) := by rw [Int.tdiv_eq_ediv_of_nonneg (by omega)]; omega
    have hjr : (j : Int).tmod 32 = (r : Int) := by rw [Int.tmod_eq_emod_of_nonneg (by omega)]; omega
    have hjq' : (j : Int) / 32 = (q : Int) := by omega
    have hjr' : (j : Int) % 32 = (r : Int) := by omega
    have hwj : IntKind.i64.wrap (j : Int) = (j : Int) := by rw [IntKind.wrap_i64]; omega
    have hwq : IntKind.i64.wrap (q : Int) = (q : Int) := by rw [IntKind.wrap_i64]; omega
    have hwu : IntKind.u64.wrap (q : Int) = (q : Int) := by rw [IntKind.wrap_u64]; omega
    obtain ⟨S, hS⟩ : ∃ S, S = str T := ⟨_, rfl⟩
    obtain ⟨SA, hSA⟩ : ∃ S, S = str A := ⟨_, rfl⟩
    rw [← hS] at c1 hsz ⊢
    rw [← hSA] at c2
    obtain ⟨m, hm⟩ : ∃ m, m = T.length := ⟨_, rfl⟩
    rw [← hm] at hsz hlt hij
    have hzv := zero_32
    obtain ⟨Z, hZ⟩ : ∃ Z : List Value, Z = (List.replicate 32 (0 : UInt8)).map bv := ⟨_, rfl⟩
    rw [← hZ] at hzv
    have hZs : Z.toArray.size = 32 := by rw [hZ]; rfl
    have slA : ∀ (p : Nat) (W : World), (Instr.sliceAt 29 (.pointer (some ⟨p, 0, none⟩)) none none none).run Tryd.prog W = .ok (.slice (some ⟨p, 0, none⟩) 32 32) W := fun p W => slice_whole5 29 5 32 Tryd.underlying29 size_byte p 0 (by omega) W
    have HZS := hide hZs
    have HSA := hide hsA
    have HSD := hide hsD
    have HCX := hide hcx
    have hcv : ∀ W p, Blk W p 29 (A.map bv) → (convert 22 9 (.slice (some ⟨p, 0, none⟩) 32 32)).run Tryd.prog W = .ok (.string SA) W := fun W p h => by
      have := conv_str (blk_bytes h 32 (by omega) (by decide))
      rw [hAl] at this
      rw [hSA]; exact this
    have HCV := hide hcv
    clear hj hq hr hA hD hAl hDl hsA hsD hte hx hcx hS hSA hSS hm hZ hZs hcv hT
    go_enter Tryd.func8, Tryd.ntmps8
    go_wp2_with (first
      | (go_at_call 17; refine (c1 _).mono ?_; rintro e w2 ⟨rfl, g2⟩; have hN2 : Blk (w2.alloc (.cells Z.toArray 29)) w2.heap.size 29 Z := Blk.new w2 _ Z; clear c1)
      | (refine wpList_store_row rfl 29 _ _ rfl w2.heap.size _ rfl rfl _ _ hN2 ?_ ?_ ?_ ?_; (rw [unhide HSA]; exact hi32); (rw [unhide HSA, unhide HZS]); (exact all_oneCell_toArray (bv_one _)); obtain ⟨W3, hW3⟩ : ∃ W3, W3 = (w2.alloc (.cells Z.toArray 29)).setRow w2.heap.size (A.map bv).toArray := ⟨_, rfl⟩; have hB3 := hN2.row (A.map bv); rw [← hW3] at hB3 ⊢; have g3 : w.grownBy W3 none := (by rw [hW3]; exact gb_row (gb_alloc g2 _) _ (Or.inl g2.size)); have hcv3 := unhide HCV _ _ hB3; clear hN2 hW3 hB3)
      | (go_at_call 18; refine (c2 _).mono ?_; rintro e w4 ⟨rfl, g4⟩; clear c2)
      | (go_at_call 17; refine (c3 _).mono ?_; rintro e w5 ⟨rfl, g5⟩; have hN5 : Blk (w5.alloc (.cells Z.toArray 29)) w5.heap.size 29 Z := Blk.new w5 _ Z; clear c3)
      | (refine wpList_store_row rfl 29 _ _ rfl w5.heap.size _ rfl rfl _ _ hN5 ?_ ?_ ?_ ?_; (rw [unhide HSD]; exact hi32); (rw [unhide HSD, unhide HZS]); (exact all_oneCell_toArray (bv_one _)); obtain ⟨W6, hW6⟩ : ∃ W6, W6 = (w5.alloc (.cells Z.toArray 29)).setRow w5.heap.size (D.map bv).toArray := ⟨_, rfl⟩; have hB6 := hN5.row (D.map bv); rw [← hW6] at hB6 ⊢; have g5' := gb_trans g3 (gb_trans g4 g5 (fun _ e => by cases e)) (fun _ e => by cases e); have g6 : w.grownBy W6 none := (by rw [hW6]; exact gb_row (gb_alloc g5' _) _ (Or.inl g5'.size)); have hc6 := unhide HCX _ _ hB6; clear hN5 hW6 hB6))
    go_ret
    exact ⟨rfl, g6⟩

end Go.Proofs.YtkbldpigbkecpaaDoor
