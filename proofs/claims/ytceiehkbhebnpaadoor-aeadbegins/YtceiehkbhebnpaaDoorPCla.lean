/- What poly's clamped answers: the clamped bytes' number, in limbs. No condition but that the bytes are sixteen. -/
import Derived.Test.YtceiehkbhebnpaaDoorPClamp
import Derived.Test.YtceiehkbhebnpaaDoorPSlice
namespace Go.Proofs.YtceiehkbhebnpaaDoor
open Go.RowKit

theorem leN_lt16 (l : List UInt8) (h : l.length ≤ 16) : leN l < t130 := by
  have h1 := leN_lt l
  have h2 : (256 : Nat) ^ l.length ≤ 256 ^ 16 := Nat.pow_le_pow_right (by omega) h
  have h3 : (256 : Nat) ^ 16 < t130 := by decide
  omega

theorem step_new {w W1 w2 W3 : World} {z : List Value} {Y : Array Value} {C : List UInt8} (h3 : W3 = w2.alloc (.cells Y 29)) (hY : Y = (zero16L.map bv).toArray) (g2 : W1.grownBy w2 none) (hR : Blk W1 (w.heap.size + 1) 62 z) (hg : w.grownBy W1 none) :
    ∃ W4, W4 = W3.setRow w2.heap.size (C.map bv).toArray ∧ Blk W4 w2.heap.size 29 (C.map bv) ∧ Blk W4 (w.heap.size + 1) 62 z ∧ w.grownBy W4 none := by
  have h2 := hR.kept g2 (by simp)
  have l2 := h2.lt
  have hn : Blk W3 w2.heap.size 29 (zero16L.map bv) := by rw [h3, hY]; exact Blk.new w2 _ _
  subst h3
  exact ⟨_, rfl, hn.row _, (h2.alloc _).row_other _ _ (by omega), gb_row (gb_alloc (gb_trans hg g2 (fun _ e => by cases e)) _) _ (Or.inl (by omega))⟩

set_option maxRecDepth 100000 in
set_option maxHeartbeats 1000000 in
theorem clamped_any (w : World) (l : List UInt8) (hl : l.length = 16) :
    Calls Tryd.prog 30 #[.agg (l.map bv).toArray] w fun e w' => ∃ n, Lim n ∧ v26 n = leN (clampL l) ∧ e = .returned (num n) ∧ w.grownBy w' none := by
  have hi16 : (Tryd.prog.info? 29).map (·.size) = some 16 := by kernel_rfl
  obtain ⟨A, hA⟩ : ∃ A : Array Value, A = (l.map bv).toArray := ⟨_, rfl⟩
  have hAs : A.size = 16 := by rw [hA]; simp [hl]
  obtain ⟨Z, hZ⟩ : ∃ A : Array Value, A = (zero5L.map nv).toArray := ⟨_, rfl⟩
  have hz := zero5
  rw [← hZ] at hz
  obtain ⟨Y, hY⟩ : ∃ A : Array Value, A = (zero16L.map bv).toArray := ⟨_, rfl⟩
  have hy : ∀ w : World, (zeroValue 29).run Tryd.prog w = .ok (.agg Y) w := by rw [hY]; exact zero16b
  obtain ⟨W1, hW1⟩ : ∃ W1, W1 = (w.alloc (.cells A 29)).alloc (.cells Z 62) := ⟨_, rfl⟩
  have hg : w.grownBy W1 none := by rw [hW1]; exact gb_alloc (gb_alloc (gb_refl _ _) _) _
  have hB1 : W1.heap[w.heap.size]? = some (.cells A 29 (0, 0)) := by
    have := (Blk.new w 29 (l.map bv)).alloc (.cells Z 62)
    rw [hW1, hA]; exact this
  have hR1 : Blk W1 (w.heap.size + 1) 62 (zero5L.map nv) := by
    have := Blk.new (w.alloc (.cells A 29)) 62 (zero5L.map nv)
    rw [World.size_alloc, ← hZ] at this
    rw [hW1]; exact this
  obtain ⟨C, hC⟩ : ∃ C, C = clampL l := ⟨_, rfl⟩
  have hCl : C.length = 16 := by rw [hC, clampL_length, hl]
  have hsC : ((C.map bv).toArray).size = 16 := by simp [hCl]
  have hpc := pclamp_any W1 l hl
  rw [← hA, ← hC] at hpc
  rw [← hA, ← hC]
  have hsl : ∀ (b : Nat) (W : World), (Instr.sliceAt 29 (.pointer (some ⟨b, 0, none⟩)) none none none).run Tryd.prog W = .ok (.slice (some ⟨b, 0, none⟩) 16 16) W := fun b W => slice_whole5 29 5 16 Tryd.underlying29 size_byte b 0 (by omega) W
  have HW1 := hide hW1
  have HB1 := hide hB1
  have HR1 := hide hR1
  have HAS := hide hAs
  have HSC := hide hsC
  have HCL := hide hCl
  have HY := hide hY
  clear hl hA hAs hZ hY hW1 hB1 hR1 hC hCl hsC
  go_enter Tryd.func30, Tryd.ntmps30
  go_wp2_with (first
    | (rw [← unhide HW1]; refine wpList_load_row rfl 29 _ rfl w.heap.size rfl _ _ _ _ (unhide HB1) Tryd.underlying29 rfl ?_ ?_; (rw [unhide HAS]; exact hi16))
    | (go_at_call 48; refine hpc.mono ?_; rintro e w2 ⟨rfl, g2⟩; clear hpc; obtain ⟨W3, hW3⟩ : ∃ W3, W3 = w2.alloc (.cells Y 29) := ⟨_, rfl⟩; have HW3 := hide hW3; clear hW3)
    | (rw [← unhide HW3]; refine wpList_store_row rfl 29 _ _ rfl w2.heap.size _ rfl rfl _ _ (by rw [unhide HW3]; exact heap_alloc_new _ _) ?_ ?_ ?_ ?_; (rw [unhide HSC]; exact hi16); (rw [unhide HSC, unhide HY]; rfl); (exact all_oneCell_toArray (bv_one _)); obtain ⟨W4, hW4, hC4, hR4, hg4⟩ : ∃ W4, W4 = W3.setRow w2.heap.size (C.map bv).toArray ∧ Blk W4 w2.heap.size 29 (C.map bv) ∧ Blk W4 (w.heap.size + 1) 62 (zero5L.map nv) ∧ w.grownBy W4 none := step_new (unhide HW3) (unhide HY) g2 (unhide HR1) hg; rw [← hW4]; have HR4 := hide hR4; have hnum := numberOf_any W4 (some ⟨w2.heap.size, 0, none⟩) 16 C (blk_bytes hC4 16 (by rw [unhide HCL]; omega) (by decide)) (by rw [unhide HCL]; omega) (leN_lt16 C (by rw [unhide HCL]; omega)); rw [unhide HCL] at hnum; clear hW4 hC4 hR4)
    | (go_at_call 31; refine hnum.mono ?_; rintro e w5 ⟨n, nl, nval, rfl, g5⟩; clear hnum; have hR5 := (unhide HR4).kept g5 (by simp); have hsn := num_size n nl.1; have hin := info5n n nl.1; have HSN := hide hsn; have HIN := hide hin; have HNL := hide nl; have HNV := hide nval; clear hsn hin nl nval; (unfold num))
    | (refine wpList_store_row rfl 62 _ _ rfl (w.heap.size + 1) _ rfl rfl _ _ hR5 ?_ ?_ ?_ ?_; (exact unhide HIN); (rw [unhide HSN]; rfl); (exact all_oneCell_toArray (nv_one _))))
  have hS := hR5.row (n.map nv)
  refine bodyPost_ret (v := num n) (results_cell_row (g := w.heap.size + 1) rfl _ _ _ _ _ _ ?_ hS Tryd.underlying62 rfl (unhide HIN)) rfl ⟨n, unhide HNL, unhide HNV, rfl, ?_⟩
  · rfl
  · exact gb_row (gb_trans hg4 g5 (fun _ e => by cases e)) _ (Or.inl (by omega))

end Go.Proofs.YtceiehkbhebnpaaDoor
