/- What Tag answers. -/
import Derived.Test.YtjckdgapefaokaaDoorALen
import Derived.Test.YtjckdgapefaokaaDoorBOne
import Derived.Test.YtjckdgapefaokaaDoorPSum
import Derived.Deep.MidRow
import Derived.Laws.Cover3
namespace Go.Proofs.YtjckdgapefaokaaDoor
open Go.RowKit

theorem zero64t (w : World) : (zeroValue 97).run Tryd.prog w = .ok (.agg ((List.replicate 64 (0 : UInt8)).map bv).toArray) w := by kernel_rfl
theorem new_row64 (w2 : World) (Z : Array Value) (hZ : Z = ((List.replicate 64 (0 : UInt8)).map bv).toArray) (T : List UInt8) : ∃ W3, W3 = (w2.alloc (.cells Z 97)).setRow w2.heap.size (T.map bv).toArray ∧ Blk W3 w2.heap.size 97 (T.map bv) ∧ w2.grownBy W3 none := by
  refine ⟨_, rfl, ?_, gb_row (gb_alloc (gb_refl _ _) _) _ (Or.inl (Nat.le_refl _))⟩
  subst hZ
  exact (Blk.new w2 97 ((List.replicate 64 (0 : UInt8)).map bv)).row _
theorem macT_pads (be x : List UInt8) : ((([] ++ be ++ zer16 (([] : List UInt8).length + be.length)) ++ x ++ zer16 (([] ++ be ++ zer16 (([] : List UInt8).length + be.length)).length + x.length)) ++ leB 8 be.length) ++ leB 8 x.length = macT be x := by
  unfold macT
  rw [List.nil_append, List.length_nil, Nat.zero_add, zer16_more _ _ (by rw [List.length_append]; exact zer16_mod _)]

set_option maxRecDepth 100000 in
set_option maxHeartbeats 2000000 in
theorem tag_any : TagC := by
  intro w k n be x bo xo cb cx hk hn hb hx hbe hxl hT
  have tr : ∀ {x y z : World}, x.grownBy y none → y.grownBy z none → x.grownBy z none := fun h k => gb_trans h k (fun _ e => by cases e)
  have hi32 : (Tryd.prog.info? 37).map (·.size) = some 32 := by kernel_rfl
  have hi12 : (Tryd.prog.info? 64).map (·.size) = some 12 := by kernel_rfl
  have hi16 : (Tryd.prog.info? 93).map (·.size) = some 16 := by kernel_rfl
  have hi64 : (Tryd.prog.info? 97).map (·.size) = some 64 := by kernel_rfl
  have hi32b : (Tryd.prog.info? 36).map (·.size) = some 32 := by kernel_rfl
  obtain ⟨Z, hZ⟩ : ∃ A : Array Value, A = ((List.replicate 16 (0 : UInt8)).map bv).toArray := ⟨_, rfl⟩
  have hz : ∀ w : World, (zeroValue 93).run Tryd.prog w = .ok (.agg Z) w := by rw [hZ]; exact zero16s
  obtain ⟨Y, hY⟩ : ∃ A : Array Value, A = ((List.replicate 64 (0 : UInt8)).map bv).toArray := ⟨_, rfl⟩
  have hyz := zero64t
  rw [← hY] at hyz
  obtain ⟨KA, hKA⟩ : ∃ A : Array Value, A = (k.map bv).toArray := ⟨_, rfl⟩
  obtain ⟨NA, hNA⟩ : ∃ A : Array Value, A = (n.map bv).toArray := ⟨_, rfl⟩
  have hsK : KA.size = 32 := by rw [hKA]; simp [hk]
  have hsN : NA.size = 12 := by rw [hNA]; simp [hn]
  obtain ⟨W1, hW1⟩ : ∃ W1, W1 = ((w.alloc (.cells KA 37)).alloc (.cells NA 64)).alloc (.cells Z 93) := ⟨_, rfl⟩
  have hg1 : w.grownBy W1 none := by rw [hW1]; exact gb_alloc (gb_alloc (gb_alloc (gb_refl _ _) _) _) _
  have hK1 : Blk W1 w.heap.size 37 (k.map bv) := by rw [hW1, hKA]; exact ((Blk.new w 37 _).alloc _).alloc _
  have hN1 : Blk W1 (w.heap.size + 1) 64 (n.map bv) := by
    have := (Blk.new (w.alloc (.cells KA 37)) 64 (n.map bv)).alloc (.cells Z 93)
    rw [World.size_alloc] at this
    rw [hW1, hNA]; exact this
  have hR1 : Blk W1 (w.heap.size + 2) 93 ((List.replicate 16 (0 : UInt8)).map bv) := by
    have := Blk.new ((w.alloc (.cells KA 37)).alloc (.cells NA 64)) 93 ((List.replicate 16 (0 : UInt8)).map bv)
    rw [World.size_alloc, World.size_alloc, ← hZ] at this
    rw [hW1]; exact this
  have HK1 : Hid (W1.heap[w.heap.size]? = some (.cells KA 37 (0, 0))) := hide (by rw [hKA]; exact hK1)
  have HN1 : Hid (W1.heap[w.heap.size + 1]? = some (.cells NA 64 (0, 0))) := hide (by rw [hNA]; exact hN1)
  obtain ⟨b, hbb⟩ : ∃ b, b = blockL k n 0 := ⟨_, rfl⟩
  have hbl : b.length = 64 := by rw [hbb]; exact blockL_length _ _ _
  have hsb : ((b.map bv).toArray).size = 64 := by simp [hbl]
  have hblk := block_any W1 k n 0 hk hn (hT.kept0 hg1)
  rw [show wz 0 = 0 from rfl, ← hbb, ← hKA, ← hNA] at hblk
  obtain ⟨K, hK⟩ : ∃ K, K = b.take 32 := ⟨_, rfl⟩
  have hKl : K.length = 32 := by rw [hK, List.length_take, hbl]; rfl
  have hiK : (Tryd.prog.info? 36).map (·.size) = some (K.map bv).length := by rw [List.length_map, hKl]; exact hi32b
  obtain ⟨T, hTe⟩ : ∃ T, T = tagA k n be x := ⟨_, rfl⟩
  have hTl : T.length = 16 := by rw [hTe]; exact tagA_length _ _ _ _
  have hsT : ((T.map bv).toArray).size = 16 := by simp [hTl]
  have hTK : T = tagL K (macT be x) := by rw [hTe, tagA, hK, hbb]
  have sl32 : ∀ (p : Nat) (W : World), (Instr.sliceAt 97 (.pointer (some ⟨p, 0, none⟩)) none (some (.int .i64 32)) none).run Tryd.prog W = .ok (.slice (some ⟨p, 0, none⟩) 32 64) W := fun p W => slice_arr_head 97 5 64 Tryd.underlying97 size_byte p 32 (by omega) (by omega) W
  have hat : ∀ (p : Nat) (W : World), (Instr.arrayAt 36 (.slice (some ⟨p, 0, none⟩) 32 64)).run Tryd.prog W = .ok (.pointer (some ⟨p, 0, none⟩)) W := fun p W => run_arrayAt W 36 5 32 _ 32 64 Tryd.underlying36 (by omega)
  rw [← hKA, ← hNA, ← hTe]
  have HR1 := hide hR1
  have HSK := hide hsK
  have HSN := hide hsN
  have HSB := hide hsb
  have HST := hide hsT
  have HW1 := hide hW1
  have HY := hide hY
  have HKE := hide hK
  have HKL := hide hKl
  have HTK := hide hTK
  have HBL := hide hbl
  clear hKA hNA hsK hsN hW1 hK1 hN1 hR1 hbb hbl hsb hK hKl hTe hTl hsT hTK hZ hY hk hn hT
  go_enter Tryd.func38, Tryd.ntmps38
  go_wp2_with (first
    | (rw [← unhide HW1]; refine wpList_load_row rfl 37 _ rfl w.heap.size rfl _ _ _ _ (unhide HK1) Tryd.underlying37 rfl ?_ ?_; (rw [unhide HSK]; exact hi32))
    | (refine wpList_load_row rfl 64 _ rfl (w.heap.size + 1) rfl _ _ _ _ (unhide HN1) Tryd.underlying64 rfl ?_ ?_; (rw [unhide HSN]; exact hi12))
    | (go_at_call 50; refine hblk.mono ?_; rintro e w2 ⟨rfl, g2⟩; clear hblk)
    | (refine wpList_store_row rfl 97 _ _ rfl w2.heap.size _ rfl rfl _ _ (heap_alloc_new w2 (.cells Y 97)) ?_ ?_ ?_ ?_; (rw [unhide HSB]; exact hi64); (rw [unhide HSB, unhide HY]; rfl); (exact all_oneCell_toArray (bv_one _)); obtain ⟨W3, hW3, hB3, g3⟩ := new_row64 w2 Y (unhide HY) b; rw [← hW3]; clear hW3; have G3 : w.grownBy W3 none := tr hg1 (tr g2 g3); have HB3 := hide hB3; clear hB3; have hp1 := lay16_any W3 W3 (.slice none 0 0) [] (Own.nil W3 W3) (gb_refl _ _) bo cb be (hb.kept G3 (fun _ e => by cases e)) (by decide) (by omega))
    | (go_at_call 51; refine hp1.mono ?_; rintro e w4 ⟨v4, rfl, hO4, g4⟩; clear hp1; have hp2 := lay16_any W3 w4 v4 _ hO4 g4 xo cx x (hx.kept (tr G3 g4) (fun _ e => by cases e)) (by simp [zer16_length]; omega) (by omega); clear hO4)
    | (go_at_call 51; refine hp2.mono ?_; rintro e w5 ⟨v5, rfl, hO5, g5⟩; clear hp2; have hp3 := len8_any W3 w5 v5 _ hO5 g5 be.length (by simp [zer16_length]; omega) (by omega); clear hO5)
    | (go_at_call 52; refine hp3.mono ?_; rintro e w6 ⟨v6, rfl, hO6, g6⟩; clear hp3; have hp4 := len8_any W3 w6 v6 _ hO6 g6 x.length (by simp [zer16_length, leB_length]; omega) (by omega); clear hO6)
    | (go_at_call 52; refine hp4.mono ?_; rintro e w7 ⟨v7, rfl, hO7, g7⟩; clear hp4; rw [macT_pads] at hO7; have hb7 := (unhide HB3).kept g7 (by simp); have hr7 : w7.rangeAt w2.heap.size 0 (K.map bv) := (by rw [unhide HKE]; exact blk_head hb7 32); obtain ⟨ao7, c7, hv7, hB7⟩ := hO7.slice; have hps := psum_any w7 K (unhide HKL) ao7 c7 (macT be x) hB7 (by have := macT_length be x; omega); rw [← unhide HTK] at hps; have hR7 := (unhide HR1).kept (tr g2 (tr g3 g7)) (by simp); clear hO7 hb7 hB7)
    | (refine wpList_load_mid rfl 36 _ rfl w2.heap.size 0 rfl (K.map bv) _ hr7 Tryd.underlying36 rfl hiK ?_))
  refine hps.mono ?_
  rintro e w8 ⟨rfl, g8⟩
  have hR8 := hR7.kept g8 (by simp)
  clear hps hR7 hr7
  go_wp2_with (refine wpList_store_row rfl 93 _ _ rfl (w.heap.size + 2) _ rfl rfl _ _ hR8 ?_ ?_ ?_ ?_; (rw [unhide HST]; exact hi16); (rw [unhide HST]; rfl); (exact all_oneCell_toArray (bv_one _)))
  have hS := hR8.row (T.map bv)
  refine bodyPost_ret (v := .agg (T.map bv).toArray) (results_cell_row (g := w.heap.size + 2) rfl _ _ _ _ _ _ ?_ hS Tryd.underlying93 rfl ?_) rfl ⟨rfl, gb_row (tr G3 (tr g7 g8)) _ (Or.inl (by omega))⟩
  · rfl
  · rw [unhide HST]; exact hi16
end Go.Proofs.YtjckdgapefaokaaDoor
