/- What 'make' of so many bytes answers. No condition but those that each lemma names. -/
import Derived.Test.YtjckdgapefaokaaDoorBMap
import Derived.Test.YtjckdgapefaokaaDoorMStr
import Derived.Test.YtjckdgapefaokaaDoorDFill
namespace Go.Proofs.YtjckdgapefaokaaDoor
open Go.RowKit

theorem made_bv (n : Nat) : madeCells (Value.int .u8 0).cells n = ((List.replicate n (0 : UInt8)).map bv).toArray := by
  apply Array.ext
  · simp [size_madeCells]
  · intro i h1 h2
    simp [madeCells, Value.cells, bv, Nat.mod_one]

theorem make_bytes (W : World) (n : Nat) (h : n ≤ 140737488355328) : (Instr.makeSlice 22 (.int .i64 (n : Int)) (.int .i64 (n : Int))).run Tryd.prog W = .ok (.slice (some ⟨W.heap.size, 0, none⟩) n n) (W.alloc (.cells ((List.replicate n (0 : UInt8)).map bv).toArray 5)) := by
  obtain ⟨i0, hi, hz0, hz1, hz2⟩ := info_parts info_byte
  rw [run_make W 22 5 i0 (.int .u8 0) Tryd.underlying22 hi hz0 .i64 .i64 n n (by omega) (by omega) (by rw [hz2]; omega) (by omega), hz1]
  simp only [Int.toNat_natCast, Nat.mul_one]
  rw [made_bv]

end Go.Proofs.YtjckdgapefaokaaDoor

/- What Take and Key of draws' Source answer: the next bytes, in new memory. Where all in all fewer than 2 to the 46 are told. -/
namespace Go.Proofs.YtjckdgapefaokaaDoor
open Go.RowKit

/-- Whatever begin finds there, behind it the block b is a source of T of which u bytes were told. -/
structure Fit (w : World) (b : Nat) (T : List UInt8) (u : Nat) : Prop where
  lt : b < w.heap.size
  glb : Glb b
  begins : ∀ V, w.grownBy V none → Calls Tryd.prog 48 #[.pointer (some ⟨b, 0, none⟩)] V fun e w' => e = .returned (.tuple #[]) ∧ SrcAt w' b T u ∧ V.grownBy w' (some b)

theorem SrcAt.fit {w : World} {b : Nat} {T : List UInt8} {u : Nat} (h : SrcAt w b T u) : Fit w b T u :=
  ⟨h.blk.lt, h.glb, fun V hV => (begin_src V b T u (h.kept hV (by simp))).mono fun e w' ⟨he, hw⟩ => ⟨he, by rw [hw]; exact h.kept hV (by simp), by rw [hw]; exact gb_refl _ _⟩⟩

theorem plain_fit {w : World} {b : Nat} (h : Blk w b 77 zeroC) (hg : Glb b) (hT : Tabs w) : Fit w b [] 0 :=
  ⟨h.lt, hg, fun V hV => begin_plain V b (h.kept hV (by simp)) hg (hT.kept0 hV)⟩

set_option maxRecDepth 100000 in
theorem take_nil (w : World) (n : Int) : Calls Tryd.prog 22 #[.pointer none, .int .i64 n] w fun e w' => e = .returned (.slice none 0 0) ∧ w' = w := by
  go_enter Tryd.func22, Tryd.ntmps22
  go_wp2
  go_ret
  exact ⟨rfl, rfl⟩

set_option maxRecDepth 100000 in
theorem take_few (w : World) (b : Nat) (n : Int) (hn : n < 1) : Calls Tryd.prog 22 #[.pointer (some ⟨b, 0, none⟩), .int .i64 n] w fun e w' => e = .returned (.slice none 0 0) ∧ w' = w := by
  go_enter Tryd.func22, Tryd.ntmps22
  go_wp2
  go_ret
  exact ⟨rfl, rfl⟩

set_option maxRecDepth 100000 in
set_option maxHeartbeats 1000000 in
theorem take_some (w : World) (b : Nat) (T : List UInt8) (us n : Nat) (h : Fit w b T us) (hT : Tabs w) (h1 : 1 ≤ n) (hn : n ≤ 65536) (hus : us ≤ 70368744177664) :
    Calls Tryd.prog 22 #[.pointer (some ⟨b, 0, none⟩), .int .i64 (n : Int)] w fun e w' => ∃ g, e = .returned (.slice (some ⟨g, 0, none⟩) n n) ∧ w.heap.size ≤ g ∧ Blk w' g 5 ((told T us n).map bv) ∧ SrcAt w' b T (us + n) ∧ w.grownBy w' (some b) := by
  have hmk := fun W => make_bytes W n (by omega)
  obtain ⟨Z, hZ⟩ : ∃ Z : List UInt8, Z = List.replicate n 0 := ⟨_, rfl⟩
  rw [← hZ] at hmk
  have hZl : Z.length = n := by rw [hZ]; simp
  obtain ⟨W1, hW1⟩ : ∃ W1, W1 = w.alloc (.cells (Z.map bv).toArray 5) := ⟨_, rfl⟩
  have g1 : w.grownBy W1 none := by rw [hW1]; exact gb_alloc (gb_refl _ _) _
  have hB1 : Blk W1 w.heap.size 5 (Z.map bv) := by rw [hW1]; exact Blk.new w _ _
  have hlt := h.lt
  have hf := fill_of w W1 b w.heap.size 5 T us Z n (h.begins W1 g1) hB1 (by omega) (gb_none _ g1) (Nat.le_refl _) (fun a ha => tabs_src hT h.glb ha) (by omega) (by omega) hus
  rw [hZl] at hf
  have hmin : min (n : Int) 65536 = (n : Int) := by omega
  have HW1 := hide hW1
  clear hW1 hB1 g1 hZ hZl h hT
  go_enter Tryd.func22, Tryd.ntmps22
  go_wp2_with (go_at_call 36; rw [← unhide HW1]; refine hf.mono ?_; rintro e w2 ⟨rfl, hR, hS, g2⟩)
  go_ret
  exact ⟨_, rfl, Nat.le_refl _, hR, hS, g2⟩

theorem zero_key (w : World) : (zeroValue 37).run Tryd.prog w = .ok (.agg ((List.replicate 32 (0 : UInt8)).map bv).toArray) w := by kernel_rfl
theorem info_key : (Tryd.prog.info? 37).map (·.size) = some 32 := by kernel_rfl

/-- Two new keys of zeros. -/
theorem two_keys (w : World) (Z : List Value) : ∃ W2, W2 = (w.alloc (.cells Z.toArray 37)).alloc (.cells Z.toArray 37) ∧ Blk W2 w.heap.size 37 Z ∧ Blk W2 (w.heap.size + 1) 37 Z ∧ w.grownBy W2 none := by
  refine ⟨_, rfl, (Blk.new w 37 Z).alloc _, ?_, gb_alloc (gb_alloc (gb_refl _ _) _) _⟩
  have := Blk.new (w.alloc (.cells Z.toArray 37)) 37 Z
  rw [World.size_alloc] at this
  exact this

set_option maxRecDepth 100000 in
theorem key_nil (w : World) : Calls Tryd.prog 35 #[.pointer none] w fun e w' => e = .returned (.agg ((List.replicate 32 (0 : UInt8)).map bv).toArray) ∧ w.grownBy w' none := by
  have hzv := zero_key
  obtain ⟨z, hz⟩ : ∃ z : List UInt8, z = List.replicate 32 0 := ⟨_, rfl⟩
  rw [← hz] at hzv ⊢
  have hsz : ((z.map bv).toArray).size = 32 := by rw [hz]; rfl
  obtain ⟨W2, hW2, hR, hK, g2⟩ := two_keys w (z.map bv)
  have HSZ := hide hsz
  have HW2 := hide hW2
  clear hsz hz hW2
  go_enter Tryd.func35, Tryd.ntmps35
  go_wp2_with (first
    | (rw [← unhide HW2]; refine wpList_load_row rfl 37 _ rfl (w.heap.size + 1) rfl _ _ _ _ hK Tryd.underlying37 rfl ?_ ?_; (rw [unhide HSZ]; exact info_key))
    | (refine wpList_store_row rfl 37 _ _ rfl w.heap.size _ rfl rfl _ _ hR ?_ ?_ ?_ ?_; (rw [unhide HSZ]; exact info_key); rfl; (exact all_oneCell_toArray (bv_one _))))
  have hS := hR.row (z.map bv)
  refine bodyPost_ret (v := .agg (z.map bv).toArray) (results_cell_row (g := w.heap.size) rfl _ _ _ _ _ _ ?_ hS Tryd.underlying37 rfl ?_) rfl ⟨rfl, gb_row g2 _ (Or.inl (Nat.le_refl _))⟩
  · rfl
  · rw [unhide HSZ]; exact info_key

set_option maxRecDepth 100000 in
set_option maxHeartbeats 1000000 in
theorem key_any (w : World) (b : Nat) (T : List UInt8) (us : Nat) (h : Fit w b T us) (hT : Tabs w) (hus : us ≤ 70368744177664) :
    Calls Tryd.prog 35 #[.pointer (some ⟨b, 0, none⟩)] w fun e w' => e = .returned (.agg ((told T us 32).map bv).toArray) ∧ SrcAt w' b T (us + 32) ∧ w.grownBy w' (some b) := by
  have hzv := zero_key
  obtain ⟨z, hz⟩ : ∃ z : List UInt8, z = List.replicate 32 0 := ⟨_, rfl⟩
  rw [← hz] at hzv
  have hzl : z.length = 32 := by rw [hz]; rfl
  have hsz : ((z.map bv).toArray).size = 32 := by rw [hz]; rfl
  obtain ⟨W2, hW2, hR, hK, g2⟩ := two_keys w (z.map bv)
  have hlt := h.lt
  obtain ⟨W1, hW1⟩ : ∃ W1, W1 = w.alloc (.cells (z.map bv).toArray 37) := ⟨_, rfl⟩
  have g1 : w.grownBy W1 none := by rw [hW1]; exact gb_alloc (gb_refl _ _) _
  have g12 : W1.grownBy W2 none := by rw [hW2, ← hW1]; exact gb_alloc (gb_refl _ _) _
  have hs1 : W1.heap.size = w.heap.size + 1 := by rw [hW1, World.size_alloc]
  have hR1 : Blk W1 w.heap.size 37 (z.map bv) := by rw [hW1]; exact Blk.new w _ _
  have hf := fill_of W1 W2 b (w.heap.size + 1) 37 T us z 32 (h.begins W2 g2) hK (by omega) (gb_none _ g12) (by omega) (fun a ha => tabs_src (hT.kept0 g1) h.glb ha) (by omega) (by omega) hus
  rw [hzl] at hf
  obtain ⟨t, ht⟩ : ∃ t, t = told T us 32 := ⟨_, rfl⟩
  rw [← ht] at hf ⊢
  have htl : t.length = 32 := by rw [ht]; exact told_length _ _ _
  have hst : ((t.map bv).toArray).size = 32 := by simp [htl]
  have slK : ∀ W : World, (Instr.sliceAt 37 (.pointer (some ⟨w.heap.size + 1, 0, none⟩)) none none none).run Tryd.prog W = .ok (.slice (some ⟨w.heap.size + 1, 0, none⟩) 32 32) W := fun W => slice_whole5 37 5 32 Tryd.underlying37 size_byte (w.heap.size + 1) 0 (by omega) W
  have HST := hide hst
  have HSZ := hide hsz
  have HW2 := hide hW2
  have hbne : some w.heap.size ≠ some b := fun e => by cases e; omega
  have HBN := hide hbne
  clear hst hsz hz hzl hW2 ht htl hK h hT hR hW1 g12 hbne
  go_enter Tryd.func35, Tryd.ntmps35
  go_wp2_with (first
    | (go_at_call 36; rw [← unhide HW2]; refine hf.mono ?_; rintro e w3 ⟨rfl, hK3, hS3, g3⟩; have hR3 := hR1.kept g3 (unhide HBN); clear hf)
    | (refine wpList_load_row rfl 37 _ rfl (w.heap.size + 1) rfl _ _ _ _ hK3 Tryd.underlying37 rfl ?_ ?_; (rw [unhide HST]; exact info_key))
    | (refine wpList_store_row rfl 37 _ _ rfl w.heap.size _ rfl rfl _ _ hR3 ?_ ?_ ?_ ?_; (rw [unhide HST]; exact info_key); (rw [unhide HST, unhide HSZ]); (exact all_oneCell_toArray (bv_one _))))
  have hS := hR3.row (t.map bv)
  refine bodyPost_ret (v := .agg (t.map bv).toArray) (results_cell_row (g := w.heap.size) rfl _ _ _ _ _ _ ?_ hS Tryd.underlying37 rfl ?_) rfl ⟨rfl, ⟨hS3.blk.row_other _ _ (fun e => unhide HBN (by rw [e])), hS3.glb⟩, gb_row (gb_trans (gb_none _ g1) g3 (fun _ e => Or.inr e)) _ (Or.inl (Nat.le_refl _))⟩
  · rfl
  · rw [unhide HST]; exact info_key

end Go.Proofs.YtjckdgapefaokaaDoor
