/- What disk's New, Arm, Down and Sectors answer. -/
import Derived.Test.YtfaipdifkmjdeaaDkA
import Derived.Test.YtfaipdifkmjdeaaMLst
import Derived.Test.YtfaipdifkmjdeaaMSame
namespace Go.Proofs.Ytfaipdifkmjdeaa
open Go.RowKit

theorem info_sec : (Try.prog.info? 70).map (fun i => (i.zero, i.size, i.bytes)) = some (some (.agg (secC zsec).toArray), 256, 256) := by kernel_rfl
theorem zero_sec (w : World) : (zeroValue 70).run Try.prog w = .ok (.agg (secC zsec).toArray) w := by kernel_rfl
theorem zsec_cell (j : Nat) (h : j < 256) : (secC zsec).toArray[j]! = bv 0 := by
  rw [List.getElem!_toArray, List.getElem!_eq_getElem?_getD]
  unfold secC zsec
  rw [List.map_replicate, List.getElem?_replicate, if_pos h]
  rfl
theorem rep_flat (n : Nat) : (List.replicate n zsec).flatMap secC = List.replicate (n * 256) (bv 0) := by
  induction n with
  | zero => rw [Nat.zero_mul]; rfl
  | succ n ih =>
    rw [List.replicate_succ, List.flatMap_cons, ih]
    unfold secC zsec
    rw [List.map_replicate, List.replicate_append_replicate]
    congr 1
    omega
theorem madeCells_at (z : Array Value) (n i : Nat) (h : i < (madeCells z n).size) : (madeCells z n)[i] = z[i % z.size]! := by simp [madeCells]
theorem made_sec (n : Nat) : madeCells (Value.agg (secC zsec).toArray).cells (n * 256) = ((List.replicate n zsec).flatMap secC).toArray := by
  have hz : (secC zsec).toArray.size = 256 := by rw [List.size_toArray, secC_len, zsec_len]
  rw [rep_flat]
  apply Array.ext
  · rw [size_madeCells, List.size_toArray, List.length_replicate]
  · intro i h1 h2
    rw [size_madeCells] at h1
    rw [madeCells_at, List.getElem_toArray, List.getElem_replicate]
    show (secC zsec).toArray[i % (secC zsec).toArray.size]! = bv 0
    rw [hz]
    exact zsec_cell _ (Nat.mod_lt _ (by omega))
theorem make_secs (W : World) (n : Nat) (h : n ≤ 1000000) : (Instr.makeSlice 58 (.int .i64 (n : Int)) (.int .i64 (n : Int))).run Try.prog W = .ok (.slice (some ⟨W.heap.size, 0, none⟩) n n) (W.alloc (.cells ((List.replicate n zsec).flatMap secC).toArray 70)) := by
  obtain ⟨i0, hi, hz0, hz1, hz2⟩ := info_parts info_sec
  rw [run_make W 58 70 i0 _ Try.underlying58 hi hz0 .i64 .i64 n n (by omega) (by omega) (by rw [hz2]; omega) (by omega), hz1]
  simp only [Int.toNat_natCast]
  rw [made_sec]

set_option maxRecDepth 100000 in
theorem dnew_no (w : World) (i : Int) (hi : i < 1 ∨ 2048 < i) : Calls Try.prog 8 #[.int .i64 i] w fun e w' => e = .returned (.tuple #[.pointer none, .int .i64 2]) ∧ w' = w := by
  by_cases h1 : i < 1
  · have hd : decide (i < 1) = true := by simp [h1]
    clear hi
    go_enter Try.func8, Try.ntmps8
    go_wp2
    go_ret2
    exact ⟨rfl, rfl⟩
  · have hd : decide (i < 1) = false := by simp [h1]
    have h2 : 2048 < i := by omega
    clear hi
    go_enter Try.func8, Try.ntmps8
    go_wp2
    go_ret2
    exact ⟨rfl, rfl⟩

set_option maxRecDepth 100000 in
theorem dnew_any (w : World) (n : Nat) (h1 : 1 ≤ n) (h2 : n ≤ 2048) : Calls Try.prog 8 #[.int .i64 (n : Int)] w fun e w' => ∃ d F, e = .returned (.tuple #[.pointer (some ⟨d, 0, none⟩), .int .i64 0]) ∧ DiskAt w.heap.size w' F d (newD n) ∧ w.grownBy w' none := by
  have hd1 : decide ((n : Int) < 1) = false := by simp; omega
  have hd2 : ¬ (2048 : Int) < n := by omega
  have hd3 : ¬ 2048 < n := by omega
  have hmk := make_secs w n (by omega)
  obtain ⟨C, hC⟩ : ∃ C, C = (List.replicate n zsec).flatMap secC := ⟨_, rfl⟩
  rw [← hC] at hmk
  obtain ⟨W1, hW1, hB1, g1⟩ := box_new w 70 C
  have hs1 : W1.heap.size = w.heap.size + 1 := by rw [hW1, World.size_alloc]
  rw [← hW1] at hmk
  have hmm : (Instr.makeMap 59 none).run Try.prog W1 = .ok (.map (some (w.heap.size + 1))) (W1.alloc (.map #[] 0)) := by rw [run_makeMap, hs1]
  obtain ⟨W2, hW2⟩ : ∃ W2, W2 = W1.alloc (.map #[] 0) := ⟨_, rfl⟩
  rw [← hW2] at hmm
  have hs2 : W2.heap.size = w.heap.size + 2 := by rw [hW2, World.size_alloc, hs1]
  have g2 : W1.grownBy W2 none := by rw [hW2]; exact gb_alloc (gb_refl _ _) _
  have hM2 : ImapAt W2 (w.heap.size + 1) [] := by rw [hW2, ← hs1]; exact ImapAt.new _
  obtain ⟨W3, hW3, hB3, g3⟩ := box_new W2 61 [.slice (some ⟨w.heap.size, 0, none⟩) n n, .slice none 0 0, .map (some (w.heap.size + 1)), .int .i64 (-1), .bool false]
  have hs3 : W3.heap.size = w.heap.size + 3 := by rw [hW3, World.size_alloc, hs2]
  rw [hs2] at hB3
  have hbx : ∀ V : World, True := fun _ => trivial
  have hfin : DiskAt w.heap.size W3 [w.heap.size, w.heap.size + 1, w.heap.size + 2] (w.heap.size + 2) (newD n) := by
    refine ⟨w.heap.size, n, w.heap.size + 1, [], .slice none 0 0, [], ?_, ?_, ⟨?_, ?_⟩, World.ownsRow_nil _ _ _ _, ⟨hM2.none g3, fun i => by simp [newD], (fun p hp => by cases hp), (fun p hp => by cases hp)⟩, by simp, by simp, by simp, (fun b hb => by cases hb), (fun p hp => by cases hp), ?_, newD_ok (by omega) h2⟩
    · simpa [newD] using hB3
    · have := (hB1.kept g2 (by simp)).kept g3 (by simp)
      rw [hC] at this
      simpa [newD] using this
    · simp [newD]
    · unfold maxLen; omega
    · intro x hx
      simp only [List.mem_cons, List.not_mem_nil, or_false] at hx
      omega
  have HF := hide hfin
  have HG := hide (tn (tn g1 g2) g3)
  have HW3 := hide hW3
  clear hfin hW1 hW2 hW3 hB1 hB3 g1 g2 g3 hM2 hC hs1 hs3 hbx
  go_enter Try.func8, Try.ntmps8
  go_wp2_with (rw [← unhide HW3])
  go_ret2
  exact ⟨_, rfl, ⟨_, unhide HF⟩, unhide HG⟩

set_option maxRecDepth 100000 in
theorem darm_any (u : Nat) (w : World) (F : List Nat) (d : Nat) (D : Dsk) (h : DiskAt u w F d D) (n : Int) (hn : n < 9223372036854775808) :
    Calls Try.prog 14 #[.pointer (some ⟨d, 0, none⟩), .int .i64 n] w fun e w' => e = .returned (.tuple #[]) ∧ DiskAt u w' F d (arD D n) ∧ w.grownBy w' (some d) ∧ d ∈ F := by
  obtain ⟨s, c, m, X, ov, K, h⟩ := h
  have c1 := h.made
  have f3 := h.blk.fz 3
  have h3 := h.c3
  have hfin : DiskAt u (w.setCell ⟨d, 3, none⟩ (.int .i64 n)) F d (arD D n) := ⟨s, c, m, X, ov, K, h.head (gb_set _ _ _ _) rfl rfl (h.blk.set 3 (.int .i64 n)) (h.ok.arm hn)⟩
  have HF := hide hfin
  have HI := hide h.inD
  have g := gb_set w d 3 (.int .i64 n)
  clear hfin h
  go_enter Try.func14, Try.ntmps14
  go_wp2_with (go_at_call 34; refine c1.mono ?_; rintro e w2 ⟨rfl, e2⟩; subst w2; clear c1)
  go_end0
  exact ⟨rfl, unhide HF, g, unhide HI⟩

set_option maxRecDepth 100000 in
theorem ddown_any (u : Nat) (w : World) (F : List Nat) (d : Nat) (D : Dsk) (h : DiskAt u w F d D) :
    Calls Try.prog 21 #[.pointer (some ⟨d, 0, none⟩)] w fun e w' => e = .returned (.bool D.down) ∧ w' = w := by
  obtain ⟨s, c, m, X, ov, K, h⟩ := h
  have c1 := h.made
  have h4 := h.c4
  clear h
  go_enter Try.func21, Try.ntmps21
  go_wp2_with (go_at_call 34; refine c1.mono ?_; rintro e w2 ⟨rfl, e2⟩; subst w2; clear c1)
  go_ret
  exact ⟨rfl, rfl⟩

set_option maxRecDepth 100000 in
theorem dsect_any (u : Nat) (w : World) (F : List Nat) (d : Nat) (D : Dsk) (h : DiskAt u w F d D) :
    Calls Try.prog 22 #[.pointer (some ⟨d, 0, none⟩)] w fun e w' => e = .returned (.int .i64 (D.safe.length : Int)) ∧ w' = w := by
  obtain ⟨s, c, m, X, ov, K, h⟩ := h
  have c1 := h.made
  have h0 := h.c0
  clear h
  go_enter Try.func22, Try.ntmps22
  go_wp2_with (go_at_call 34; refine c1.mono ?_; rintro e w2 ⟨rfl, e2⟩; subst w2; clear c1)
  go_ret
  exact ⟨rfl, rfl⟩

end Go.Proofs.Ytfaipdifkmjdeaa
