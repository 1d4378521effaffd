/- What kdf's keyBlock answers: a key, or its sum, and zeros behind it. Of a key of fewer than 2 to the 59 bytes. -/
import Derived.Test.YtikdpifacokfpaaDoorSOf
import Derived.Test.YtikdpifacokfpaaDoorKMask
namespace Go.Proofs.YtikdpifacokfpaaDoor
open Go.RowKit

theorem slice_arr_all {P : Program} (t e : TypeId) (n : Nat) (ht : P.underlying t = some (.array n e)) (hz : ∀ w, (Go.sizeOf e).run P w = .ok 1 w) (b o : Nat) (h3 : 0 < n) (W : World) :
    (Instr.sliceAt t (.pointer (some ⟨b, o, none⟩)) none none none).run P W = .ok (.slice (some ⟨b, o, none⟩) n n) W := by
  have ea : P.arrayLen t = n := by simp [Program.arrayLen, ht]
  have ee : P.elem t = e := by simp [Program.elem, ht]
  rw [run_sliceAt_array_all W t ⟨b, o, none⟩ (by rw [ea, ee]; exact ht), ea, ee, hz]
  simp only [Result.andThen_ok, slicedAt, Nat.zero_mul, Nat.sub_zero]
  rw [if_neg (by omega), Addr.add_mid]
  rfl

theorem size_row : (Tryd.prog.info? 5).map (·.size) = some 1 := by kernel_rfl

theorem copy_bts (w : World) (b o dl dc : Nat) (ao : Option Addr) (c : Nat) (x : List UInt8) (hx : Bts w ao c x) (hth : w.there b o (min x.length dl)) :
    (Builtin.copy_ #[30, 30] 3 #[.slice (some ⟨b, o, none⟩) dl dc, .slice ao x.length c]).run Tryd.prog w = .ok (goInt ((min x.length dl : Nat) : Int)) (w.setCells b o ((x.take (min x.length dl)).map bv)) := by
  cases ao with
  | none =>
    have h0 := hx.zip rfl
    have : x = [] := List.eq_nil_of_length_eq_zero h0.1
    subst this
    rw [run_copy_none w _ _ _ 5 _ _ _ _ _ _ Tryd.underlying30 size_row (by simp)]
    simp [World.setCells]
  | some ad =>
    have hl : ((x.take (min x.length dl)).map bv).length = min x.length dl := by simp
    have := run_copy_cells (P := Tryd.prog) w 30 30 3 5 b o dl dc ad x.length c ((x.take (min x.length dl)).map bv) Tryd.underlying30 size_row hl ((hx.take _ (by omega)).news ad rfl) (fun j hj => (hth j (by rw [hl] at hj; exact hj)).1) (fun j hj => (hth j (by rw [hl] at hj; exact hj)).2) (bv_one _)
    rw [hl] at this
    exact this

theorem fill_zero (x : List UInt8) (n : Nat) (h : x.length ≤ n) : (List.replicate n (0 : UInt8)).map bv = ([] : List Value) ++ ((List.replicate x.length (0 : UInt8)).map bv ++ (List.replicate (n - x.length) (0 : UInt8)).map bv) := by
  rw [List.nil_append, ← List.map_append, List.replicate_append_replicate, Nat.add_sub_cancel' h]

/-- Zeros, of which the first are written over. -/
theorem Blk.filled {w : World} {b : Nat} {t : TypeId} {n : Nat} (h : Blk w b t ((List.replicate n (0 : UInt8)).map bv)) (x : List UInt8) (hx : x.length ≤ n) : Blk (w.setCells b 0 (x.map bv)) b t ((x ++ List.replicate (n - x.length) 0).map bv) := by
  rw [fill_zero x n hx] at h
  have := Blk.setCells (x.map bv) _ h (by simp)
  simpa using this

set_option maxRecDepth 100000 in
set_option maxHeartbeats 1000000 in
theorem keyBlock_any (w : World) (ao : Option Addr) (c : Nat) (key : List UInt8) (hx : Bts w ao c key) (hT : Tabs w) (hlen : key.length < 576460752303423488) :
    Calls Tryd.prog 34 #[.slice ao key.length c] w fun e w' => e = .returned (.agg ((keyB key).map bv).toArray) ∧ w.grownBy w' none := by
  have hi64 : (Tryd.prog.info? 27).map (·.size) = some 64 := by kernel_rfl
  have hi32 : (Tryd.prog.info? 22).map (·.size) = some 32 := by kernel_rfl
  obtain ⟨Z, hZ⟩ : ∃ Z : Array Value, Z = ((List.replicate 64 (0 : UInt8)).map bv).toArray := ⟨_, rfl⟩
  have hzv := zero64
  rw [← hZ] at hzv
  obtain ⟨Y, hY⟩ : ∃ Y : Array Value, Y = ((List.replicate 32 (0 : UInt8)).map bv).toArray := ⟨_, rfl⟩
  have hyv := zero32
  rw [← hY] at hyv
  obtain ⟨W1, hW1⟩ : ∃ W1, W1 = (w.alloc (.cells Z 27)).alloc (.cells Z 27) := ⟨_, rfl⟩
  have hg1 : w.grownBy W1 none := by rw [hW1]; exact gb_alloc (gb_alloc (gb_refl _ _) _) _
  have hR1 : Blk W1 w.heap.size 27 ((List.replicate 64 (0 : UInt8)).map bv) := by
    rw [hW1, hZ]; exact (Blk.new w 27 ((List.replicate 64 (0 : UInt8)).map bv)).alloc _
  have hB1 : Blk W1 (w.heap.size + 1) 27 ((List.replicate 64 (0 : UInt8)).map bv) := by
    have := Blk.new (w.alloc (.cells Z 27)) 27 ((List.replicate 64 (0 : UInt8)).map bv)
    rw [World.size_alloc] at this
    rw [hW1, hZ]; rw [hZ] at this; exact this
  have hsz1 : W1.heap.size = w.heap.size + 2 := by rw [hW1]; simp
  have hx1 : Bts W1 ao c key := hx.kept hg1 (fun _ e => by cases e)
  have hsl := slice_arr_all 27 5 64 Tryd.underlying27 size_byte (w.heap.size + 1) 0 (by omega)
  have hsz : (((keyB key).map bv).toArray).size = 64 := by simp [keyB_length]
  have HSZ := hide hsz
  have HZ := hide hZ
  have HY := hide hY
  clear hZ hY hsz
  by_cases h : 64 < key.length
  · have hkb : keyB key = shaL key ++ List.replicate (64 - (shaL key).length) 0 := by unfold keyB keyCut; rw [if_pos h]
    have hsum := sumf_any W1 ao c key hx1 (hT.kept0 hg1) hlen
    obtain ⟨sl, hsl0⟩ : ∃ sl, sl = shaL key := ⟨_, rfl⟩
    have hl32 : sl.length = 32 := by rw [hsl0]; exact shaL_length _
    rw [← hsl0] at hsum hkb
    have h2 : (64 : Int) < (key.length : Int) := by omega
    have HKB := hide hkb
    have HW1 := hide hW1
    have HB1 := hide hB1
    have HR1 := hide hR1
    clear hkb hsl0 hx1 hx hT hlen hW1 hB1 hR1
    go_enter Tryd.func34, Tryd.ntmps34
    go_wp2_with fail
    rw [← unhide HW1]
    refine hsum.mono ?_
    rintro e w2 ⟨rfl, g2⟩
    have hge : W1.heap.size ≤ w2.heap.size := g2.size
    obtain ⟨W3, hW3⟩ : ∃ W3, W3 = (w2.alloc (.cells Y 22)).setRow w2.heap.size (sl.map bv).toArray := ⟨_, rfl⟩
    have hN2 : Blk (w2.alloc (.cells Y 22)) w2.heap.size 22 ((List.replicate 32 (0 : UInt8)).map bv) := by
      rw [unhide HY]; exact Blk.new w2 22 _
    have hB3 : Blk W3 w2.heap.size 22 (sl.map bv) := by rw [hW3]; exact hN2.row _
    have g3 : w2.grownBy W3 none := by rw [hW3]; exact gb_row (gb_alloc (gb_refl _ _) _) _ (Or.inl (Nat.le_refl _))
    have g13 : W1.grownBy W3 none := gb_trans g2 g3 (fun _ e => by cases e)
    have hb3 : Bts W3 (some ⟨w2.heap.size, 0, none⟩) 32 sl := by
      have : Blk W3 w2.heap.size 22 ([] ++ (sl.map bv ++ [])) := by simpa using hB3
      exact bts_blk this 32 (by omega) (by unfold maxLen; omega)
    have hK3 := (unhide HB1).kept g13 (by simp)
    have hR3 := (unhide HR1).kept g13 (by simp)
    have hcp := copy_bts W3 (w.heap.size + 1) 0 64 64 _ 32 sl hb3 (hK3.there 0 (min sl.length 64) (by simp; omega))
    rw [hl32, show min 32 64 = 32 from rfl, List.take_of_length_le (by omega)] at hcp
    obtain ⟨W4, hW4⟩ : ∃ W4, W4 = W3.setCells (w.heap.size + 1) 0 (sl.map bv) := ⟨_, rfl⟩
    have hK4 : Blk W4 (w.heap.size + 1) 27 ((keyB key).map bv) := by
      rw [hW4, unhide HKB]; exact hK3.filled sl (by omega)
    have hR4 : Blk W4 w.heap.size 27 ((List.replicate 64 (0 : UInt8)).map bv) := by
      rw [hW4]; exact Blk.setCells_other (by omega) _ _ hR3
    have g4 : w.grownBy W4 none := by
      rw [hW4]; exact gb_setCells (Or.inl (by omega)) _ _ (gb_trans hg1 g13 (fun _ e => by cases e))
    rw [← hW4] at hcp
    have hsl2 := slice_arr_all 22 5 32 Tryd.underlying22 size_byte w2.heap.size 0 (by omega)
    have hsz2 : ((sl.map bv).toArray).size = 32 := by simp [hl32]
    have HSZ2 := hide hsz2
    have HW3 := hide hW3
    have HN2 := hide hN2
    have HK4 := hide hK4
    have HR4 := hide hR4
    clear hsum hB3 g3 g13 hb3 hK3 hR3 hW4 hK4 hR4 hW3 hN2 hsz2 hl32
    go_wp2_with (first
      | (refine wpList_store_row rfl 22 _ _ rfl w2.heap.size _ rfl rfl _ _ (unhide HN2) ?_ ?_ ?_ ?_; (rw [unhide HSZ2]; exact hi32); (rw [unhide HSZ2]; rfl); (exact all_oneCell_toArray (bv_one _)); refine (show wpList _ _ _ _ _ W3 → _ from fun q => unhide HW3 ▸ q) ?_)
      | (refine wpList_load_row rfl 27 _ rfl (w.heap.size + 1) rfl _ _ _ _ (unhide HK4) Tryd.underlying27 rfl ?_ ?_; (rw [unhide HSZ]; exact hi64))
      | (refine wpList_store_row rfl 27 _ _ rfl w.heap.size _ rfl rfl _ _ (unhide HR4) ?_ ?_ ?_ ?_; (rw [unhide HSZ]; exact hi64); (rw [unhide HSZ]; rfl); (exact all_oneCell_toArray (bv_one _))))
    have hS := (unhide HR4).row ((keyB key).map bv)
    have hG : w.grownBy (W4.setRow w.heap.size ((keyB key).map bv).toArray) none := gb_row g4 _ (Or.inl (Nat.le_refl _))
    refine bodyPost_ret (v := .agg ((keyB key).map bv).toArray) (results_cell_row (g := w.heap.size) rfl _ _ _ _ _ _ ?_ hS Tryd.underlying27 rfl ?_) rfl ⟨rfl, hG⟩
    · rfl
    · rw [unhide HSZ]; exact hi64
  · have hkb : keyB key = key ++ List.replicate (64 - key.length) 0 := by unfold keyB keyCut; rw [if_neg h]
    have h2 : ¬ (64 : Int) < (key.length : Int) := by omega
    have hcp := copy_bts W1 (w.heap.size + 1) 0 64 64 ao c key hx1 (hB1.there 0 (min key.length 64) (by simp; omega))
    rw [show min key.length 64 = key.length by omega, List.take_length] at hcp
    obtain ⟨W4, hW4⟩ : ∃ W4, W4 = W1.setCells (w.heap.size + 1) 0 (key.map bv) := ⟨_, rfl⟩
    have hK4 : Blk W4 (w.heap.size + 1) 27 ((keyB key).map bv) := by
      rw [hW4, hkb]; exact hB1.filled key (by omega)
    have hR4 : Blk W4 w.heap.size 27 ((List.replicate 64 (0 : UInt8)).map bv) := by
      rw [hW4]; exact Blk.setCells_other (by omega) _ _ hR1
    have g4 : w.grownBy W4 none := by
      rw [hW4]; exact gb_setCells (Or.inl (by omega)) _ _ hg1
    rw [← hW4, hW1] at hcp
    have HK4 := hide hK4
    have HR4 := hide hR4
    clear hkb hx1 hx hT hlen hW4 hW1 hB1 hR1 hK4 hR4 hg1 hsz1
    go_enter Tryd.func34, Tryd.ntmps34
    go_wp2_with (first
      | (refine wpList_load_row rfl 27 _ rfl (w.heap.size + 1) rfl _ _ _ _ (unhide HK4) Tryd.underlying27 rfl ?_ ?_; (rw [unhide HSZ]; exact hi64))
      | (refine wpList_store_row rfl 27 _ _ rfl w.heap.size _ rfl rfl _ _ (unhide HR4) ?_ ?_ ?_ ?_; (rw [unhide HSZ]; exact hi64); (rw [unhide HSZ]; rfl); (exact all_oneCell_toArray (bv_one _))))
    have hS := (unhide HR4).row ((keyB key).map bv)
    have hG : w.grownBy (W4.setRow w.heap.size ((keyB key).map bv).toArray) none := gb_row g4 _ (Or.inl (Nat.le_refl _))
    refine bodyPost_ret (v := .agg ((keyB key).map bv).toArray) (results_cell_row (g := w.heap.size) rfl _ _ _ _ _ _ ?_ hS Tryd.underlying27 rfl ?_) rfl ⟨rfl, hG⟩
    · rfl
    · rw [unhide HSZ]; exact hi64

end Go.Proofs.YtikdpifacokfpaaDoor
