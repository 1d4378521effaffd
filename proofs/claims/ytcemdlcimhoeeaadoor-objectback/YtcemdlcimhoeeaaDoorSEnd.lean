/- What sha's end leaves: what stands behind a text is taken in. Of a text of fewer than 2 to the 59 bytes. -/
import Derived.Test.YtcemdlcimhoeeaaDoorSWrite
namespace Go.Proofs.YtcemdlcimhoeeaaDoor
open Go.RowKit

theorem layHigh_i (w : World) (b p m c v : Nat) (z : Int) (hz : z = (v : Int)) (hm : m ≤ 8) (ht : w.there b p m) :
    Calls Tryd.prog 69 #[.slice (some ⟨b, p, none⟩) m c, .int .u64 z] w fun e w' => e = .returned (.tuple #[]) ∧ w' = w.setCells b p ((be8 m v).map bv) := by
  subst hz
  exact layHigh_any w b p m c v hm ht

theorem slice_arr_to {P : Program} (t e : TypeId) (n : Nat) (ht : P.underlying t = some (.array n e)) (hz : ∀ w, (Go.sizeOf e).run P w = .ok 1 w) (b o hi : Nat) (zh : Int) (hh : zh = (hi : Int)) (h2 : hi ≤ n) (h3 : 0 < n) (W : World) :
    (Instr.sliceAt t (.pointer (some ⟨b, o, none⟩)) none (some (.int .i64 zh)) none).run P W = .ok (.slice (some ⟨b, o, none⟩) hi n) W := by
  subst hh
  have ea : P.arrayLen t = n := by simp [Program.arrayLen, ht]
  have ee : P.elem t = e := by simp [Program.elem, ht]
  rw [run_sliceAt_array_h W t ⟨b, o, none⟩ (by rw [ea, ee]; exact ht) .i64 _ (by omega) (by omega), ea, ee, hz]
  simp only [Result.andThen_ok, slicedAt, Int.toNat_natCast, Nat.zero_mul, Nat.sub_zero]
  rw [if_neg (by omega), Addr.add_mid]
  rfl

theorem bts_blk {w : World} {b : Nat} {t : TypeId} {A C : List Value} {l : List UInt8} (h : Blk w b t (A ++ (l.map bv ++ C))) (c : Nat) (hc : l.length ≤ c) (hm : c ≤ maxLen) : Bts w (some ⟨b, A.length, none⟩) c l := by
  refine ⟨(fun e => by cases e), hc, hm, (fun ad e _ => by cases e; rfl), (fun ad e i hi => ?_)⟩
  cases e
  exact h.range i (bv l[i]) (by simp [hi])

theorem tail_zero (w : World) : (zeroValue 121).run Tryd.prog w = .ok (.agg (Array.replicate 72 (.int .u8 0))) w := by kernel_rfl

theorem tail_split (z m : Nat) (hz : z + 9 = m) (hm : m ≤ 72) : (128 :: List.replicate 71 (0 : UInt8)).map bv = (128 :: List.replicate z (0 : UInt8)).map bv ++ ((List.replicate 8 (0 : UInt8)).map bv ++ (List.replicate (72 - m) (0 : UInt8)).map bv) := by
  rw [← List.map_append, ← List.map_append]
  congr 1
  rw [List.replicate_append_replicate, List.cons_append, List.replicate_append_replicate]
  congr 2
  omega

set_option maxRecDepth 100000 in
set_option maxHeartbeats 1000000 in
theorem end_any (w : World) (b : Nat) (t : TypeId) (pre post : List Value) (words : List W) (rest l : List UInt8) (hH : HAt w b t pre post words rest l) (hT : Tabs w) (hG : Glb b) (hlen : l.length < 576460752303423488) :
    Calls Tryd.prog 68 #[.pointer (some ⟨b, pre.length, none⟩)] w fun e w' => e = .returned (.tuple #[]) ∧ (∃ words' rest', HAt w' b t pre post words' rest' (padL l)) ∧ w.grownBy w' (some b) := by
  obtain ⟨o, ho⟩ : ∃ o, o = pre.length := ⟨_, rfl⟩
  obtain ⟨n, hn⟩ : ∃ n, n = l.length := ⟨_, rfl⟩
  obtain ⟨f, hf⟩ : ∃ f, f = n % 64 := ⟨_, rfl⟩
  have hz := hH.size
  rw [← ho, ← hn] at hz
  rw [← hn] at hlen
  have hb := hH.lt
  have hf64 : f < 64 := by omega
  have hnm : (n : Int) % 64 = (f : Int) := by omega
  obtain ⟨Z, hZ⟩ : ∃ Z : Array Value, Z = Array.replicate 72 (.int .u8 0) := ⟨_, rfl⟩
  have hzv := tail_zero
  rw [← hZ] at hzv
  have hZ0 : Z[0]? = some (.int .u8 0) := by rw [hZ]; rfl
  have hZs : Z.size = 72 := by rw [hZ]; simp
  have HZ := hide hZ
  have HH := hide hH
  have HT := hide hT
  have HO := hide ho
  have HN := hide hn
  have HF := hide hf
  clear hZ hH hT hn hf
  rw [← ho]
  clear ho
  go_enter Tryd.func68, Tryd.ntmps68
  go_wp2
  · obtain ⟨m, hm⟩ : ∃ m : Nat, m = zerosN n + 9 := ⟨_, rfl⟩
    have hfn := unhide HF
    have hme : (64 - (f : Int) + 64 : Int) = (m : Int) := by rw [hm]; unfold zerosN; omega
    have hm9 : 9 ≤ m := by omega
    have hm72 : m ≤ 72 := by rw [hm]; unfold zerosN; omega
    rw [hme]
    obtain ⟨W1, hW1⟩ : ∃ W1, W1 = w.alloc (.cells (Z.setIfInBounds 0 (.int .u8 128)) 121) := ⟨_, rfl⟩
    rw [← hW1]
    have hB0 : Blk W1 w.heap.size 121 ((128 :: List.replicate 71 (0 : UInt8)).map bv) := by
      have : Z.setIfInBounds 0 (.int .u8 128) = ((128 :: List.replicate 71 (0 : UInt8)).map bv).toArray := by rw [unhide HZ]; rfl
      rw [hW1, this]
      exact Blk.new w _ _
    rw [tail_split (zerosN n) m hm.symm hm72] at hB0
    have hg1 : w.grownBy W1 none := by rw [hW1]; exact gb_alloc (gb_refl _ _) _
    have hz1 : W1.cell? ⟨b, o + 72, none⟩ = some (.int .u64 (n : Int)) := hg1.cell hz (by simp)
    have hsl := slice_arr 121 5 72 Tryd.underlying121 size_byte w.heap.size 0 (m - 8) m (IntKind.i64.wrap ((m : Int) - 8)) (m : Int) (by rw [IntKind.wrap_i64]; omega) rfl (by omega) (by omega) (by omega)
    rw [show m - (m - 8) = 8 by omega, Nat.zero_add] at hsl
    have hto := slice_arr_to 121 5 72 Tryd.underlying121 size_byte w.heap.size 0 m (m : Int) rfl (by omega) (by omega)
    have hal : ((128 :: List.replicate (zerosN n) (0 : UInt8)).map bv).length = m - 8 := by simp; omega
    have hth := hB0.thereIn
    rw [hal, List.length_map, List.length_replicate] at hth
    have hthd : W1.drew.there w.heap.size (m - 8) 8 := by simpa using hth
    have HB0 := hide hB0
    have HAL := hide hal
    have HM := hide hm
    have HW1 := hide hW1
    clear hB0 hal hm hme hW1 hfn
    go_region_with (first | (go_at_call 69; refine (layHigh_i _ w.heap.size (m - 8) 8 _ (n * 8) _ ?_ ?_ ?_).mono ?_; (first | omega | (rw [IntKind.wrap_u64]; omega)); (omega); (first | exact hthd | exact hth); rintro e w2 ⟨rfl, rfl⟩))
    obtain ⟨W2, hW2⟩ : ∃ W2, W2 = W1.drew.setCells w.heap.size (m - 8) ((be8 8 (n * 8)).map bv) := ⟨_, rfl⟩
    rw [← hW2]
    have hB2 : Blk W2 w.heap.size 121 ([] ++ ((tailL n).map bv ++ (List.replicate (72 - m) (0 : UInt8)).map bv)) := by
      have := Blk.setCells ((be8 8 (n * 8)).map bv) _ ((unhide HB0).drew) (by simp [be8_length])
      rw [unhide HAL, ← hW2] at this
      simpa [tailL, List.append_assoc] using this
    have hg2 : w.grownBy W2 none := by
      rw [hW2]; exact gb_setCells (Or.inl (Nat.le_refl _)) _ _ (gb_drew hg1)
    have htl : (tailL n).length = m := by rw [tailL_length, unhide HM]
    have hbt := bts_blk hB2 72 (by omega) (by unfold maxLen; omega)
    have hH2 := (unhide HH).kept hg2 (by simp)
    have hwr := write_any W2 b t pre post words rest l hH2 ((unhide HT).kept0 hg2) hG _ 72 (tailL n) hbt (by intro _ ad e; cases e; simp; omega) (by rw [← unhide HN]; omega)
    rw [htl, ← unhide HO, show ([] : List Value).length = 0 from rfl] at hwr
    have HT2 := hide htl
    clear hB2 hbt hH2 htl hW2
    go_wp2_with (go_at_call 58; refine hwr.mono ?_; rintro e w3 ⟨rfl, ⟨wo, re, hH3⟩, g3⟩)
    go_end0
    rw [unhide HN] at hH3
    exact ⟨rfl, ⟨wo, re, hH3⟩, gb_trans (gb_none _ hg2) g3 (fun y e => by cases e; exact Or.inr rfl)⟩
  · obtain ⟨m, hm⟩ : ∃ m : Nat, m = zerosN n + 9 := ⟨_, rfl⟩
    have hfn := unhide HF
    have hme : (64 - (f : Int) : Int) = (m : Int) := by rw [hm]; unfold zerosN; omega
    have hm9 : 9 ≤ m := by omega
    have hm72 : m ≤ 72 := by rw [hm]; unfold zerosN; omega
    rw [hme]
    obtain ⟨W1, hW1⟩ : ∃ W1, W1 = w.alloc (.cells (Z.setIfInBounds 0 (.int .u8 128)) 121) := ⟨_, rfl⟩
    rw [← hW1]
    have hB0 : Blk W1 w.heap.size 121 ((128 :: List.replicate 71 (0 : UInt8)).map bv) := by
      have : Z.setIfInBounds 0 (.int .u8 128) = ((128 :: List.replicate 71 (0 : UInt8)).map bv).toArray := by rw [unhide HZ]; rfl
      rw [hW1, this]
      exact Blk.new w _ _
    rw [tail_split (zerosN n) m hm.symm hm72] at hB0
    have hg1 : w.grownBy W1 none := by rw [hW1]; exact gb_alloc (gb_refl _ _) _
    have hz1 : W1.cell? ⟨b, o + 72, none⟩ = some (.int .u64 (n : Int)) := hg1.cell hz (by simp)
    have hsl := slice_arr 121 5 72 Tryd.underlying121 size_byte w.heap.size 0 (m - 8) m (IntKind.i64.wrap ((m : Int) - 8)) (m : Int) (by rw [IntKind.wrap_i64]; omega) rfl (by omega) (by omega) (by omega)
    rw [show m - (m - 8) = 8 by omega, Nat.zero_add] at hsl
    have hto := slice_arr_to 121 5 72 Tryd.underlying121 size_byte w.heap.size 0 m (m : Int) rfl (by omega) (by omega)
    have hal : ((128 :: List.replicate (zerosN n) (0 : UInt8)).map bv).length = m - 8 := by simp; omega
    have hth := hB0.thereIn
    rw [hal, List.length_map, List.length_replicate] at hth
    have hthd : W1.drew.there w.heap.size (m - 8) 8 := by simpa using hth
    have HB0 := hide hB0
    have HAL := hide hal
    have HM := hide hm
    have HW1 := hide hW1
    clear hB0 hal hm hme hW1 hfn
    go_region_with (first | (go_at_call 69; refine (layHigh_i _ w.heap.size (m - 8) 8 _ (n * 8) _ ?_ ?_ ?_).mono ?_; (first | omega | (rw [IntKind.wrap_u64]; omega)); (omega); (first | exact hthd | exact hth); rintro e w2 ⟨rfl, rfl⟩))
    obtain ⟨W2, hW2⟩ : ∃ W2, W2 = W1.drew.setCells w.heap.size (m - 8) ((be8 8 (n * 8)).map bv) := ⟨_, rfl⟩
    rw [← hW2]
    have hB2 : Blk W2 w.heap.size 121 ([] ++ ((tailL n).map bv ++ (List.replicate (72 - m) (0 : UInt8)).map bv)) := by
      have := Blk.setCells ((be8 8 (n * 8)).map bv) _ ((unhide HB0).drew) (by simp [be8_length])
      rw [unhide HAL, ← hW2] at this
      simpa [tailL, List.append_assoc] using this
    have hg2 : w.grownBy W2 none := by
      rw [hW2]; exact gb_setCells (Or.inl (Nat.le_refl _)) _ _ (gb_drew hg1)
    have htl : (tailL n).length = m := by rw [tailL_length, unhide HM]
    have hbt := bts_blk hB2 72 (by omega) (by unfold maxLen; omega)
    have hH2 := (unhide HH).kept hg2 (by simp)
    have hwr := write_any W2 b t pre post words rest l hH2 ((unhide HT).kept0 hg2) hG _ 72 (tailL n) hbt (by intro _ ad e; cases e; simp; omega) (by rw [← unhide HN]; omega)
    rw [htl, ← unhide HO, show ([] : List Value).length = 0 from rfl] at hwr
    have HT2 := hide htl
    clear hB2 hbt hH2 htl hW2
    go_wp2_with (go_at_call 58; refine hwr.mono ?_; rintro e w3 ⟨rfl, ⟨wo, re, hH3⟩, g3⟩)
    go_end0
    rw [unhide HN] at hH3
    exact ⟨rfl, ⟨wo, re, hH3⟩, gb_trans (gb_none _ hg2) g3 (fun y e => by cases e; exact Or.inr rfl)⟩
end Go.Proofs.YtcemdlcimhoeeaaDoor
