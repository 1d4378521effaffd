/- What fill of draws' Source does: the next bytes are put all over what it was handed. Of at most 65536 bytes at a time, where all in all fewer than 2 to the 46 are told. -/
import Derived.Test.YtjckdgapefaokaaDoorDFol
import Derived.Lib.LazyBuf
import Derived.Test.YtjckdgapefaokaaDoorMMake
namespace Go.Proofs.YtjckdgapefaokaaDoor
open Go.RowKit

theorem str_from (l : List UInt8) (n : Nat) : (str l).extract n (str l).size = str (l.drop n) := by
  apply ByteArray.ext
  rw [ByteArray.data_extract, str_size]
  show l.toArray.extract n l.length = (l.drop n).toArray
  rw [List.extract_toArray, List.extract_eq_take_drop, List.take_of_length_le (by simp)]

theorem run_copy_str {P : Program} (w : World) (dT sT ty elem : TypeId) (b o dLen dCap : Nat) (l : List UInt8) (m : Nat) (hm : m = min l.length dLen)
    (hu : P.underlying dT = some (.slice elem)) (hz : ∀ w, (Go.sizeOf elem).run P w = .ok 1 w)
    (hth : ∀ j, j < m → (w.cell? ⟨b, o + j, none⟩).isSome = true ∧ w.frozen? ⟨b, o + j, none⟩ = false) :
    (Builtin.copy_ #[dT, sT] ty #[.slice (some ⟨b, o, none⟩) dLen dCap, .string (str l)]).run P w = .ok (goInt m) (w.setCells b o ((l.take m).map bv)) := by
  have hmin : Nat.min l.length dLen = m := hm.symm
  have hl : ((l.take m).map bv).length = m := by rw [List.length_map, List.length_take]; omega
  have hst := run_storeCells_cells (P := P) b o ((l.take m).map bv) 0 w (by rw [hl]; simpa using fun j hj => (hth j hj).1) (by rw [hl]; simpa using fun j hj => (hth j hj).2) (bv_one _)
  have hd : (str l).data.toList = l := rfl
  have htk : List.take m (l.map fun x => Value.int .u8 (x.toNat : Int)) = (l.take m).map bv := by rw [← List.map_take]; rfl
  simp [Builtin.copy_, run_underlying hu, Builtin.lenOf, Builtin.firstCells, hz, str_size, hmin, hd]
  rw [htk, hst]
  simp only [Result.andThen_ok, Nat.add_zero, List.map_take]

set_option maxRecDepth 100000 in
set_option maxHeartbeats 2000000 in
theorem fill_of (u w : World) (b rb : Nat) (tt : TypeId) (T : List UInt8) (us : Nat) (zs : List UInt8) (c : Nat)
    (hbeg : Calls Tryd.prog 48 #[.pointer (some ⟨b, 0, none⟩)] w fun e w' => e = .returned (.tuple #[]) ∧ SrcAt w' b T us ∧ w.grownBy w' (some b))
    (hR : Blk w rb tt (zs.map bv)) (hne : rb ≠ b) (hu : u.grownBy w (some b)) (hrb : u.heap.size ≤ rb) (hTa : ∀ a, u.grownBy a (some b) → Tabs a) (hc : zs.length ≤ c) (hz : zs.length ≤ 65536) (hus : us ≤ 70368744177664) :
    Calls Tryd.prog 36 #[.pointer (some ⟨b, 0, none⟩), .slice (some ⟨rb, 0, none⟩) zs.length c] w fun e w' => e = .returned (.tuple #[]) ∧ Blk w' rb tt ((told T us zs.length).map bv) ∧ SrcAt w' b T (us + zs.length) ∧ u.grownBy w' (some b) := by
  obtain ⟨N, hN⟩ : ∃ N, N = zs.length := ⟨_, rfl⟩
  rw [← hN] at hc hz ⊢
  have HN := hide hN
  clear hN
  go_enter Tryd.func36, Tryd.ntmps36
  go_wp2_with (go_at_call 48; refine hbeg.mono ?_)
  rintro e w1 ⟨rfl, hS1, g1⟩
  have hR1 := hR.kept g1 (fun e => hne (by cases e; rfl))
  have hu1 : u.grownBy w1 (some b) := gb_trans hu g1 (fun _ e => Or.inr e)
  obtain ⟨n0, hn0⟩ : ∃ n0, n0 = min (T.drop us).length N := ⟨_, rfl⟩
  have hdl : (T.drop us).length = T.length - us := by simp
  have hn0N : n0 ≤ N := by omega
  have hn0l : n0 ≤ (T.drop us).length := by omega
  have hRs : Blk w1 rb tt ([] ++ ((zs.take n0).map bv ++ (zs.drop n0).map bv)) := by
    rw [List.nil_append, ← List.map_append, List.take_append_drop]
    exact hR1
  have hzl : ((zs.take n0).map bv).length = n0 := by rw [List.length_map, List.length_take, ← unhide HN]; omega
  have hth := hRs.thereIn
  rw [hzl, List.length_nil] at hth
  have hcp := run_copy_str (P := Tryd.prog) w1 22 9 3 5 rb 0 N c (T.drop us) n0 hn0 Tryd.underlying22 size_byte hth
  obtain ⟨W2, hW2⟩ : ∃ W2, W2 = w1.setCells rb 0 (((T.drop us).take n0).map bv) := ⟨_, rfl⟩
  rw [← hW2] at hcp
  have hB1 : Blk w1 b 77 (midC T (T.drop us) (us - T.length) us) := hS1.blk
  have hB2 : Blk W2 b 77 (midC T (T.drop us) (us - T.length) us) := by rw [hW2]; exact Blk.setCells_other hne _ _ hB1
  have htold : told T us n0 = (T.drop us).take n0 := by
    by_cases h : us ≤ T.length
    · exact told_texts T us n0 (by omega)
    · have : n0 = 0 := by omega
      rw [this]; simp [told]
  have hR2 : Blk W2 rb tt ((told T us n0 ++ zs.drop n0).map bv) := by
    have := Blk.setCells (((T.drop us).take n0).map bv) _ hRs (by rw [hzl, List.length_map, List.length_take]; omega)
    rw [List.length_nil, ← hW2] at this
    rw [htold]
    simpa using this
  have hG2 : u.grownBy W2 (some b) := by rw [hW2]; exact gb_setCells (Or.inl hrb) _ _ hu1
  have hsl : ∀ W, (Instr.slice 9 (.string (str (T.drop us))) (some (.int .i64 (n0 : Int))) none none).run Tryd.prog W = .ok (.string (str (T.drop (us + n0)))) W := fun W => by
    rw [run_slice_string_l W 9 _ Tryd.underlying9 .i64 (n0 : Int) (by omega) (by rw [str_size]; omega), Int.toNat_natCast, str_from _ _, List.drop_drop]
  have hc1 := mid_cell0 hB1
  have hc2 := mid_cell0 hB2
  have hfz := hB2.fz 0
  obtain ⟨A, hA⟩ : ∃ A, A = str (T.drop us) := ⟨_, rfl⟩
  obtain ⟨A', hA'⟩ : ∃ A', A' = str (T.drop (us + n0)) := ⟨_, rfl⟩
  rw [← hA] at hcp hsl hc1 hc2
  rw [← hA'] at hsl
  obtain ⟨W3, hW3⟩ : ∃ W3, W3 = W2.setCell ⟨b, 0, none⟩ (.string A') := ⟨_, rfl⟩
  have hB3 : Blk W3 b 77 (midC T (T.drop (us + n0)) (us + n0 - T.length) us) := by
    rw [hW3, hA', show us + n0 - T.length = us - T.length by omega, ← mid_set0 T (T.drop us)]
    exact hB2.set 0 _
  have hR3 : Blk W3 rb tt ((told T us n0 ++ zs.drop n0).map bv) := by rw [hW3]; exact hR2.other _ _ (fun e => hne e.symm)
  have hG3 : u.grownBy W3 (some b) := by rw [hW3]; exact gb_setCell hG2 _ _ (Or.inr rfl)
  have hgl := hS1.glb
  have HN0 := hide hn0
  have HDL := hide hdl
  have HNN := hide hn0N
  have HNL := hide hn0l
  clear hn0 hdl hn0N hn0l
  have HB3 := hide hB3
  have HR3 := hide hR3
  have HG3 := hide hG3
  have HW3 := hide hW3
  clear hB3 hR3 hG3 hW3 hB1 hB2 hR2 hG2 hR1 hRs hth hzl hS1 hbeg hR hu g1 hu1 hA hA' htold hW2
  go_upto_block 22 with fail
  rw [← unhide HW3]
  go_loopw [4] (fun i wr => ∃ k : Nat, k ≤ N ∧ n0 ≤ k ∧ i = .int .i64 k ∧ Blk wr rb tt ((told T us k ++ zs.drop k).map bv) ∧ Blk wr b 77 (midC T (T.drop (us + n0)) (us + k - T.length) us) ∧ u.grownBy wr (some b)) (fun i _ => N - (intOf i).toNat)
  case atStart => exact ⟨n0, unhide HNN, Nat.le_refl _, rfl, unhide HR3, unhide HB3, unhide HG3⟩
  case round =>
    obtain ⟨k, hk, hnk, rfl, hRk, hBk, hGk⟩ := hrel
    by_cases hlt : k < N
    · have hn0 := unhide HN0
      have hdl := unhide HDL
      obtain ⟨f, hf⟩ : ∃ f, f = us + k - T.length := ⟨_, rfl⟩
      have hpos : us + k = T.length + f := by omega
      rw [← hf] at hBk
      have hzd : (zs.drop k).length = N - k := by rw [List.length_drop, ← unhide HN]
      have hfo := follow_any u wr b rb tt T (T.drop (us + n0)) f us (told T us k) (zs.drop k) (c - k) hBk hRk hne hGk hrb hTa (by omega)
      rw [told_length, hzd] at hfo
      have hfrom : ∀ W, (Instr.slice 22 (.slice (some ⟨rb, 0, none⟩) N c) (some (.int .i64 (k : Int))) none none).run Tryd.prog W = .ok (.slice (some ⟨rb, k, none⟩) (N - k) (c - k)) W := fun W => by
        have := slice_from (P := Tryd.prog) W 22 5 Tryd.underlying22 size_byte (some ⟨rb, 0, none⟩) N c k (by omega)
        rw [this, cutA, if_neg (by omega), Option.map_some, Addr.add_lit, Nat.zero_add]
      have hnext : ∀ (k' : Nat) (P : List UInt8) w', k' = min (32 - f % 32) (N - k) → P = ((sumAt T (f / 32)).drop (f % 32)).take k' → Blk w' rb tt ((told T us k ++ P ++ (zs.drop k).drop k').map bv) → Blk w' b 77 (midC T (T.drop (us + n0)) (f + k') us) →
          k + k' ≤ N ∧ 1 ≤ k' ∧ n0 ≤ k + k' ∧ Blk w' rb tt ((told T us (k + k') ++ zs.drop (k + k')).map bv) ∧ Blk w' b 77 (midC T (T.drop (us + n0)) (us + (k + k') - T.length) us) := fun k' P w' h1 h2 h3 h4 => by
        refine ⟨by omega, by omega, by omega, ?_, ?_⟩
        · rw [told_add, hpos, told_sum T f k' (by omega), ← h2, ← List.drop_drop]; exact h3
        · rw [show us + (k + k') - T.length = f + k' by omega]; exact h4
      have HNX := hide hnext
      clear hRk hBk hGk hTa hpos hf hzd hn0 hdl hnext
      go_wp2_with (go_at_call 49; refine hfo.mono ?_; rintro e w2 ⟨k', P, hk', hP, rfl, hR2, hB2, hG2⟩; obtain ⟨q1, q2, q3, q4, q5⟩ := unhide HNX k' P w2 hk' hP hR2 hB2; have Q4 := hide q4; have Q5 := hide q5; clear q4 q5 hk' hP hR2 hB2 hfo)
      go_roundw
      case rel => exact ⟨k + k', q1, q3, by go_num, unhide Q4, unhide Q5, hG2⟩
      case measure => simp [intOf]; omega
    · obtain rfl : k = N := by omega
      have hn0 := unhide HN0
      have hdl := unhide HDL
      have hdr : T.drop (us + n0) = T.drop (us + k) := by
        by_cases h : n0 = k
        · rw [h]
        · rw [List.drop_eq_nil_of_le (by omega), List.drop_eq_nil_of_le (by omega)]
      rw [hdr] at hBk
      have hzd : zs.drop k = [] := List.drop_eq_nil_of_le (by rw [← unhide HN]; exact Nat.le_refl _)
      rw [hzd, List.append_nil] at hRk
      have hc34 := mid_cell34 hBk
      have hfz4 := hBk.fz 34
      have hadd : IntKind.i64.wrap ((us : Int) + (k : Int)) = (us : Int) + (k : Int) := by rw [IntKind.wrap_i64]; omega
      have hf1 : SrcAt (wr.setCell ⟨b, 34, none⟩ (.int .i64 ((us : Int) + (k : Int)))) b T (us + k) := by
        refine ⟨?_, hgl⟩
        rw [src_mid, ← mid_set34 T _ _ us (us + k), show ((us + k : Nat) : Int) = (us : Int) + (k : Int) from by omega]
        exact hBk.set 34 _
      have hf2 : Blk (wr.setCell ⟨b, 34, none⟩ (.int .i64 ((us : Int) + (k : Int)))) rb tt ((told T us k).map bv) := hRk.other _ _ (fun e => hne e.symm)
      have hf3 : u.grownBy (wr.setCell ⟨b, 34, none⟩ (.int .i64 ((us : Int) + (k : Int)))) (some b) := gb_setCell hGk _ _ (Or.inr rfl)
      have HF1 := hide hf1
      have HF2 := hide hf2
      have HF3 := hide hf3
      clear hf1 hf2 hf3 hBk hRk hGk hdr hzd hn0 hdl
      go_wp2
      go_end0
      exact ⟨rfl, unhide HF2, unhide HF1, unhide HF3⟩

end Go.Proofs.YtjckdgapefaokaaDoor

/- What Take and Key of draws' Source answer: the next bytes, in new memory. Where all in all fewer than 2 to the 46 are told. -/
namespace Go.Proofs.YtjckdgapefaokaaDoor
open Go.RowKit

/-- Whatever begin finds there, behind it the block b is a source of T of which u bytes were told. -/
structure Fit (w : World) (b : Nat) (T : List UInt8) (u : Nat) : Prop where
  lt : b < w.heap.size
  glb : Glb b
  begins : ∀ V, w.grownBy V none → Calls Tryd.prog 48 #[.pointer (some ⟨b, 0, none⟩)] V fun e w' => e = .returned (.tuple #[]) ∧ SrcAt w' b T u ∧ V.grownBy w' (some b)

theorem SrcAt.fit {w : World} {b : Nat} {T : List UInt8} {u : Nat} (h : SrcAt w b T u) : Fit w b T u :=
  ⟨h.blk.lt, h.glb, fun V hV => (begin_src V b T u (h.kept hV (by simp))).mono fun e w' ⟨he, hw⟩ => ⟨he, by rw [hw]; exact h.kept hV (by simp), by rw [hw]; exact gb_refl _ _⟩⟩

theorem plain_fit {w : World} {b : Nat} (h : Blk w b 77 zeroC) (hg : Glb b) (hT : Tabs w) : Fit w b [] 0 :=
  ⟨h.lt, hg, fun V hV => begin_plain V b (h.kept hV (by simp)) hg (hT.kept0 hV)⟩

set_option maxRecDepth 100000 in
theorem take_nil (w : World) (n : Int) : Calls Tryd.prog 22 #[.pointer none, .int .i64 n] w fun e w' => e = .returned (.slice none 0 0) ∧ w' = w := by
  go_enter Tryd.func22, Tryd.ntmps22
  go_wp2
  go_ret
  exact ⟨rfl, rfl⟩

set_option maxRecDepth 100000 in
theorem take_few (w : World) (b : Nat) (n : Int) (hn : n < 1) : Calls Tryd.prog 22 #[.pointer (some ⟨b, 0, none⟩), .int .i64 n] w fun e w' => e = .returned (.slice none 0 0) ∧ w' = w := by
  go_enter Tryd.func22, Tryd.ntmps22
  go_wp2
  go_ret
  exact ⟨rfl, rfl⟩

set_option maxRecDepth 100000 in
set_option maxHeartbeats 1000000 in
theorem take_some (w : World) (b : Nat) (T : List UInt8) (us n : Nat) (h : Fit w b T us) (hT : Tabs w) (h1 : 1 ≤ n) (hn : n ≤ 65536) (hus : us ≤ 70368744177664) :
    Calls Tryd.prog 22 #[.pointer (some ⟨b, 0, none⟩), .int .i64 (n : Int)] w fun e w' => ∃ g, e = .returned (.slice (some ⟨g, 0, none⟩) n n) ∧ w.heap.size ≤ g ∧ Blk w' g 5 ((told T us n).map bv) ∧ SrcAt w' b T (us + n) ∧ w.grownBy w' (some b) := by
  have hmk := fun W => make_bytes W n (by omega)
  obtain ⟨Z, hZ⟩ : ∃ Z : List UInt8, Z = List.replicate n 0 := ⟨_, rfl⟩
  rw [← hZ] at hmk
  have hZl : Z.length = n := by rw [hZ]; simp
  obtain ⟨W1, hW1⟩ : ∃ W1, W1 = w.alloc (.cells (Z.map bv).toArray 5) := ⟨_, rfl⟩
  have g1 : w.grownBy W1 none := by rw [hW1]; exact gb_alloc (gb_refl _ _) _
  have hB1 : Blk W1 w.heap.size 5 (Z.map bv) := by rw [hW1]; exact Blk.new w _ _
  have hlt := h.lt
  have hf := fill_of w W1 b w.heap.size 5 T us Z n (h.begins W1 g1) hB1 (by omega) (gb_none _ g1) (Nat.le_refl _) (fun a ha => tabs_src hT h.glb ha) (by omega) (by omega) hus
  rw [hZl] at hf
  have hmin : min (n : Int) 65536 = (n : Int) := by omega
  have HW1 := hide hW1
  clear hW1 hB1 g1 hZ hZl h hT
  go_enter Tryd.func22, Tryd.ntmps22
  go_wp2_with (go_at_call 36; rw [← unhide HW1]; refine hf.mono ?_; rintro e w2 ⟨rfl, hR, hS, g2⟩)
  go_ret
  exact ⟨_, rfl, Nat.le_refl _, hR, hS, g2⟩

theorem zero_key (w : World) : (zeroValue 37).run Tryd.prog w = .ok (.agg ((List.replicate 32 (0 : UInt8)).map bv).toArray) w := by kernel_rfl
theorem info_key : (Tryd.prog.info? 37).map (·.size) = some 32 := by kernel_rfl

/-- Two new keys of zeros. -/
theorem two_keys (w : World) (Z : List Value) : ∃ W2, W2 = (w.alloc (.cells Z.toArray 37)).alloc (.cells Z.toArray 37) ∧ Blk W2 w.heap.size 37 Z ∧ Blk W2 (w.heap.size + 1) 37 Z ∧ w.grownBy W2 none := by
  refine ⟨_, rfl, (Blk.new w 37 Z).alloc _, ?_, gb_alloc (gb_alloc (gb_refl _ _) _) _⟩
  have := Blk.new (w.alloc (.cells Z.toArray 37)) 37 Z
  rw [World.size_alloc] at this
  exact this

set_option maxRecDepth 100000 in
theorem key_nil (w : World) : Calls Tryd.prog 35 #[.pointer none] w fun e w' => e = .returned (.agg ((List.replicate 32 (0 : UInt8)).map bv).toArray) ∧ w.grownBy w' none := by
  have hzv := zero_key
  obtain ⟨z, hz⟩ : ∃ z : List UInt8, z = List.replicate 32 0 := ⟨_, rfl⟩
  rw [← hz] at hzv ⊢
  have hsz : ((z.map bv).toArray).size = 32 := by rw [hz]; rfl
  obtain ⟨W2, hW2, hR, hK, g2⟩ := two_keys w (z.map bv)
  have HSZ := hide hsz
  have HW2 := hide hW2
  clear hsz hz hW2
  go_enter Tryd.func35, Tryd.ntmps35
  go_wp2_with (first
    | (rw [← unhide HW2]; refine wpList_load_row rfl 37 _ rfl (w.heap.size + 1) rfl _ _ _ _ hK Tryd.underlying37 rfl ?_ ?_; (rw [unhide HSZ]; exact info_key))
    | (refine wpList_store_row rfl 37 _ _ rfl w.heap.size _ rfl rfl _ _ hR ?_ ?_ ?_ ?_; (rw [unhide HSZ]; exact info_key); rfl; (exact all_oneCell_toArray (bv_one _))))
  have hS := hR.row (z.map bv)
  refine bodyPost_ret (v := .agg (z.map bv).toArray) (results_cell_row (g := w.heap.size) rfl _ _ _ _ _ _ ?_ hS Tryd.underlying37 rfl ?_) rfl ⟨rfl, gb_row g2 _ (Or.inl (Nat.le_refl _))⟩
  · rfl
  · rw [unhide HSZ]; exact info_key

set_option maxRecDepth 100000 in
set_option maxHeartbeats 1000000 in
theorem key_any (w : World) (b : Nat) (T : List UInt8) (us : Nat) (h : Fit w b T us) (hT : Tabs w) (hus : us ≤ 70368744177664) :
    Calls Tryd.prog 35 #[.pointer (some ⟨b, 0, none⟩)] w fun e w' => e = .returned (.agg ((told T us 32).map bv).toArray) ∧ SrcAt w' b T (us + 32) ∧ w.grownBy w' (some b) := by
  have hzv := zero_key
  obtain ⟨z, hz⟩ : ∃ z : List UInt8, z = List.replicate 32 0 := ⟨_, rfl⟩
  rw [← hz] at hzv
  have hzl : z.length = 32 := by rw [hz]; rfl
  have hsz : ((z.map bv).toArray).size = 32 := by rw [hz]; rfl
  obtain ⟨W2, hW2, hR, hK, g2⟩ := two_keys w (z.map bv)
  have hlt := h.lt
  obtain ⟨W1, hW1⟩ : ∃ W1, W1 = w.alloc (.cells (z.map bv).toArray 37) := ⟨_, rfl⟩
  have g1 : w.grownBy W1 none := by rw [hW1]; exact gb_alloc (gb_refl _ _) _
  have g12 : W1.grownBy W2 none := by rw [hW2, ← hW1]; exact gb_alloc (gb_refl _ _) _
  have hs1 : W1.heap.size = w.heap.size + 1 := by rw [hW1, World.size_alloc]
  have hR1 : Blk W1 w.heap.size 37 (z.map bv) := by rw [hW1]; exact Blk.new w _ _
  have hf := fill_of W1 W2 b (w.heap.size + 1) 37 T us z 32 (h.begins W2 g2) hK (by omega) (gb_none _ g12) (by omega) (fun a ha => tabs_src (hT.kept0 g1) h.glb ha) (by omega) (by omega) hus
  rw [hzl] at hf
  obtain ⟨t, ht⟩ : ∃ t, t = told T us 32 := ⟨_, rfl⟩
  rw [← ht] at hf ⊢
  have htl : t.length = 32 := by rw [ht]; exact told_length _ _ _
  have hst : ((t.map bv).toArray).size = 32 := by simp [htl]
  have slK : ∀ W : World, (Instr.sliceAt 37 (.pointer (some ⟨w.heap.size + 1, 0, none⟩)) none none none).run Tryd.prog W = .ok (.slice (some ⟨w.heap.size + 1, 0, none⟩) 32 32) W := fun W => slice_whole5 37 5 32 Tryd.underlying37 size_byte (w.heap.size + 1) 0 (by omega) W
  have HST := hide hst
  have HSZ := hide hsz
  have HW2 := hide hW2
  have hbne : some w.heap.size ≠ some b := fun e => by cases e; omega
  have HBN := hide hbne
  clear hst hsz hz hzl hW2 ht htl hK h hT hR hW1 g12 hbne
  go_enter Tryd.func35, Tryd.ntmps35
  go_wp2_with (first
    | (go_at_call 36; rw [← unhide HW2]; refine hf.mono ?_; rintro e w3 ⟨rfl, hK3, hS3, g3⟩; have hR3 := hR1.kept g3 (unhide HBN); clear hf)
    | (refine wpList_load_row rfl 37 _ rfl (w.heap.size + 1) rfl _ _ _ _ hK3 Tryd.underlying37 rfl ?_ ?_; (rw [unhide HST]; exact info_key))
    | (refine wpList_store_row rfl 37 _ _ rfl w.heap.size _ rfl rfl _ _ hR3 ?_ ?_ ?_ ?_; (rw [unhide HST]; exact info_key); (rw [unhide HST, unhide HSZ]); (exact all_oneCell_toArray (bv_one _))))
  have hS := hR3.row (t.map bv)
  refine bodyPost_ret (v := .agg (t.map bv).toArray) (results_cell_row (g := w.heap.size) rfl _ _ _ _ _ _ ?_ hS Tryd.underlying37 rfl ?_) rfl ⟨rfl, ⟨hS3.blk.row_other _ _ (fun e => unhide HBN (by rw [e])), hS3.glb⟩, gb_row (gb_trans (gb_none _ g1) g3 (fun _ e => Or.inr e)) _ (Or.inl (Nat.le_refl _))⟩
  · rfl
  · rw [unhide HST]; exact info_key

end Go.Proofs.YtjckdgapefaokaaDoor
