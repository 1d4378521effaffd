/- What the document's answer for layer 3 reckons: sum and Mac (package coffretref03): THE HMAC. Of a key and a text of fewer than 2 to the 30 bytes. -/
import Derived.Test.YtikdpifacokfpaaDoorRSum
import Derived.Test.YtikdpifacokfpaaDoorKLaw
namespace Go.Proofs.YtikdpifacokfpaaDoor
open Go.RowKit

set_option maxRecDepth 100000 in
set_option maxHeartbeats 1000000 in
theorem rsum3_any (w : World) (l : List UInt8) (hl : l.length < 1099511627776) :
    Calls Tryd.prog 28 #[.string (str l)] w fun e w' => e = .returned (.string (str (shaL l))) ∧ w.grownBy w' none := by
  have hi32 : (Tryd.prog.info? 22).map (·.size) = some 32 := by kernel_rfl
  obtain ⟨Y, hY⟩ : ∃ Y : Array Value, Y = ((List.replicate 32 (0 : UInt8)).map bv).toArray := ⟨_, rfl⟩
  have hyv := zero32'
  rw [← hY] at hyv
  have hs := rsum_any w l hl
  obtain ⟨sl, hsl⟩ : ∃ sl, sl = shaL l := ⟨_, rfl⟩
  rw [← hsl] at hs
  rw [← hsl]
  have hl32 : sl.length = 32 := by rw [hsl]; exact shaL_length _
  have HY := hide hY
  clear hY hsl hl
  go_enter Tryd.func28, Tryd.ntmps28
  go_wp2_with fail
  refine hs.mono ?_
  rintro e w2 ⟨rfl, g2⟩
  have hN2 : Blk (w2.alloc (.cells Y 22)) w2.heap.size 22 ((List.replicate 32 (0 : UInt8)).map bv) := by
    rw [unhide HY]; exact Blk.new w2 22 _
  obtain ⟨W3, hW3⟩ : ∃ W3, W3 = (w2.alloc (.cells Y 22)).setRow w2.heap.size (sl.map bv).toArray := ⟨_, rfl⟩
  have hB3 : Blk W3 w2.heap.size 22 (sl.map bv) := by rw [hW3]; exact hN2.row _
  have g3 : w.grownBy W3 none := by rw [hW3]; exact gb_row (gb_alloc g2 _) _ (Or.inl g2.size)
  have hb3 : Bts W3 (some ⟨w2.heap.size, 0, none⟩) 32 sl := bts_row hB3 32 (by omega) (by unfold maxLen; omega)
  have hcv := conv_str hb3
  rw [hl32] at hcv
  have hsls := slice_arr_all 22 5 32 Tryd.underlying22 size_byte w2.heap.size 0 (by omega)
  have hsz2 : ((sl.map bv).toArray).size = 32 := by simp [hl32]
  have HSZ2 := hide hsz2
  have HN2 := hide hN2
  have HW3 := hide hW3
  clear hs hsz2 hN2 hW3 hB3 hb3 hl32 g2
  go_wp2_with (first | (refine wpList_store_row rfl 22 _ _ rfl w2.heap.size _ rfl rfl _ _ (unhide HN2) ?_ ?_ ?_ ?_; (rw [unhide HSZ2]; exact hi32); (rw [unhide HSZ2]; rfl); (exact all_oneCell_toArray (bv_one _)); refine (show wpList _ _ _ _ _ W3 → _ from fun q => unhide HW3 ▸ q) ?_))
  go_ret
  exact ⟨rfl, g3⟩

theorem bts_byte (w : World) (x : UInt8) : Bts (w.alloc (.cells #[.int .u8 ((x.toNat : Nat) : Int)] 5)) (some ⟨w.heap.size, 0, none⟩) 1 [x] :=
  bts_row (t := 5) (l := [x]) (Blk.new w 5 ([x].map bv)) 1 (by simp) (by unfold maxLen; omega)

set_option maxRecDepth 100000 in
set_option maxHeartbeats 2000000 in
theorem rmac_short (w : World) (key s : List UInt8) (hkl : key.length ≤ 64) (hs : s.length < 1073741824) :
    Calls Tryd.prog 16 #[.string (str key), .string (str s)] w fun e w' => e = .returned (.string (str (macL key s))) ∧ w.grownBy w' none := by
  obtain ⟨kc, hkc⟩ : ∃ kc, kc = keyCut key := ⟨_, rfl⟩
  have hkk : key = kc := by rw [hkc, keyCut, if_neg (by omega)]
  have hk64 : kc.length ≤ 64 := by rw [← hkk]; exact hkl
  have hz0 : (str key).size = kc.length := by rw [str_size, hkk]
  have q0 : ¬ (64 : Int) < (kc.length : Int) := by omega
  have hkst : str key = str kc := by rw [hkk]
  have GW := gb_refl w none
  have HKC := hide hkc
  clear hkc hkl
  rw [hkst] at hz0 ⊢
  clear hkk hkst
  go_enter Tryd.func16, Tryd.ntmps16
  go_wp2
  go_loopw [0] (fun sv wr => ∃ j : Nat, j ≤ 64 - kc.length ∧ sv = .string (str (kc ++ List.replicate j 0)) ∧ wr = w) (fun sv _ => 64 - lenT sv)
  case atStart => exact ⟨0, Nat.zero_le _, by simp, rfl⟩
  case round =>
    obtain ⟨j, hj, rfl, rfl⟩ := hrel
    obtain ⟨t, ht⟩ : ∃ t, t = kc ++ List.replicate j 0 := ⟨_, rfl⟩
    rw [← ht]
    have htl : (str t).size = kc.length + j := by rw [str_size, ht]; simp
    have HTT := hide ht
    clear ht
    by_cases hlt : kc.length + j < 64
    · have hq : ((kc.length + j : Nat) : Int) < 64 := by omega
      have hq2 : (kc.length : Int) + (j : Int) < 64 := by omega
      have hc2 : str t ++ { data := #[0] } = str (t ++ [0]) := str_app t [0]
      go_wp2
      go_roundw
      case rel => exact ⟨j + 1, by omega, by rw [unhide HTT, List.replicate_succ', ← List.append_assoc], trivial⟩
      case measure =>
        have h1 : (str (t ++ [0])).size = kc.length + j + 1 := by rw [str_size, List.length_append, ← str_size t, htl]; rfl
        show 64 - (str (t ++ [0])).size < 64 - (str t).size
        rw [h1, htl]; omega
    · have hjk : kc.length + j = 64 := by omega
      have htk : t = keyB key := by
        rw [unhide HTT, keyB, ← unhide HKC, show j = 64 - kc.length by omega]
      have ht64 : (str t).size = 64 := by rw [htl]; exact hjk
      have hq : ¬ (kc.length : Int) + (j : Int) < 64 := by omega
      have htl2 : t.length = 64 := by rw [← str_size]; exact ht64
      have HTK := hide htk
      clear htk htl hjk
      go_wp2
      go_loopw [5, 6, 7] (fun av bv' i wq => ∃ k : Nat, k ≤ 64 ∧ i = .int .i64 k ∧ av = .string (str ((maskL 54 t).take k)) ∧ bv' = .string (str ((maskL 92 t).take k)) ∧ wr.grownBy wq none) (fun _ _ i _ => 64 - (intOf i).toNat)
      case atStart => exact ⟨0, Nat.zero_le _, rfl, by simp [str], by simp [str], gb_refl _ _⟩
      case round =>
        obtain ⟨k, hk64, rfl, rfl, rfl, hg⟩ := hrel
        by_cases hlt2 : k < 64
        · have hkt : k < t.length := by rw [htl2]; exact hlt2
          have hq0 : (0 : Int) ≤ (k : Int) := by omega
          have hq1 : (k : Int) < 64 := by omega
          obtain ⟨x, hx⟩ : ∃ x, x = t[k] := ⟨_, rfl⟩
          have hidx : ∀ h, ((str t)[k]'h) = x := fun h => by rw [hx]; rfl
          obtain ⟨ya, hya⟩ : ∃ y, y = x ^^^ 54 := ⟨_, rfl⟩
          obtain ⟨yb, hyb⟩ : ∃ y, y = x ^^^ 92 := ⟨_, rfl⟩
          have hxa : bits .xor .u8 ((x.toNat : Nat) : Int) 54 = ((ya.toNat : Nat) : Int) := by rw [hya]; exact b_xor x 54
          have hxb : bits .xor .u8 ((x.toNat : Nat) : Int) 92 = ((yb.toNat : Nat) : Int) := by rw [hyb]; exact b_xor x 92
          have cva : ∀ V : World, (convert 30 9 (.slice (some ⟨V.heap.size, 0, none⟩) 1 1)).run Tryd.prog (V.alloc (.cells #[.int .u8 ((ya.toNat : Nat) : Int)] 5)) = .ok (.string (str [ya])) (V.alloc (.cells #[.int .u8 ((ya.toNat : Nat) : Int)] 5)) := fun V => conv_str (bts_byte V ya)
          have cvb : ∀ V : World, (convert 30 9 (.slice (some ⟨V.heap.size + 1, 0, none⟩) 1 1)).run Tryd.prog ((V.alloc (.cells #[.int .u8 ((ya.toNat : Nat) : Int)] 5)).alloc (.cells #[.int .u8 ((yb.toNat : Nat) : Int)] 5)) = .ok (.string (str [yb])) ((V.alloc (.cells #[.int .u8 ((ya.toNat : Nat) : Int)] 5)).alloc (.cells #[.int .u8 ((yb.toNat : Nat) : Int)] 5)) := fun V => by
            have := conv_str (bts_byte (V.alloc (.cells #[.int .u8 ((ya.toNat : Nat) : Int)] 5)) yb)
            rw [World.size_alloc] at this
            exact this
          obtain ⟨A, hA⟩ : ∃ A, A = (maskL 54 t).take k := ⟨_, rfl⟩
          obtain ⟨B, hB⟩ : ∃ B, B = (maskL 92 t).take k := ⟨_, rfl⟩
          rw [← hA, ← hB]
          have sa : str A ++ str [ya] = str (A ++ [ya]) := str_app A _
          have sb : str B ++ str [yb] = str (B ++ [yb]) := str_app B _
          have za : (str A).size = k := by rw [str_size, hA, List.length_take, maskL_length]; omega
          have zb : (str B).size = k := by rw [str_size, hB, List.length_take, maskL_length]; omega
          have z1 : ∀ y : UInt8, (str [y]).size = 1 := fun y => str_size [y]
          have HX := hide hx
          have HYA := hide hya
          have HYB := hide hyb
          have HA := hide hA
          have HB := hide hB
          clear hx hya hyb hA hB
          go_wp2
          go_roundw
          case rel =>
            refine ⟨k + 1, by omega, by go_num, ?_, ?_, gb_alloc (gb_alloc hg _) _⟩
            · have hm : k < (maskL 54 t).length := by rw [maskL_length]; exact hkt
              rw [take_snoc hm, ← unhide HA, unhide HYA, unhide HX]; simp [maskL]
            · have hm : k < (maskL 92 t).length := by rw [maskL_length]; exact hkt
              rw [take_snoc hm, ← unhide HB, unhide HYB, unhide HX]; simp [maskL]
          case measure => simp [intOf]; omega
        · obtain rfl : k = 64 := by omega
          obtain ⟨A, hA⟩ : ∃ A, A = maskL 54 t := ⟨_, rfl⟩
          obtain ⟨B, hB⟩ : ∃ B, B = maskL 92 t := ⟨_, rfl⟩
          rw [List.take_of_length_le (by rw [maskL_length, htl2]; exact Nat.le_refl _), List.take_of_length_le (by rw [maskL_length, htl2]; exact Nat.le_refl _), ← hA, ← hB]
          have hAl : A.length = 64 := by rw [hA, maskL_length]; exact htl2
          have hBl : B.length = 64 := by rw [hB, maskL_length]; exact htl2
          have zA : (str A).size = 64 := by rw [str_size]; exact hAl
          have zB : (str B).size = 64 := by rw [str_size]; exact hBl
          have zs : (str s).size = s.length := str_size s
          have hsi : (s.length : Int) < 1073741824 := by omega
          have s1 : str A ++ str s = str (A ++ s) := str_app A s
          have i1 := fun V => rsum3_any V (A ++ s) (by rw [List.length_append]; omega)
          obtain ⟨I, hI⟩ : ∃ I, I = shaL (A ++ s) := ⟨_, rfl⟩
          rw [← hI] at i1
          have zI : (str I).size = 32 := by rw [str_size, hI]; exact shaL_length _
          have s2 : str B ++ str I = str (B ++ I) := str_app B I
          have i2 := fun V => rsum3_any V (B ++ I) (by rw [List.length_append, hI, shaL_length]; omega)
          obtain ⟨mk, hmk⟩ : ∃ mk, mk = shaL (B ++ I) := ⟨_, rfl⟩
          rw [← hmk] at i2
          have hfin : macL key s = mk := by rw [hmk, hI, hA, hB, macL, unhide HTK]
          have HFIN := hide hfin
          clear hA hB hI hmk hfin hAl hBl htl2 ht64
          rw [show ((64 : Nat) : Int) = 64 from rfl]
          go_wp2_with fail
          refine (i1 _).mono ?_
          rintro e u1 ⟨rfl, k1⟩
          clear i1
          go_wp2_with fail
          refine (i2 _).mono ?_
          rintro e u2 ⟨rfl, k2⟩
          clear i2
          go_wp2
          go_ret
          exact ⟨by rw [unhide HFIN]; rfl, gb_trans (gb_trans GW (gb_trans hg k1 (fun _ e => by cases e)) (fun _ e => by cases e)) k2 (fun _ e => by cases e)⟩

set_option maxRecDepth 100000 in
set_option maxHeartbeats 2000000 in
theorem rmac_long (w : World) (key s : List UInt8) (hkl : 64 < key.length) (hkm : key.length < 1073741824) (hs : s.length < 1073741824) :
    Calls Tryd.prog 16 #[.string (str key), .string (str s)] w fun e w' => e = .returned (.string (str (macL key s))) ∧ w.grownBy w' none := by
  have h0 := rsum3_any w key (by omega)
  obtain ⟨kc, hkc⟩ : ∃ kc, kc = keyCut key := ⟨_, rfl⟩
  have hkk : shaL key = kc := by rw [hkc, keyCut, if_pos hkl]
  rw [hkk] at h0
  have hk64 : kc.length ≤ 64 := by rw [hkc]; exact keyCut_le key
  have hz0 : (str key).size = key.length := str_size key
  have q0 : (64 : Int) < (key.length : Int) := by omega
  have hzc : (str kc).size = kc.length := str_size kc
  have HKC := hide hkc
  clear hkc hkl hkk
  go_enter Tryd.func16, Tryd.ntmps16
  go_wp2_with fail
  refine h0.mono ?_
  rintro e w0 ⟨rfl, GW⟩
  clear h0
  go_wp2
  go_loopw [0] (fun sv wr => ∃ j : Nat, j ≤ 64 - kc.length ∧ sv = .string (str (kc ++ List.replicate j 0)) ∧ wr = w0) (fun sv _ => 64 - lenT sv)
  case atStart => exact ⟨0, Nat.zero_le _, by simp, rfl⟩
  case round =>
    obtain ⟨j, hj, rfl, rfl⟩ := hrel
    obtain ⟨t, ht⟩ : ∃ t, t = kc ++ List.replicate j 0 := ⟨_, rfl⟩
    rw [← ht]
    have htl : (str t).size = kc.length + j := by rw [str_size, ht]; simp
    have HTT := hide ht
    clear ht
    by_cases hlt : kc.length + j < 64
    · have hq : ((kc.length + j : Nat) : Int) < 64 := by omega
      have hq2 : (kc.length : Int) + (j : Int) < 64 := by omega
      have hc2 : str t ++ { data := #[0] } = str (t ++ [0]) := str_app t [0]
      go_wp2
      go_roundw
      case rel => exact ⟨j + 1, by omega, by rw [unhide HTT, List.replicate_succ', ← List.append_assoc], trivial⟩
      case measure =>
        have h1 : (str (t ++ [0])).size = kc.length + j + 1 := by rw [str_size, List.length_append, ← str_size t, htl]; rfl
        show 64 - (str (t ++ [0])).size < 64 - (str t).size
        rw [h1, htl]; omega
    · have hjk : kc.length + j = 64 := by omega
      have htk : t = keyB key := by
        rw [unhide HTT, keyB, ← unhide HKC, show j = 64 - kc.length by omega]
      have ht64 : (str t).size = 64 := by rw [htl]; exact hjk
      have hq : ¬ (kc.length : Int) + (j : Int) < 64 := by omega
      have htl2 : t.length = 64 := by rw [← str_size]; exact ht64
      have HTK := hide htk
      clear htk htl hjk
      go_wp2
      go_loopw [5, 6, 7] (fun av bv' i wq => ∃ k : Nat, k ≤ 64 ∧ i = .int .i64 k ∧ av = .string (str ((maskL 54 t).take k)) ∧ bv' = .string (str ((maskL 92 t).take k)) ∧ wr.grownBy wq none) (fun _ _ i _ => 64 - (intOf i).toNat)
      case atStart => exact ⟨0, Nat.zero_le _, rfl, by simp [str], by simp [str], gb_refl _ _⟩
      case round =>
        obtain ⟨k, hk64, rfl, rfl, rfl, hg⟩ := hrel
        by_cases hlt2 : k < 64
        · have hkt : k < t.length := by rw [htl2]; exact hlt2
          have hq0 : (0 : Int) ≤ (k : Int) := by omega
          have hq1 : (k : Int) < 64 := by omega
          obtain ⟨x, hx⟩ : ∃ x, x = t[k] := ⟨_, rfl⟩
          have hidx : ∀ h, ((str t)[k]'h) = x := fun h => by rw [hx]; rfl
          obtain ⟨ya, hya⟩ : ∃ y, y = x ^^^ 54 := ⟨_, rfl⟩
          obtain ⟨yb, hyb⟩ : ∃ y, y = x ^^^ 92 := ⟨_, rfl⟩
          have hxa : bits .xor .u8 ((x.toNat : Nat) : Int) 54 = ((ya.toNat : Nat) : Int) := by rw [hya]; exact b_xor x 54
          have hxb : bits .xor .u8 ((x.toNat : Nat) : Int) 92 = ((yb.toNat : Nat) : Int) := by rw [hyb]; exact b_xor x 92
          have cva : ∀ V : World, (convert 30 9 (.slice (some ⟨V.heap.size, 0, none⟩) 1 1)).run Tryd.prog (V.alloc (.cells #[.int .u8 ((ya.toNat : Nat) : Int)] 5)) = .ok (.string (str [ya])) (V.alloc (.cells #[.int .u8 ((ya.toNat : Nat) : Int)] 5)) := fun V => conv_str (bts_byte V ya)
          have cvb : ∀ V : World, (convert 30 9 (.slice (some ⟨V.heap.size + 1, 0, none⟩) 1 1)).run Tryd.prog ((V.alloc (.cells #[.int .u8 ((ya.toNat : Nat) : Int)] 5)).alloc (.cells #[.int .u8 ((yb.toNat : Nat) : Int)] 5)) = .ok (.string (str [yb])) ((V.alloc (.cells #[.int .u8 ((ya.toNat : Nat) : Int)] 5)).alloc (.cells #[.int .u8 ((yb.toNat : Nat) : Int)] 5)) := fun V => by
            have := conv_str (bts_byte (V.alloc (.cells #[.int .u8 ((ya.toNat : Nat) : Int)] 5)) yb)
            rw [World.size_alloc] at this
            exact this
          obtain ⟨A, hA⟩ : ∃ A, A = (maskL 54 t).take k := ⟨_, rfl⟩
          obtain ⟨B, hB⟩ : ∃ B, B = (maskL 92 t).take k := ⟨_, rfl⟩
          rw [← hA, ← hB]
          have sa : str A ++ str [ya] = str (A ++ [ya]) := str_app A _
          have sb : str B ++ str [yb] = str (B ++ [yb]) := str_app B _
          have za : (str A).size = k := by rw [str_size, hA, List.length_take, maskL_length]; omega
          have zb : (str B).size = k := by rw [str_size, hB, List.length_take, maskL_length]; omega
          have z1 : ∀ y : UInt8, (str [y]).size = 1 := fun y => str_size [y]
          have HX := hide hx
          have HYA := hide hya
          have HYB := hide hyb
          have HA := hide hA
          have HB := hide hB
          clear hx hya hyb hA hB
          go_wp2
          go_roundw
          case rel =>
            refine ⟨k + 1, by omega, by go_num, ?_, ?_, gb_alloc (gb_alloc hg _) _⟩
            · have hm : k < (maskL 54 t).length := by rw [maskL_length]; exact hkt
              rw [take_snoc hm, ← unhide HA, unhide HYA, unhide HX]; simp [maskL]
            · have hm : k < (maskL 92 t).length := by rw [maskL_length]; exact hkt
              rw [take_snoc hm, ← unhide HB, unhide HYB, unhide HX]; simp [maskL]
          case measure => simp [intOf]; omega
        · obtain rfl : k = 64 := by omega
          obtain ⟨A, hA⟩ : ∃ A, A = maskL 54 t := ⟨_, rfl⟩
          obtain ⟨B, hB⟩ : ∃ B, B = maskL 92 t := ⟨_, rfl⟩
          rw [List.take_of_length_le (by rw [maskL_length, htl2]; exact Nat.le_refl _), List.take_of_length_le (by rw [maskL_length, htl2]; exact Nat.le_refl _), ← hA, ← hB]
          have hAl : A.length = 64 := by rw [hA, maskL_length]; exact htl2
          have hBl : B.length = 64 := by rw [hB, maskL_length]; exact htl2
          have zA : (str A).size = 64 := by rw [str_size]; exact hAl
          have zB : (str B).size = 64 := by rw [str_size]; exact hBl
          have zs : (str s).size = s.length := str_size s
          have hsi : (s.length : Int) < 1073741824 := by omega
          have s1 : str A ++ str s = str (A ++ s) := str_app A s
          have i1 := fun V => rsum3_any V (A ++ s) (by rw [List.length_append]; omega)
          obtain ⟨I, hI⟩ : ∃ I, I = shaL (A ++ s) := ⟨_, rfl⟩
          rw [← hI] at i1
          have zI : (str I).size = 32 := by rw [str_size, hI]; exact shaL_length _
          have s2 : str B ++ str I = str (B ++ I) := str_app B I
          have i2 := fun V => rsum3_any V (B ++ I) (by rw [List.length_append, hI, shaL_length]; omega)
          obtain ⟨mk, hmk⟩ : ∃ mk, mk = shaL (B ++ I) := ⟨_, rfl⟩
          rw [← hmk] at i2
          have hfin : macL key s = mk := by rw [hmk, hI, hA, hB, macL, unhide HTK]
          have HFIN := hide hfin
          clear hA hB hI hmk hfin hAl hBl htl2 ht64
          rw [show ((64 : Nat) : Int) = 64 from rfl]
          go_wp2_with fail
          refine (i1 _).mono ?_
          rintro e u1 ⟨rfl, k1⟩
          clear i1
          go_wp2_with fail
          refine (i2 _).mono ?_
          rintro e u2 ⟨rfl, k2⟩
          clear i2
          go_wp2
          go_ret
          exact ⟨by rw [unhide HFIN]; rfl, gb_trans (gb_trans GW (gb_trans hg k1 (fun _ e => by cases e)) (fun _ e => by cases e)) k2 (fun _ e => by cases e)⟩

theorem rmac_any (w : World) (key s : List UInt8) (hk : key.length < 1073741824) (hs : s.length < 1073741824) :
    Calls Tryd.prog 16 #[.string (str key), .string (str s)] w fun e w' => e = .returned (.string (str (macL key s))) ∧ w.grownBy w' none := by
  by_cases h : key.length ≤ 64
  · exact rmac_short w key s h hs
  · exact rmac_long w key s (by omega) hk hs

end Go.Proofs.YtikdpifacokfpaaDoor
