/- What poly's Sum answers: THE TAG. No condition but that the key has 32 bytes and that the text is no longer than 2 to the 40. -/
import Derived.Test.YtjckdgapefaokaaDoorPNumD
import Derived.Test.YtjckdgapefaokaaDoorPNumC
import Derived.Test.YtjckdgapefaokaaDoorMLst
import Derived.ArgAppend
import Derived.Deep.DrawnRows
import Derived.Deep.MidRow
import Derived.Laws.Cover3
namespace Go.Proofs.YtjckdgapefaokaaDoor
open Go.RowKit

/-- A new number in memory. -/
theorem new_num (w2 : World) (Z : Array Value) (hZ : Z = (zero5L.map nv).toArray) (rn : List Nat) : ∃ W3, W3 = (w2.alloc (.cells Z 132)).setRow w2.heap.size (rn.map nv).toArray ∧ Blk W3 w2.heap.size 132 (rn.map nv) ∧ w2.grownBy W3 none ∧ W3.heap.size = w2.heap.size + 1 := by
  refine ⟨_, rfl, ?_, gb_row (gb_alloc (gb_refl _ _) _) _ (Or.inl (Nat.le_refl _)), by simp⟩
  subst hZ
  exact (Blk.new w2 132 (zero5L.map nv)).row _
theorem alloc_num (w2 : World) (Z : Array Value) (hZ : Z = (zero5L.map nv).toArray) : ∃ W3, W3 = w2.alloc (.cells Z 132) ∧ Blk W3 w2.heap.size 132 (zero5L.map nv) ∧ w2.grownBy W3 none := by
  refine ⟨_, rfl, ?_, gb_alloc (gb_refl _ _) _⟩
  subst hZ
  exact Blk.new w2 132 (zero5L.map nv)
theorem v26_plus (a b : List Nat) (ha : a.length = 5) (hb : b.length = 5) : v26 ((List.range 5).map fun i => a.getD i 0 + b.getD i 0) = v26 a + v26 b := by
  obtain ⟨a0, a1, a2, a3, a4, rfl⟩ := five a ha
  obtain ⟨b0, b1, b2, b3, b4, rfl⟩ := five b hb
  simp only [List.range, List.range.loop, List.map_cons, List.map_nil, v26, List.getD_cons_zero, List.getD_cons_succ]
  omega
theorem plus_getD (a b : List Nat) (k : Nat) : ((List.range 5).map fun i => a.getD i 0 + b.getD i 0).getD k 0 ≤ a.getD k 0 + b.getD k 0 := by
  by_cases h : k < 5
  · simp [List.getD, h]
  · rw [getD_out _ _ (by simp; omega)]; omega
/-- The length that a slice's value tells. -/
def lenOf : Value → Nat
  | .slice _ n _ => n
  | _ => 0
theorem zero5_lin : Lin5 zero5L := by
  refine ⟨rfl, by decide, fun k _ => ?_⟩
  match k with
  | 0 => decide
  | 1 => decide
  | 2 => decide
  | 3 => decide
  | 4 => decide
  | k + 5 => rw [getD_out _ _ (by simp [zero5L])]; omega

theorem leN_snoc1 (l : List UInt8) : leN (l ++ [1]) = leN l + 256 ^ l.length := by
  unfold leN
  rw [List.map_append, valN_append, List.length_map]
  simp [valN]
theorem leN_snoc_lt (l : List UInt8) (h : l.length ≤ 16) : leN (l ++ [1]) < t130 := by
  rw [leN_snoc1]
  have h1 := leN_lt l
  have h2 : (256 : Nat) ^ l.length ≤ 256 ^ 16 := Nat.pow_le_pow_right (by omega) h
  have h3 : 2 * (256 : Nat) ^ 16 < t130 := by decide
  omega
theorem poly_mod (x B r p : Nat) : (x + B) * r % p = (x % p + B) * r % p := by
  rw [Nat.mul_mod, ← Nat.mod_add_mod x p B, ← Nat.mul_mod]
theorem leB_low (v : Nat) : leB 16 (v % t130) = leB 16 v := by
  unfold leB
  apply List.map_congr_left
  intro i hi
  have hi := List.mem_range.1 hi
  apply UInt8.toNat_inj.1
  rw [UInt8.toNat_ofNat', UInt8.toNat_ofNat', show (2 : Nat) ^ 8 = 256 from rfl]
  have e : t130 = 256 ^ i * (256 * (256 ^ (15 - i) * 4)) := by
    rw [← Nat.mul_assoc 256, ← Nat.mul_assoc (256 ^ i), show (256 : Nat) * 256 ^ (15 - i) = 256 ^ (16 - i) by rw [← Nat.pow_succ', show (15 - i).succ = 16 - i by omega], ← Nat.pow_add, show i + (16 - i) = 16 by omega]
    decide
  rw [e, Nat.mod_mul_right_div_self, Nat.mod_mul_right_mod]
def plusL (a b : List Nat) : List Nat := (List.range 5).map fun i => a.getD i 0 + b.getD i 0
theorem drop_next (l : List UInt8) (j n : Nat) (hn : n = min (l.drop (16 * j)).length 16) : (l.drop (16 * j)).drop n = l.drop (16 * (j + 1)) := by
  rw [List.drop_drop]
  rw [List.length_drop] at hn
  by_cases h : 16 ≤ l.length - 16 * j
  · rw [show 16 * j + n = 16 * (j + 1) by omega]
  · rw [List.drop_eq_nil_of_le (by omega), List.drop_eq_nil_of_le (by omega)]

theorem one_cell (wr : World) : ∀ i u, [Value.int .u8 1][i]? = some u → (wr.alloc (.cells #[.int .u8 1] 5)).cell? ((⟨wr.heap.size, 0, none⟩ : Addr).add i) = some u := by
  intro i u h
  have h1 : Blk (wr.alloc (.cells #[.int .u8 1] 5)) wr.heap.size 5 [.int .u8 1] := Blk.new wr _ _
  rw [Addr.add_mid, Nat.zero_add, h1.cell, h]

set_option maxRecDepth 100000 in
set_option maxHeartbeats 2000000 in
theorem psum_any (w : World) (k : List UInt8) (hk : k.length = 32) (ao : Option Addr) (c : Nat) (l : List UInt8) (hb : Bts w ao c l) (hl : l.length ≤ 1099511627776) :
    Calls Tryd.prog 53 #[.agg (k.map bv).toArray, .slice ao l.length c] w fun e w' => e = .returned (.agg ((tagL k l).map bv).toArray) ∧ w.grownBy w' none := by
  have tr : ∀ {x y z : World}, x.grownBy y none → y.grownBy z none → x.grownBy z none := fun h k => gb_trans h k (fun _ e => by cases e)
  have hi16 : (Tryd.prog.info? 93).map (·.size) = some 16 := by kernel_rfl
  obtain ⟨KA, hKA⟩ : ∃ A : Array Value, A = (k.map bv).toArray := ⟨_, rfl⟩
  obtain ⟨hf, hhf⟩ : ∃ h, h = k.take 16 := ⟨_, rfl⟩
  have hfl : hf.length = 16 := by rw [hhf, List.length_take, hk]; rfl
  have hiH : (Tryd.prog.info? 93).map (·.size) = some (hf.map bv).length := by rw [List.length_map, hfl]; exact hi16
  obtain ⟨Z, hZ⟩ : ∃ A : Array Value, A = (zero5L.map nv).toArray := ⟨_, rfl⟩
  have hz := zero5
  rw [← hZ] at hz
  obtain ⟨Y, hY⟩ : ∃ A : Array Value, A = (zero16L.map bv).toArray := ⟨_, rfl⟩
  have hy : ∀ w : World, (zeroValue 93).run Tryd.prog w = .ok (.agg Y) w := by rw [hY]; exact zero16b
  obtain ⟨W1, hW1⟩ : ∃ W1, W1 = (w.alloc (.cells KA 36)).alloc (.cells Y 93) := ⟨_, rfl⟩
  have hs1 : W1.heap.size = w.heap.size + 2 := by rw [hW1, World.size_alloc, World.size_alloc]
  have hg1 : w.grownBy W1 none := by rw [hW1]; exact gb_alloc (gb_alloc (gb_refl _ _) _) _
  have hK1 : Blk W1 w.heap.size 36 (k.map bv) := by rw [hW1, hKA]; exact (Blk.new w 36 _).alloc _
  have hR1 : Blk W1 (w.heap.size + 1) 93 (zero16L.map bv) := by
    have := Blk.new (w.alloc (.cells KA 36)) 93 (zero16L.map bv)
    rw [World.size_alloc, ← hY] at this
    rw [hW1]; exact this
  have hrg : W1.rangeAt w.heap.size 0 (hf.map bv) := by rw [hhf]; exact blk_head hK1 16
  have slH : ∀ W, (Instr.sliceAt 36 (.pointer (some ⟨w.heap.size, 0, none⟩)) none (some (.int .i64 16)) none).run Tryd.prog W = .ok (.slice (some ⟨w.heap.size, 0, none⟩) 16 32) W := fun W => slice_arr_head 36 5 32 Tryd.underlying36 size_byte w.heap.size 16 (by omega) (by omega) W
  have slT : ∀ W, (Instr.sliceAt 36 (.pointer (some ⟨w.heap.size, 0, none⟩)) (some (.int .i64 16)) none none).run Tryd.prog W = .ok (.slice (some ⟨w.heap.size, 16, none⟩) 16 16) W := fun W => slice_arr_tail 36 5 32 Tryd.underlying36 size_byte w.heap.size 16 (by omega) W
  have hat : ∀ W, (Instr.arrayAt 93 (.slice (some ⟨w.heap.size, 0, none⟩) 16 32)).run Tryd.prog W = .ok (.pointer (some ⟨w.heap.size, 0, none⟩)) W := fun W => run_arrayAt W 93 5 16 _ 16 32 Tryd.underlying93 (by omega)
  have hcl := clamped_any W1 hf hfl
  obtain ⟨rN, hrN⟩ : ∃ r, r = leN (clampL hf) := ⟨_, rfl⟩
  rw [← hrN] at hcl
  obtain ⟨sN, hsN⟩ : ∃ r, r = leN (k.drop 16) := ⟨_, rfl⟩
  have hnS : ∀ V, W1.grownBy V none → Calls Tryd.prog 73 #[.slice (some ⟨w.heap.size, 16, none⟩) 16 16] V fun e w' => ∃ n, Lim n ∧ v26 n = sN ∧ e = .returned (num n) ∧ V.grownBy w' none := fun V gV => by
    have h := numberOf_any V (some ⟨w.heap.size, 16, none⟩) 16 (k.drop 16) (blk_back (hK1.kept gV (by simp)) 16 16 (by omega) (by decide)) (by simp [hk]) (leN_lt16 _ (by simp [hk]))
    rw [show (k.drop 16).length = 16 by simp [hk], ← hsN] at h
    exact h
  obtain ⟨T, hT⟩ : ∃ T, T = tagL k l := ⟨_, rfl⟩
  have hTe : T = leB 16 (polyA rN l ((l.length + 15) / 16) + sN) := by rw [hT, tagL, hrN, hhf, hsN]
  rw [← hKA, ← hT]
  have HW1 := hide hW1
  have HRG := hide hrg
  have HR1 := hide hR1
  have HZ := hide hZ
  have HTE := hide hTe
  have HS1 := hide hs1
  have hsZ : Z.size = 5 := by rw [hZ]; rfl
  have HSZ := hide hsZ
  have hlen0 : lenOf (.slice ao l.length c) = l.length := rfl
  clear hk hKA hhf hfl hZ hY hW1 hs1 hR1 hrg hK1 hrN hsN hT hTe hsZ
  go_enter Tryd.func53, Tryd.ntmps53
  go_wp2_with (first
    | (rw [← unhide HW1]; refine wpList_load_mid rfl 93 _ rfl w.heap.size 0 rfl (hf.map bv) _ (unhide HRG) Tryd.underlying93 rfl hiH ?_)
    | (go_at_call 72; refine hcl.mono ?_; rintro e w2 ⟨rn, rl, rv, rfl, g2⟩; clear hcl; have hsR := num_size rn rl.1; have hiR := info5n rn rl.1; have HRL := hide rl; have HRV := hide rv; have HSR := hide hsR; have HIR := hide hiR; clear rl rv hsR hiR; unfold num)
    | (refine wpList_store_row rfl 132 _ _ rfl w2.heap.size _ rfl rfl _ _ (heap_alloc_new w2 (.cells Z 132)) ?_ ?_ ?_ ?_; (exact unhide HIR); (rw [unhide HSR, unhide HSZ]); (exact all_oneCell_toArray (nv_one _)); obtain ⟨W3, hW3, hr3, g3, z3⟩ := new_num w2 Z (unhide HZ) rn; rw [← hW3]; have HR3 := hide hr3; clear hW3 hr3 HIR HSR)
    | (go_at_call 73; refine (hnS _ (tr g2 g3)).mono ?_; rintro e w4 ⟨sn, sl, sv, rfl, g4⟩; clear hnS; have hsS := num_size sn sl.1; have hiS := info5n sn sl.1; have HSL := hide sl; have HSV := hide sv; have HSS := hide hsS; have HIS := hide hiS; clear sl sv hsS hiS; unfold num)
    | (refine wpList_store_row rfl 132 _ _ rfl w4.heap.size _ rfl rfl _ _ (heap_alloc_new w4 (.cells Z 132)) ?_ ?_ ?_ ?_; (exact unhide HIS); (rw [unhide HSS, unhide HSZ]); (exact all_oneCell_toArray (nv_one _)); obtain ⟨W5, hW5, hr5, g5, z5⟩ := new_num w4 Z (unhide HZ) sn; rw [← hW5]; have HR5 := hide hr5; clear hW5 hr5 HIS HSS))
  obtain ⟨W6, hW6⟩ : ∃ W6, W6 = W5.alloc (.cells Z 132) := ⟨_, rfl⟩
  rw [← hW6]
  have l1 : w.heap.size + 2 ≤ w2.heap.size := by have := g2.size; have := unhide HS1; omega
  have l2 : w2.heap.size + 1 ≤ w4.heap.size := by have := g4.size; omega
  have G6 : w4.grownBy W6 none := by rw [hW6]; exact gb_alloc g5 _
  have hR6 : Blk W6 (w.heap.size + 1) 93 (zero16L.map bv) := (unhide HR1).kept (tr g2 (tr g3 (tr g4 G6))) (by simp)
  have hr6 : Blk W6 w2.heap.size 132 (rn.map nv) := (unhide HR3).kept (tr g4 G6) (by simp)
  have hs6 : Blk W6 w4.heap.size 132 (sn.map nv) := by rw [hW6]; exact (unhide HR5).alloc _
  have ha6 : Blk W6 (w4.heap.size + 1) 132 (zero5L.map nv) := by
    rw [hW6, ← z5, unhide HZ]; exact Blk.new W5 132 _
  have hg6 : w.grownBy W6 none := tr hg1 (tr g2 (tr g3 (tr g4 G6)))
  have HR6 := hide hR6
  have Hr6 := hide hr6
  have Hs6 := hide hs6
  have Ha6 := hide ha6
  clear HR1 HR3 HR5 hR6 hr6 hs6 ha6 hW6 HW1 HRG g2 g3 g4 g5 G6 z3 z5 slH slT hat hiH hg1
  go_loopw [1] (fun b wr => ∃ (j : Nat) (bo : Option Addr) (cc : Nat) (an : List Nat), b = .slice bo (l.drop (16 * j)).length cc ∧ Bts w bo cc (l.drop (16 * j)) ∧ 16 * j ≤ l.length + 15 ∧ Lin5 an ∧ v26 an % pN = polyA rN l j ∧ Blk wr (w.heap.size + 1) 93 (zero16L.map bv) ∧ Blk wr w2.heap.size 132 (rn.map nv) ∧ Blk wr w4.heap.size 132 (sn.map nv) ∧ Blk wr (w4.heap.size + 1) 132 (an.map nv) ∧ w.grownBy wr none) (fun b _ => lenOf b)
  case atStart => exact ⟨0, ao, c, zero5L, by rw [Nat.mul_zero, List.drop_zero], by rw [Nat.mul_zero, List.drop_zero]; exact hb, by omega, zero5_lin, rfl, unhide HR6, unhide Hr6, unhide Hs6, unhide Ha6, hg6⟩
  case round =>
    clear HR6 Hr6 Hs6 Ha6 hg6
    obtain ⟨j, bo, cc, an, rfl, hbt, hj, hal, hav, hR, hr, hs, ha, hg⟩ := hrel
    obtain ⟨L, hL⟩ : ∃ L, L = l.drop (16 * j) := ⟨_, rfl⟩
    rw [← hL] at hbt ⊢
    have hLl : L.length = l.length - 16 * j := by rw [hL, List.length_drop]
    by_cases hpos : 0 < L.length
    · obtain ⟨ch, hch⟩ : ∃ ch, ch = L.take 16 := ⟨_, rfl⟩
      obtain ⟨m, hm⟩ : ∃ m, m = L.length := ⟨_, rfl⟩
      obtain ⟨n, hn⟩ : ∃ n, n = ch.length := ⟨_, rfl⟩
      have hnm : n = min m 16 := by rw [hn, hch, List.length_take, hm, Nat.min_comm]
      have hn16 : n ≤ 16 := by omega
      have hn0 : 0 < n := by omega
      have hmc : m ≤ cc := by rw [hm]; exact hbt.fits
      have q1 : (0 : Int) < (m : Int) := by omega
      have hsl : ∀ W, (Instr.slice 22 (.slice bo m cc) none (some (.int .i64 (n : Int))) (some (.int .i64 (n : Int)))).run Tryd.prog W = .ok (.slice bo n n) W := fun W => slice_shut W _ _ Tryd.underlying22 size_byte bo m cc n (by omega)
      have hsf : ∀ W, (Instr.slice 22 (.slice bo m cc) (some (.int .i64 (n : Int))) none none).run Tryd.prog W = .ok (.slice (cutA bo cc n) (m - n) (cc - n)) W := fun W => slice_from W _ _ Tryd.underlying22 size_byte bo m cc n (by omega)
      have hmin : (if (16 : Int) < (m : Int) then (16 : Int) else (m : Int)) = (n : Int) := by split <;> omega
      rw [← hm]
      have HR := hide hR
      have HBT := hide hbt
      have HL := hide hL
      have HLL := hide hLl
      have HCH := hide hch
      have HM := hide hm
      have HN := hide hn
      have HNM := hide hnm
      have hnews : ∀ o : Obj, ∀ ad, bo = some ad → ∀ i u, (ch.map bv)[i]? = some u → (wr.alloc o).cell? (ad.add i) = some u := fun o ad e i u hu => by
        have h1 : Bts w bo cc ch := by
          rw [hch]
          by_cases h16 : 16 ≤ L.length
          · exact hbt.take 16 h16
          · rw [List.take_of_length_le (by omega)]; exact hbt
        exact (h1.kept (gb_alloc hg o) (fun _ e => by cases e)).news ad e i u hu
      have hzip : bo = none → n = 0 ∧ n = 0 := fun e => by have := hbt.zip e; omega
      obtain ⟨i0, hi, hz0, hz1, hz2⟩ := info_parts info_byte
      have HNEWS := hide hnews
      have HZIP := hide hzip
      have Hr := hide hr
      have Hs := hide hs
      have Ha := hide ha
      clear hR hbt hL hLl hch hm hn hnm hpos hnews hzip hr hs ha
      go_wp2_with (refine wpList_append_grows _ rfl _ _ 22 rfl 5 i0 (.int .u8 0) 1 1 Tryd.underlying22 hi hz0 hz1 hz2 rfl (by decide) bo n n (ch.map bv) rfl (unhide HZIP) (by rw [List.length_map, unhide HN, Nat.mul_one]) (unhide HNEWS _) ⟨wr.heap.size, 0, none⟩ 1 1 [.int .u8 1] rfl rfl (one_cell wr) (fun u hu => by rw [List.mem_singleton.1 hu]; rfl) (by omega) (by unfold maxLen; omega) (by omega) ?_; intro v' w7 hown gw)
      have hown2 : w7.ownsRow (wr.alloc (.cells #[.int .u8 1] 5)).heap.size 5 1 v' (ch ++ [1]).length ((ch ++ [1]).map bv) := by
        rw [List.length_append, ← unhide HN, List.map_append]; exact hown
      obtain ⟨ao9, c9, hv9, hb9, -⟩ := NewB.own hown2
      have hlen9 : (ch ++ [1]).length = n + 1 := by rw [List.length_append, ← unhide HN]; rfl
      rw [hlen9] at hv9
      have G7 : wr.grownBy w7 none := tr (gb_alloc (gb_refl _ _) _) gw
      have hd : w7.grownBy w7.drew none := gb_drew (gb_refl _ _)
      have h0 : w7.grownBy w7.drew (some (w4.heap.size + 1)) := gb_none _ hd
      have tS : ∀ {x y : World}, w7.drew.grownBy x none → x.grownBy y none → w7.grownBy y (some (w4.heap.size + 1)) := fun h k => gb_none _ (tr hd (tr h k))
      have tR : ∀ {x y : World}, w7.drew.grownBy x none → x.grownBy y none → ∀ cs, w7.grownBy (y.setRow (w4.heap.size + 1) cs) (some (w4.heap.size + 1)) := fun h k cs => gb_row (tS h k) cs (Or.inr rfl)
      have hA0 : Blk w7.drew (w4.heap.size + 1) 132 (an.map nv) := ((unhide Ha).kept G7 (by simp)).drew
      have hr7 := (unhide Hr).kept G7 (by simp)
      have hrR := blk_range5 hr7
      have hne : some w2.heap.size ≠ some (w4.heap.size + 1) := by intro e; injection e with e; omega
      have hiR : (Tryd.prog.info? 132).map (·.size) = some (rn.map nv).length := by rw [List.length_map, (unhide HRL).1]; exact info5
      have hiA := info5n an hal.1
      have hsA := num_size an hal.1
      obtain ⟨B, hB⟩ : ∃ B, B = leN (ch ++ [1]) := ⟨_, rfl⟩
      have cn : ∀ V, w7.drew.grownBy V none → Calls Tryd.prog 73 #[v'] V fun e w' => ∃ bn, Lim bn ∧ v26 bn = B ∧ e = .returned (num bn) ∧ w7.drew.grownBy w' none := fun V gV => by
        have h := numberOf_any V ao9 c9 (ch ++ [1]) (hb9.kept (tr hd gV) (fun _ e => by cases e)) (by omega) (leN_snoc_lt ch (by have := unhide HN; omega))
        rw [hlen9] at h
        rw [hv9, hB]
        exact h.mono fun e w' ⟨bn, h1, h2, h3, h4⟩ => ⟨bn, h1, h2, h3, tr gV h4⟩
      have cp : ∀ V bn, Lim bn → Calls Tryd.prog 75 #[.agg (an.map nv).toArray, num bn] V fun e w' => e = .returned (.agg ((plusL an bn).map nv).toArray) ∧ V.grownBy w' none := fun V bn hbn =>
        plus5_any V an bn hal.1 hbn.1 (fun q => by have h1 := lin5_lt an hal q; have h2 := hbn.2 q; omega)
      have ct : ∀ V bn, Lim bn → Calls Tryd.prog 74 #[.agg ((plusL an bn).map nv).toArray, .agg (rn.map nv).toArray] V fun e w' => ∃ tn, Lin5 tn ∧ v26 tn % pN = (v26 an + v26 bn) * v26 rn % pN ∧ e = .returned (num tn) ∧ V.grownBy w' none := fun V bn hbn => by
        have h := times5_any V (plusL an bn) rn (by simp [plusL]) (fun q => by have h1 := lin5_lt an hal q; have h2 := hbn.2 q; have h3 := plus_getD an bn q; unfold plusL; omega) (unhide HRL)
        rw [show v26 (plusL an bn) = v26 an + v26 bn from v26_plus an bn hal.1 hbn.1] at h
        exact h
      have hend : ∀ W bn, Lim bn → v26 bn = B → ∀ tn, Lin5 tn → v26 tn % pN = (v26 an + v26 bn) * v26 rn % pN → w7.drew.grownBy W none →
          ∃ (j' : Nat) (bo' : Option Addr) (cc' : Nat) (an' : List Nat), Value.slice (cutA bo cc n) (m - n) (cc - n) = .slice bo' (l.drop (16 * j')).length cc' ∧ Bts w bo' cc' (l.drop (16 * j')) ∧ 16 * j' ≤ l.length + 15 ∧ Lin5 an' ∧ v26 an' % pN = polyA rN l j' ∧ Blk (W.setRow (w4.heap.size + 1) (tn.map nv).toArray) (w.heap.size + 1) 93 (zero16L.map bv) ∧ Blk (W.setRow (w4.heap.size + 1) (tn.map nv).toArray) w2.heap.size 132 (rn.map nv) ∧ Blk (W.setRow (w4.heap.size + 1) (tn.map nv).toArray) w4.heap.size 132 (sn.map nv) ∧ Blk (W.setRow (w4.heap.size + 1) (tn.map nv).toArray) (w4.heap.size + 1) 132 (an'.map nv) ∧ w.grownBy (W.setRow (w4.heap.size + 1) (tn.map nv).toArray) none := by
        intro W bn hbn hbv tn htn htv gW
        have gWr : wr.grownBy W none := tr G7 (tr hd gW)
        have hdn := drop_next l j n (by rw [← unhide HL, ← unhide HM]; exact unhide HNM)
        rw [← unhide HL] at hdn
        have hdl : (l.drop (16 * (j + 1))).length = m - n := by rw [← hdn, List.length_drop, unhide HM]
        refine ⟨j + 1, cutA bo cc n, cc - n, tn, by rw [hdl], ?_, ?_, htn, ?_, ((unhide HR).kept gWr (by simp)).row_other _ _ (by omega), ((unhide Hr).kept gWr (by simp)).row_other _ _ (by omega), ((unhide Hs).kept gWr (by simp)).row_other _ _ (by omega), ((unhide Ha).kept gWr (by simp)).row _, gb_row (tr hg gWr) _ (Or.inl (by omega))⟩
        · rw [← hdn]; exact (unhide HBT).drop n (by rw [← unhide HM]; have := unhide HNM; omega)
        · have := unhide HLL; have := unhide HM; omega
        · rw [htv, hbv, hB, unhide HRV, poly_mod, hav, leN_snoc1, unhide HCH, unhide HL]
          rfl
      have HEND := hide hend
      have HB9 := hide hb9
      clear hend hb9 hown hown2 hlen9 hB hv9 hr7
      refine wp_region_noPanic ?_
      refine wp_region_held_drew (S := fun V => w7.grownBy V (some (w4.heap.size + 1))) (by kernel_rfl) h0 (fun _ => ?_)
      refine wpAnyH_take (i := 1) (oi := { dst := some 31, op := Op.move (Operand.tmp 9), type := _, pos := _, after := _, guard := _ }) (v := v') rfl (by kernel_rfl) (by kernel_rfl) (by kernel_rfl) (fun _ _ _ h => h) (Or.inl ⟨by rfl, fun V (hV : w7.grownBy V (some (w4.heap.size + 1))) => by go_simp⟩) h0 ?_
      (try simp only [Act.put, List.setIfInBounds_toArray, List.set_cons_zero, List.set_cons_succ])
      refine wpAnyH_take (i := 4) (oi := { dst := some 34, op := Op.load 132 (Operand.tmp 5), type := _, pos := _, after := _, guard := _ }) (v := .agg (rn.map nv).toArray) rfl (by kernel_rfl) (by kernel_rfl) (by kernel_rfl) (fun _ _ _ h => h) (yieldsIf_load_mid (by rfl) _ _ rfl _ _ rfl (rn.map nv) _ (fun V hV => range_kept hrR hV hne) Tryd.underlying132 rfl hiR) h0 ?_
      (try simp only [Act.put, List.setIfInBounds_toArray, List.set_cons_zero, List.set_cons_succ])
      refine wpAnyH_ready (rs := [0, 2]) (by kernel_rfl) (by simp) ?_
      refine AllReadyH.cons (o := { dst := some 30, op := Op.load 132 (Operand.tmp 7), type := _, pos := _, after := _, guard := _ }) rfl (fun K9 hK9 => ?_) (AllReadyH.cons (o := { dst := some 32, op := Op.call { callee := Callee.value (Operand.func 73), args := #[(Operand.tmp 31)], argTypes := #[22] }, type := _, pos := _, after := _, guard := _ }) rfl (fun K9 hK9 => ?_) AllReadyH.nil)
      · rw [if_pos (by rfl)]
        refine wp_load_row _ _ rfl (w4.heap.size + 1) rfl _ _ _ _ hA0 Tryd.underlying132 rfl hiA ?_
        refine hK9.out _ _ h0 (fun _ => ?_)
        clear hK9 K9
        (try simp only [Act.put, List.setIfInBounds_toArray, List.set_cons_zero, List.set_cons_succ])
        refine wpAnyH_ready (rs := [2]) (by kernel_rfl) (by simp) ?_
        refine AllReadyH.cons (o := { dst := some 32, op := Op.call { callee := Callee.value (Operand.func 73), args := #[(Operand.tmp 31)], argTypes := #[22] }, type := _, pos := _, after := _, guard := _ }) rfl (fun K9 hK9 => ?_) AllReadyH.nil
        go_simp
        go_at_call 73
        refine (cn _ (gb_refl _ _)).mono ?_
        rintro e w8 ⟨bn, bl, bv2, rfl, g8⟩
        go_wp2_with fail
        refine hK9.out _ _ (tS (gb_refl _ _) g8) (fun _ => ?_)
        clear hK9 K9
        (try simp only [Act.put, List.setIfInBounds_toArray, List.set_cons_zero, List.set_cons_succ])
        refine wpAnyH_ready (rs := [3]) (by kernel_rfl) (by simp) ?_
        refine AllReadyH.cons (o := { dst := some 33, op := Op.call { callee := Callee.value (Operand.func 75), args := #[(Operand.tmp 30), (Operand.tmp 32)], argTypes := #[132, 132] }, type := _, pos := _, after := _, guard := _ }) rfl (fun K9 hK9 => ?_) AllReadyH.nil
        go_simp
        go_at_call 75
        refine (cp _ bn bl).mono ?_
        rintro e w9 ⟨rfl, g9⟩
        go_wp2_with fail
        refine hK9.out _ _ (tS g8 g9) (fun _ => ?_)
        clear hK9 K9
        (try simp only [Act.put, List.setIfInBounds_toArray, List.set_cons_zero, List.set_cons_succ])
        refine wpAnyH_ready (rs := [5]) (by kernel_rfl) (by simp) ?_
        refine AllReadyH.cons (o := { dst := some 35, op := Op.call { callee := Callee.value (Operand.func 74), args := #[(Operand.tmp 33), (Operand.tmp 34)], argTypes := #[132, 132] }, type := _, pos := _, after := _, guard := _ }) rfl (fun K9 hK9 => ?_) AllReadyH.nil
        go_simp
        go_at_call 74
        refine (ct _ bn bl).mono ?_
        rintro e w10 ⟨tn, tl, tv, rfl, g10⟩
        go_wp2_with fail
        refine hK9.out _ _ (tS g8 (tr g9 g10)) (fun _ => ?_)
        clear hK9 K9
        (try simp only [Act.put, List.setIfInBounds_toArray, List.set_cons_zero, List.set_cons_succ])
        unfold num
        refine wpAnyH_ready (rs := [6]) (by kernel_rfl) (by simp) ?_
        refine AllReadyH.cons (o := { dst := none, op := Op.store 132 (Operand.tmp 7) (Operand.tmp 35), type := _, pos := _, after := _, guard := _ }) rfl (fun K9 hK9 => ?_) AllReadyH.nil
        rw [if_pos (by rfl)]
        refine wp_store_row _ _ _ rfl (w4.heap.size + 1) _ rfl rfl _ _ (hA0.kept (tr g8 (tr g9 g10)) (by simp)) (info5n tn tl.1) (by rw [num_size tn tl.1, hsA]) (all_oneCell_toArray (nv_one _)) ?_
        refine hK9.out _ _ (tR g8 (tr g9 g10) _) (fun _ => ?_)
        clear hK9 K9
        (try simp only [Act.put])
        refine wpAnyH_done (by kernel_rfl) ?_ _
        refine NoPanic.normal ?_
        have hfin := unhide HEND _ bn bl bv2 tn tl tv (tr g8 (tr g9 g10))
        have HFIN := hide hfin
        clear hfin
        go_wp2
        go_roundw
        case rel => exact unhide HFIN
        case measure => (have := hn0; simp [lenOf]; omega)
      · go_simp
        go_at_call 73
        refine (cn _ (gb_refl _ _)).mono ?_
        rintro e w8 ⟨bn, bl, bv2, rfl, g8⟩
        go_wp2_with fail
        refine hK9.out _ _ (tS (gb_refl _ _) g8) (fun _ => ?_)
        clear hK9 K9
        (try simp only [Act.put, List.setIfInBounds_toArray, List.set_cons_zero, List.set_cons_succ])
        refine wpAnyH_ready (rs := [0]) (by kernel_rfl) (by simp) ?_
        refine AllReadyH.cons (o := { dst := some 30, op := Op.load 132 (Operand.tmp 7), type := _, pos := _, after := _, guard := _ }) rfl (fun K9 hK9 => ?_) AllReadyH.nil
        rw [if_pos (by rfl)]
        refine wp_load_row _ _ rfl (w4.heap.size + 1) rfl _ _ _ _ (hA0.kept g8 (by simp)) Tryd.underlying132 rfl hiA ?_
        refine hK9.out _ _ (tS (gb_refl _ _) g8) (fun _ => ?_)
        clear hK9 K9
        (try simp only [Act.put, List.setIfInBounds_toArray, List.set_cons_zero, List.set_cons_succ])
        refine wpAnyH_ready (rs := [3]) (by kernel_rfl) (by simp) ?_
        refine AllReadyH.cons (o := { dst := some 33, op := Op.call { callee := Callee.value (Operand.func 75), args := #[(Operand.tmp 30), (Operand.tmp 32)], argTypes := #[132, 132] }, type := _, pos := _, after := _, guard := _ }) rfl (fun K9 hK9 => ?_) AllReadyH.nil
        go_simp
        go_at_call 75
        refine (cp _ bn bl).mono ?_
        rintro e w9 ⟨rfl, g9⟩
        go_wp2_with fail
        refine hK9.out _ _ (tS g8 g9) (fun _ => ?_)
        clear hK9 K9
        (try simp only [Act.put, List.setIfInBounds_toArray, List.set_cons_zero, List.set_cons_succ])
        refine wpAnyH_ready (rs := [5]) (by kernel_rfl) (by simp) ?_
        refine AllReadyH.cons (o := { dst := some 35, op := Op.call { callee := Callee.value (Operand.func 74), args := #[(Operand.tmp 33), (Operand.tmp 34)], argTypes := #[132, 132] }, type := _, pos := _, after := _, guard := _ }) rfl (fun K9 hK9 => ?_) AllReadyH.nil
        go_simp
        go_at_call 74
        refine (ct _ bn bl).mono ?_
        rintro e w10 ⟨tn, tl, tv, rfl, g10⟩
        go_wp2_with fail
        refine hK9.out _ _ (tS g8 (tr g9 g10)) (fun _ => ?_)
        clear hK9 K9
        (try simp only [Act.put, List.setIfInBounds_toArray, List.set_cons_zero, List.set_cons_succ])
        unfold num
        refine wpAnyH_ready (rs := [6]) (by kernel_rfl) (by simp) ?_
        refine AllReadyH.cons (o := { dst := none, op := Op.store 132 (Operand.tmp 7) (Operand.tmp 35), type := _, pos := _, after := _, guard := _ }) rfl (fun K9 hK9 => ?_) AllReadyH.nil
        rw [if_pos (by rfl)]
        refine wp_store_row _ _ _ rfl (w4.heap.size + 1) _ rfl rfl _ _ (hA0.kept (tr g8 (tr g9 g10)) (by simp)) (info5n tn tl.1) (by rw [num_size tn tl.1, hsA]) (all_oneCell_toArray (nv_one _)) ?_
        refine hK9.out _ _ (tR g8 (tr g9 g10) _) (fun _ => ?_)
        clear hK9 K9
        (try simp only [Act.put])
        refine wpAnyH_done (by kernel_rfl) ?_ _
        refine NoPanic.normal ?_
        have hfin := unhide HEND _ bn bl bv2 tn tl tv (tr g8 (tr g9 g10))
        have HFIN := hide hfin
        clear hfin
        go_wp2
        go_roundw
        case rel => exact unhide HFIN
        case measure => (have := hn0; simp [lenOf]; omega)
    · have hL0 : l.drop (16 * j) = [] := by rw [← hL]; exact List.eq_nil_of_length_eq_zero (by omega)
      have hjl : l.length ≤ 16 * j := by omega
      have hje : j = (l.length + 15) / 16 := by omega
      have hTn : T = leB 16 (v26 an % pN + sN) := by rw [hav, hje]; exact unhide HTE
      have q1 : ¬ (0 : Int) < (L.length : Int) := by omega
      obtain ⟨m, hm⟩ : ∃ m, m = L.length := ⟨_, rfl⟩
      rw [← hm] at q1 ⊢
      have h0 : wr.grownBy wr.drew none := gb_drew (gb_refl _ _)
      have hrA := blk_range5 ha
      have hrS := blk_range5 hs
      have hiA : (Tryd.prog.info? 132).map (·.size) = some (an.map nv).length := by rw [List.length_map, hal.1]; exact info5
      have hiS : (Tryd.prog.info? 132).map (·.size) = some (sn.map nv).length := by rw [List.length_map, (unhide HSL).1]; exact info5
      have cl : ∀ V, Calls Tryd.prog 77 #[.agg (an.map nv).toArray] V fun e w' => ∃ mn, Lim mn ∧ v26 mn = v26 an % pN ∧ e = .returned (num mn) ∧ V.grownBy w' none := fun V => least5_any V an hal
      have cp : ∀ V mn, Lim mn → Calls Tryd.prog 75 #[num mn, .agg (sn.map nv).toArray] V fun e w' => e = .returned (.agg ((plusL mn sn).map nv).toArray) ∧ V.grownBy w' none := fun V mn hmn =>
        plus5_any V mn sn hmn.1 (unhide HSL).1 (fun q => by have h1 := hmn.2 q; have h2 := (unhide HSL).2 q; omega)
      have cc2 : ∀ V mn, Lim mn → Calls Tryd.prog 76 #[.agg ((plusL mn sn).map nv).toArray] V fun e w' => e = .returned (.tuple #[.agg ((cutL (plusL mn sn)).map nv).toArray, nv (ovr (plusL mn sn) 5)]) ∧ V.grownBy w' none := fun V mn hmn =>
        carried5_any V (plusL mn sn) (by simp [plusL]) (fun q => by have h1 := hmn.2 q; have h2 := (unhide HSL).2 q; have h3 := plus_getD mn sn q; unfold plusL; omega)
      have clo : ∀ V mn, Lim mn → v26 mn = v26 an % pN → Calls Tryd.prog 78 #[.agg ((cutL (plusL mn sn)).map nv).toArray] V fun e w' => e = .returned (.agg (T.map bv).toArray) ∧ V.grownBy w' none := fun V mn hmn hmv => by
        have h := lowest_any V (cutL (plusL mn sn)) (cutL_lim _)
        rw [cut_val_mod _ (by simp [plusL]), show v26 (plusL mn sn) = v26 mn + v26 sn from v26_plus mn sn hmn.1 (unhide HSL).1, hmv, unhide HSV, leB_low, ← hTn] at h
        exact h
      have lR := hR.lt
      have HR := hide hR
      have hTl : T.length = 16 := by rw [hTn]; exact leB_length _ _
      have hsT : ((T.map bv).toArray).size = 16 := by simp [hTl]
      have HST := hide hsT
      clear hL hLl hm hR hr hs ha hL0 hjl hje hTn hbt hpos hj hav hTl hsT
      go_wp2
      refine wp_region_noPanic ?_
      refine wp_region_held_drew (S := fun V => wr.grownBy V none) (by kernel_rfl) h0 (fun _ => ?_)
      refine wpAnyH_take (i := 0) (oi := { dst := some 40, op := Op.load 132 (Operand.tmp 7), type := _, pos := _, after := _, guard := _ }) (v := .agg (an.map nv).toArray) rfl (by kernel_rfl) (by kernel_rfl) (by kernel_rfl) (fun _ _ _ h => h) (yieldsIf_load_mid (by rfl) _ _ rfl _ _ rfl (an.map nv) _ (fun V hV => range_kept hrA hV (by simp)) Tryd.underlying132 rfl hiA) h0 ?_
      (try simp only [Act.put, List.setIfInBounds_toArray, List.set_cons_zero, List.set_cons_succ])
      refine wpAnyH_take (i := 2) (oi := { dst := some 42, op := Op.load 132 (Operand.tmp 6), type := _, pos := _, after := _, guard := _ }) (v := .agg (sn.map nv).toArray) rfl (by kernel_rfl) (by kernel_rfl) (by kernel_rfl) (fun _ _ _ h => h) (yieldsIf_load_mid (by rfl) _ _ rfl _ _ rfl (sn.map nv) _ (fun V hV => range_kept hrS hV (by simp)) Tryd.underlying132 rfl hiS) h0 ?_
      (try simp only [Act.put, List.setIfInBounds_toArray, List.set_cons_zero, List.set_cons_succ])
      refine wpAnyH_ready (rs := [1, 8]) (by kernel_rfl) (by simp) ?_
      refine AllReadyH.cons (o := { dst := some 41, op := Op.call { callee := Callee.value (Operand.func 77), args := #[(Operand.tmp 40)], argTypes := #[132] }, type := _, pos := _, after := _, guard := _ }) rfl (fun K9 hK9 => ?_) (AllReadyH.cons (o := { dst := some 10, op := Op.alloc 132, type := _, pos := _, after := _, guard := _ }) rfl (fun K9 hK9 => ?_) AllReadyH.nil)
      · go_simp
        go_at_call 77
        refine (cl _).mono ?_
        rintro e w8 ⟨mn, ml, mv, rfl, g8⟩
        go_wp2_with fail
        refine hK9.out _ _ (tr h0 g8) (fun _ => ?_)
        clear hK9 K9
        (try simp only [Act.put, List.setIfInBounds_toArray, List.set_cons_zero, List.set_cons_succ])
        refine wpAnyH_ready (rs := [3, 8]) (by kernel_rfl) (by simp) ?_
        refine AllReadyH.cons (o := { dst := some 43, op := Op.call { callee := Callee.value (Operand.func 75), args := #[(Operand.tmp 41), (Operand.tmp 42)], argTypes := #[132, 132] }, type := _, pos := _, after := _, guard := _ }) rfl (fun K9 hK9 => ?_) (AllReadyH.cons (o := { dst := some 10, op := Op.alloc 132, type := _, pos := _, after := _, guard := _ }) rfl (fun K9 hK9 => ?_) AllReadyH.nil)
        · go_simp
          go_at_call 75
          refine (cp _ mn ml).mono ?_
          rintro e w9 ⟨rfl, g9⟩
          go_wp2_with fail
          refine hK9.out _ _ (tr (tr h0 g8) g9) (fun _ => ?_)
          clear hK9 K9
          (try simp only [Act.put, List.setIfInBounds_toArray, List.set_cons_zero, List.set_cons_succ])
          refine wpAnyH_ready (rs := [4, 8]) (by kernel_rfl) (by simp) ?_
          refine AllReadyH.cons (o := { dst := some 44, op := Op.call { callee := Callee.value (Operand.func 76), args := #[(Operand.tmp 43)], argTypes := #[132] }, type := _, pos := _, after := _, guard := _ }) rfl (fun K9 hK9 => ?_) (AllReadyH.cons (o := { dst := some 10, op := Op.alloc 132, type := _, pos := _, after := _, guard := _ }) rfl (fun K9 hK9 => ?_) AllReadyH.nil)
          · go_simp
            go_at_call 76
            refine (cc2 _ mn ml).mono ?_
            rintro e w10 ⟨rfl, g10⟩
            go_wp2_with fail
            refine hK9.out _ _ (tr (tr (tr h0 g8) g9) g10) (fun _ => ?_)
            clear hK9 K9
            (try simp only [Act.put, List.setIfInBounds_toArray, List.set_cons_zero, List.set_cons_succ])
            refine wpAnyH_take (i := 5) (oi := { dst := some 39, op := Op.move (Operand.tmp 44), type := _, pos := _, after := _, guard := _ }) (v := .tuple #[.agg ((cutL (plusL mn sn)).map nv).toArray, nv (ovr (plusL mn sn) 5)]) rfl (by kernel_rfl) (by kernel_rfl) (by kernel_rfl) (fun _ _ _ h => h) (Or.inl ⟨by rfl, fun V (hV : wr.grownBy V none) => by go_simp⟩) (tr (tr (tr h0 g8) g9) g10) ?_
            (try simp only [Act.put, List.setIfInBounds_toArray, List.set_cons_zero, List.set_cons_succ])
            refine wpAnyH_take (i := 6) (oi := { dst := some 45, op := Op.extract (Operand.tmp 39) 0, type := _, pos := _, after := _, guard := _ }) (v := .agg ((cutL (plusL mn sn)).map nv).toArray) rfl (by kernel_rfl) (by kernel_rfl) (by kernel_rfl) (fun _ _ _ h => h) (Or.inl ⟨by rfl, fun V (hV : wr.grownBy V none) => by go_simp⟩) (tr (tr (tr h0 g8) g9) g10) ?_
            (try simp only [Act.put, List.setIfInBounds_toArray, List.set_cons_zero, List.set_cons_succ])
            refine wpAnyH_take (i := 7) (oi := { dst := some 46, op := Op.extract (Operand.tmp 39) 1, type := _, pos := _, after := _, guard := _ }) (v := nv (ovr (plusL mn sn) 5)) rfl (by kernel_rfl) (by kernel_rfl) (by kernel_rfl) (fun _ _ _ h => h) (Or.inl ⟨by rfl, fun V (hV : wr.grownBy V none) => by go_simp⟩) (tr (tr (tr h0 g8) g9) g10) ?_
            (try simp only [Act.put, List.setIfInBounds_toArray, List.set_cons_zero, List.set_cons_succ])
            refine wpAnyH_ready (rs := [8]) (by kernel_rfl) (by simp) ?_
            refine AllReadyH.cons (o := { dst := some 10, op := Op.alloc 132, type := _, pos := _, after := _, guard := _ }) rfl (fun K9 hK9 => ?_) AllReadyH.nil
            go_simp
            refine hK9.out _ _ (gb_alloc (tr (tr (tr h0 g8) g9) g10) _) (fun _ => ?_)
            clear hK9 K9
            (try simp only [Act.put, List.setIfInBounds_toArray, List.set_cons_zero, List.set_cons_succ])
            obtain ⟨Wa, hWa, hBa, gA⟩ := alloc_num (w10) Z (unhide HZ)
            rw [← hWa]
            have hp : wr.heap.size ≤ (w10).heap.size := ((tr (tr (tr h0 g8) g9) g10)).size
            clear hWa
            refine wpAnyH_ready (rs := [9]) (by kernel_rfl) (by simp) ?_
            refine AllReadyH.cons (o := { dst := none, op := Op.store 132 (Operand.tmp 10) (Operand.tmp 45), type := _, pos := _, after := _, guard := _ }) rfl (fun K9 hK9 => ?_) AllReadyH.nil
            rw [if_pos (by rfl)]
            refine wp_store_row _ _ _ rfl ((w10).heap.size) _ rfl rfl _ _ hBa (info5n _ (cutL_length _)) (by rw [num_size _ (cutL_length _)]; rfl) (all_oneCell_toArray (nv_one _)) ?_
            refine hK9.out _ _ (gb_row (tr (tr (tr (tr h0 g8) g9) g10) gA) _ (Or.inl hp)) (fun _ => ?_)
            clear hK9 K9
            (try simp only [Act.put])
            refine wpAnyH_take (i := 10) (oi := { dst := some 11, op := Op.assign (Operand.tmp 46), type := _, pos := _, after := _, guard := _ }) (v := nv (ovr (plusL mn sn) 5)) rfl (by kernel_rfl) (by kernel_rfl) (by kernel_rfl) (fun _ _ _ h => h) (Or.inl ⟨by rfl, fun V (hV : wr.grownBy V none) => by go_simp⟩) (gb_row (tr (tr (tr (tr h0 g8) g9) g10) gA) _ (Or.inl hp)) ?_
            (try simp only [Act.put, List.setIfInBounds_toArray, List.set_cons_zero, List.set_cons_succ])
            refine wpAnyH_done (by kernel_rfl) ?_ _
            refine NoPanic.normal ?_
            have hLd := (hBa).row ((cutL (plusL mn sn)).map nv)
            have hRs := ((unhide HR).kept (tr (tr (tr (tr h0 g8) g9) g10) gA) (by simp)).row_other ((w10).heap.size) ((cutL (plusL mn sn)).map nv).toArray (by omega)
            have hGs : w.grownBy ((Wa).setRow ((w10).heap.size) ((cutL (plusL mn sn)).map nv).toArray) none := tr hg (gb_row (tr (tr (tr (tr h0 g8) g9) g10) gA) _ (Or.inl hp))
            have hlow := clo ((Wa).setRow ((w10).heap.size) ((cutL (plusL mn sn)).map nv).toArray) mn ml mv
            have HLd := hide hLd
            have HRs := hide hRs
            have HGs := hide hGs
            clear hLd hRs hGs
            go_wp2_with (first
              | (refine wpList_load_row rfl 132 _ rfl ((w10).heap.size) rfl _ _ _ _ (unhide HLd) Tryd.underlying132 rfl ?_ ?_; (exact info5n _ (cutL_length _)))
              | (go_at_call 78; refine hlow.mono ?_; rintro e w12 ⟨rfl, g12⟩; have hR12 := (unhide HRs).kept g12 (by simp))
              | (refine wpList_store_row rfl 93 _ _ rfl (w.heap.size + 1) _ rfl rfl _ _ hR12 ?_ ?_ ?_ ?_; (rw [unhide HST]; exact hi16); (rw [unhide HST]; rfl); (exact all_oneCell_toArray (bv_one _))))
            have hS := hR12.row (T.map bv)
            refine bodyPost_ret (v := .agg (T.map bv).toArray) (results_cell_row (g := w.heap.size + 1) rfl _ _ _ _ _ _ ?_ hS Tryd.underlying93 rfl ?_) rfl ⟨rfl, gb_row (tr (unhide HGs) g12) _ (Or.inl (by omega))⟩
            · rfl
            · rw [unhide HST]; exact hi16
          · go_simp
            refine hK9.out _ _ (gb_alloc (tr (tr h0 g8) g9) _) (fun _ => ?_)
            clear hK9 K9
            (try simp only [Act.put, List.setIfInBounds_toArray, List.set_cons_zero, List.set_cons_succ])
            obtain ⟨Wa, hWa, hBa, gA⟩ := alloc_num (w9) Z (unhide HZ)
            rw [← hWa]
            have hp : wr.heap.size ≤ (w9).heap.size := ((tr (tr h0 g8) g9)).size
            clear hWa
            refine wpAnyH_ready (rs := [4]) (by kernel_rfl) (by simp) ?_
            refine AllReadyH.cons (o := { dst := some 44, op := Op.call { callee := Callee.value (Operand.func 76), args := #[(Operand.tmp 43)], argTypes := #[132] }, type := _, pos := _, after := _, guard := _ }) rfl (fun K9 hK9 => ?_) AllReadyH.nil
            go_simp
            go_at_call 76
            refine (cc2 _ mn ml).mono ?_
            rintro e w10 ⟨rfl, g10⟩
            go_wp2_with fail
            refine hK9.out _ _ (tr (tr (tr (tr h0 g8) g9) gA) g10) (fun _ => ?_)
            clear hK9 K9
            (try simp only [Act.put, List.setIfInBounds_toArray, List.set_cons_zero, List.set_cons_succ])
            refine wpAnyH_take (i := 5) (oi := { dst := some 39, op := Op.move (Operand.tmp 44), type := _, pos := _, after := _, guard := _ }) (v := .tuple #[.agg ((cutL (plusL mn sn)).map nv).toArray, nv (ovr (plusL mn sn) 5)]) rfl (by kernel_rfl) (by kernel_rfl) (by kernel_rfl) (fun _ _ _ h => h) (Or.inl ⟨by rfl, fun V (hV : wr.grownBy V none) => by go_simp⟩) (tr (tr (tr (tr h0 g8) g9) gA) g10) ?_
            (try simp only [Act.put, List.setIfInBounds_toArray, List.set_cons_zero, List.set_cons_succ])
            refine wpAnyH_take (i := 6) (oi := { dst := some 45, op := Op.extract (Operand.tmp 39) 0, type := _, pos := _, after := _, guard := _ }) (v := .agg ((cutL (plusL mn sn)).map nv).toArray) rfl (by kernel_rfl) (by kernel_rfl) (by kernel_rfl) (fun _ _ _ h => h) (Or.inl ⟨by rfl, fun V (hV : wr.grownBy V none) => by go_simp⟩) (tr (tr (tr (tr h0 g8) g9) gA) g10) ?_
            (try simp only [Act.put, List.setIfInBounds_toArray, List.set_cons_zero, List.set_cons_succ])
            refine wpAnyH_take (i := 7) (oi := { dst := some 46, op := Op.extract (Operand.tmp 39) 1, type := _, pos := _, after := _, guard := _ }) (v := nv (ovr (plusL mn sn) 5)) rfl (by kernel_rfl) (by kernel_rfl) (by kernel_rfl) (fun _ _ _ h => h) (Or.inl ⟨by rfl, fun V (hV : wr.grownBy V none) => by go_simp⟩) (tr (tr (tr (tr h0 g8) g9) gA) g10) ?_
            (try simp only [Act.put, List.setIfInBounds_toArray, List.set_cons_zero, List.set_cons_succ])
            refine wpAnyH_ready (rs := [9]) (by kernel_rfl) (by simp) ?_
            refine AllReadyH.cons (o := { dst := none, op := Op.store 132 (Operand.tmp 10) (Operand.tmp 45), type := _, pos := _, after := _, guard := _ }) rfl (fun K9 hK9 => ?_) AllReadyH.nil
            rw [if_pos (by rfl)]
            refine wp_store_row _ _ _ rfl ((w9).heap.size) _ rfl rfl _ _ (hBa.kept g10 (by simp)) (info5n _ (cutL_length _)) (by rw [num_size _ (cutL_length _)]; rfl) (all_oneCell_toArray (nv_one _)) ?_
            refine hK9.out _ _ (gb_row (tr (tr (tr (tr h0 g8) g9) gA) g10) _ (Or.inl hp)) (fun _ => ?_)
            clear hK9 K9
            (try simp only [Act.put])
            refine wpAnyH_take (i := 10) (oi := { dst := some 11, op := Op.assign (Operand.tmp 46), type := _, pos := _, after := _, guard := _ }) (v := nv (ovr (plusL mn sn) 5)) rfl (by kernel_rfl) (by kernel_rfl) (by kernel_rfl) (fun _ _ _ h => h) (Or.inl ⟨by rfl, fun V (hV : wr.grownBy V none) => by go_simp⟩) (gb_row (tr (tr (tr (tr h0 g8) g9) gA) g10) _ (Or.inl hp)) ?_
            (try simp only [Act.put, List.setIfInBounds_toArray, List.set_cons_zero, List.set_cons_succ])
            refine wpAnyH_done (by kernel_rfl) ?_ _
            refine NoPanic.normal ?_
            have hLd := ((hBa.kept g10 (by simp))).row ((cutL (plusL mn sn)).map nv)
            have hRs := ((unhide HR).kept (tr (tr (tr (tr h0 g8) g9) gA) g10) (by simp)).row_other ((w9).heap.size) ((cutL (plusL mn sn)).map nv).toArray (by omega)
            have hGs : w.grownBy ((w10).setRow ((w9).heap.size) ((cutL (plusL mn sn)).map nv).toArray) none := tr hg (gb_row (tr (tr (tr (tr h0 g8) g9) gA) g10) _ (Or.inl hp))
            have hlow := clo ((w10).setRow ((w9).heap.size) ((cutL (plusL mn sn)).map nv).toArray) mn ml mv
            have HLd := hide hLd
            have HRs := hide hRs
            have HGs := hide hGs
            clear hLd hRs hGs
            go_wp2_with (first
              | (refine wpList_load_row rfl 132 _ rfl ((w9).heap.size) rfl _ _ _ _ (unhide HLd) Tryd.underlying132 rfl ?_ ?_; (exact info5n _ (cutL_length _)))
              | (go_at_call 78; refine hlow.mono ?_; rintro e w12 ⟨rfl, g12⟩; have hR12 := (unhide HRs).kept g12 (by simp))
              | (refine wpList_store_row rfl 93 _ _ rfl (w.heap.size + 1) _ rfl rfl _ _ hR12 ?_ ?_ ?_ ?_; (rw [unhide HST]; exact hi16); (rw [unhide HST]; rfl); (exact all_oneCell_toArray (bv_one _))))
            have hS := hR12.row (T.map bv)
            refine bodyPost_ret (v := .agg (T.map bv).toArray) (results_cell_row (g := w.heap.size + 1) rfl _ _ _ _ _ _ ?_ hS Tryd.underlying93 rfl ?_) rfl ⟨rfl, gb_row (tr (unhide HGs) g12) _ (Or.inl (by omega))⟩
            · rfl
            · rw [unhide HST]; exact hi16
        · go_simp
          refine hK9.out _ _ (gb_alloc (tr h0 g8) _) (fun _ => ?_)
          clear hK9 K9
          (try simp only [Act.put, List.setIfInBounds_toArray, List.set_cons_zero, List.set_cons_succ])
          obtain ⟨Wa, hWa, hBa, gA⟩ := alloc_num (w8) Z (unhide HZ)
          rw [← hWa]
          have hp : wr.heap.size ≤ (w8).heap.size := ((tr h0 g8)).size
          clear hWa
          refine wpAnyH_ready (rs := [3]) (by kernel_rfl) (by simp) ?_
          refine AllReadyH.cons (o := { dst := some 43, op := Op.call { callee := Callee.value (Operand.func 75), args := #[(Operand.tmp 41), (Operand.tmp 42)], argTypes := #[132, 132] }, type := _, pos := _, after := _, guard := _ }) rfl (fun K9 hK9 => ?_) AllReadyH.nil
          go_simp
          go_at_call 75
          refine (cp _ mn ml).mono ?_
          rintro e w9 ⟨rfl, g9⟩
          go_wp2_with fail
          refine hK9.out _ _ (tr (tr (tr h0 g8) gA) g9) (fun _ => ?_)
          clear hK9 K9
          (try simp only [Act.put, List.setIfInBounds_toArray, List.set_cons_zero, List.set_cons_succ])
          refine wpAnyH_ready (rs := [4]) (by kernel_rfl) (by simp) ?_
          refine AllReadyH.cons (o := { dst := some 44, op := Op.call { callee := Callee.value (Operand.func 76), args := #[(Operand.tmp 43)], argTypes := #[132] }, type := _, pos := _, after := _, guard := _ }) rfl (fun K9 hK9 => ?_) AllReadyH.nil
          go_simp
          go_at_call 76
          refine (cc2 _ mn ml).mono ?_
          rintro e w10 ⟨rfl, g10⟩
          go_wp2_with fail
          refine hK9.out _ _ (tr (tr (tr (tr h0 g8) gA) g9) g10) (fun _ => ?_)
          clear hK9 K9
          (try simp only [Act.put, List.setIfInBounds_toArray, List.set_cons_zero, List.set_cons_succ])
          refine wpAnyH_take (i := 5) (oi := { dst := some 39, op := Op.move (Operand.tmp 44), type := _, pos := _, after := _, guard := _ }) (v := .tuple #[.agg ((cutL (plusL mn sn)).map nv).toArray, nv (ovr (plusL mn sn) 5)]) rfl (by kernel_rfl) (by kernel_rfl) (by kernel_rfl) (fun _ _ _ h => h) (Or.inl ⟨by rfl, fun V (hV : wr.grownBy V none) => by go_simp⟩) (tr (tr (tr (tr h0 g8) gA) g9) g10) ?_
          (try simp only [Act.put, List.setIfInBounds_toArray, List.set_cons_zero, List.set_cons_succ])
          refine wpAnyH_take (i := 6) (oi := { dst := some 45, op := Op.extract (Operand.tmp 39) 0, type := _, pos := _, after := _, guard := _ }) (v := .agg ((cutL (plusL mn sn)).map nv).toArray) rfl (by kernel_rfl) (by kernel_rfl) (by kernel_rfl) (fun _ _ _ h => h) (Or.inl ⟨by rfl, fun V (hV : wr.grownBy V none) => by go_simp⟩) (tr (tr (tr (tr h0 g8) gA) g9) g10) ?_
          (try simp only [Act.put, List.setIfInBounds_toArray, List.set_cons_zero, List.set_cons_succ])
          refine wpAnyH_take (i := 7) (oi := { dst := some 46, op := Op.extract (Operand.tmp 39) 1, type := _, pos := _, after := _, guard := _ }) (v := nv (ovr (plusL mn sn) 5)) rfl (by kernel_rfl) (by kernel_rfl) (by kernel_rfl) (fun _ _ _ h => h) (Or.inl ⟨by rfl, fun V (hV : wr.grownBy V none) => by go_simp⟩) (tr (tr (tr (tr h0 g8) gA) g9) g10) ?_
          (try simp only [Act.put, List.setIfInBounds_toArray, List.set_cons_zero, List.set_cons_succ])
          refine wpAnyH_ready (rs := [9]) (by kernel_rfl) (by simp) ?_
          refine AllReadyH.cons (o := { dst := none, op := Op.store 132 (Operand.tmp 10) (Operand.tmp 45), type := _, pos := _, after := _, guard := _ }) rfl (fun K9 hK9 => ?_) AllReadyH.nil
          rw [if_pos (by rfl)]
          refine wp_store_row _ _ _ rfl ((w8).heap.size) _ rfl rfl _ _ ((hBa.kept g9 (by simp)).kept g10 (by simp)) (info5n _ (cutL_length _)) (by rw [num_size _ (cutL_length _)]; rfl) (all_oneCell_toArray (nv_one _)) ?_
          refine hK9.out _ _ (gb_row (tr (tr (tr (tr h0 g8) gA) g9) g10) _ (Or.inl hp)) (fun _ => ?_)
          clear hK9 K9
          (try simp only [Act.put])
          refine wpAnyH_take (i := 10) (oi := { dst := some 11, op := Op.assign (Operand.tmp 46), type := _, pos := _, after := _, guard := _ }) (v := nv (ovr (plusL mn sn) 5)) rfl (by kernel_rfl) (by kernel_rfl) (by kernel_rfl) (fun _ _ _ h => h) (Or.inl ⟨by rfl, fun V (hV : wr.grownBy V none) => by go_simp⟩) (gb_row (tr (tr (tr (tr h0 g8) gA) g9) g10) _ (Or.inl hp)) ?_
          (try simp only [Act.put, List.setIfInBounds_toArray, List.set_cons_zero, List.set_cons_succ])
          refine wpAnyH_done (by kernel_rfl) ?_ _
          refine NoPanic.normal ?_
          have hLd := (((hBa.kept g9 (by simp)).kept g10 (by simp))).row ((cutL (plusL mn sn)).map nv)
          have hRs := ((unhide HR).kept (tr (tr (tr (tr h0 g8) gA) g9) g10) (by simp)).row_other ((w8).heap.size) ((cutL (plusL mn sn)).map nv).toArray (by omega)
          have hGs : w.grownBy ((w10).setRow ((w8).heap.size) ((cutL (plusL mn sn)).map nv).toArray) none := tr hg (gb_row (tr (tr (tr (tr h0 g8) gA) g9) g10) _ (Or.inl hp))
          have hlow := clo ((w10).setRow ((w8).heap.size) ((cutL (plusL mn sn)).map nv).toArray) mn ml mv
          have HLd := hide hLd
          have HRs := hide hRs
          have HGs := hide hGs
          clear hLd hRs hGs
          go_wp2_with (first
            | (refine wpList_load_row rfl 132 _ rfl ((w8).heap.size) rfl _ _ _ _ (unhide HLd) Tryd.underlying132 rfl ?_ ?_; (exact info5n _ (cutL_length _)))
            | (go_at_call 78; refine hlow.mono ?_; rintro e w12 ⟨rfl, g12⟩; have hR12 := (unhide HRs).kept g12 (by simp))
            | (refine wpList_store_row rfl 93 _ _ rfl (w.heap.size + 1) _ rfl rfl _ _ hR12 ?_ ?_ ?_ ?_; (rw [unhide HST]; exact hi16); (rw [unhide HST]; rfl); (exact all_oneCell_toArray (bv_one _))))
          have hS := hR12.row (T.map bv)
          refine bodyPost_ret (v := .agg (T.map bv).toArray) (results_cell_row (g := w.heap.size + 1) rfl _ _ _ _ _ _ ?_ hS Tryd.underlying93 rfl ?_) rfl ⟨rfl, gb_row (tr (unhide HGs) g12) _ (Or.inl (by omega))⟩
          · rfl
          · rw [unhide HST]; exact hi16
      · go_simp
        refine hK9.out _ _ (gb_alloc h0 _) (fun _ => ?_)
        clear hK9 K9
        (try simp only [Act.put, List.setIfInBounds_toArray, List.set_cons_zero, List.set_cons_succ])
        obtain ⟨Wa, hWa, hBa, gA⟩ := alloc_num (wr.drew) Z (unhide HZ)
        rw [show (wr.alloc (.cells Z 132)).drew = Wa by rw [hWa]; rfl]
        have hp : wr.heap.size ≤ (wr.drew).heap.size := (h0).size
        clear hWa
        refine wpAnyH_ready (rs := [1]) (by kernel_rfl) (by simp) ?_
        refine AllReadyH.cons (o := { dst := some 41, op := Op.call { callee := Callee.value (Operand.func 77), args := #[(Operand.tmp 40)], argTypes := #[132] }, type := _, pos := _, after := _, guard := _ }) rfl (fun K9 hK9 => ?_) AllReadyH.nil
        go_simp
        go_at_call 77
        refine (cl _).mono ?_
        rintro e w8 ⟨mn, ml, mv, rfl, g8⟩
        go_wp2_with fail
        refine hK9.out _ _ (tr (tr h0 gA) g8) (fun _ => ?_)
        clear hK9 K9
        (try simp only [Act.put, List.setIfInBounds_toArray, List.set_cons_zero, List.set_cons_succ])
        refine wpAnyH_ready (rs := [3]) (by kernel_rfl) (by simp) ?_
        refine AllReadyH.cons (o := { dst := some 43, op := Op.call { callee := Callee.value (Operand.func 75), args := #[(Operand.tmp 41), (Operand.tmp 42)], argTypes := #[132, 132] }, type := _, pos := _, after := _, guard := _ }) rfl (fun K9 hK9 => ?_) AllReadyH.nil
        go_simp
        go_at_call 75
        refine (cp _ mn ml).mono ?_
        rintro e w9 ⟨rfl, g9⟩
        go_wp2_with fail
        refine hK9.out _ _ (tr (tr (tr h0 gA) g8) g9) (fun _ => ?_)
        clear hK9 K9
        (try simp only [Act.put, List.setIfInBounds_toArray, List.set_cons_zero, List.set_cons_succ])
        refine wpAnyH_ready (rs := [4]) (by kernel_rfl) (by simp) ?_
        refine AllReadyH.cons (o := { dst := some 44, op := Op.call { callee := Callee.value (Operand.func 76), args := #[(Operand.tmp 43)], argTypes := #[132] }, type := _, pos := _, after := _, guard := _ }) rfl (fun K9 hK9 => ?_) AllReadyH.nil
        go_simp
        go_at_call 76
        refine (cc2 _ mn ml).mono ?_
        rintro e w10 ⟨rfl, g10⟩
        go_wp2_with fail
        refine hK9.out _ _ (tr (tr (tr (tr h0 gA) g8) g9) g10) (fun _ => ?_)
        clear hK9 K9
        (try simp only [Act.put, List.setIfInBounds_toArray, List.set_cons_zero, List.set_cons_succ])
        refine wpAnyH_take (i := 5) (oi := { dst := some 39, op := Op.move (Operand.tmp 44), type := _, pos := _, after := _, guard := _ }) (v := .tuple #[.agg ((cutL (plusL mn sn)).map nv).toArray, nv (ovr (plusL mn sn) 5)]) rfl (by kernel_rfl) (by kernel_rfl) (by kernel_rfl) (fun _ _ _ h => h) (Or.inl ⟨by rfl, fun V (hV : wr.grownBy V none) => by go_simp⟩) (tr (tr (tr (tr h0 gA) g8) g9) g10) ?_
        (try simp only [Act.put, List.setIfInBounds_toArray, List.set_cons_zero, List.set_cons_succ])
        refine wpAnyH_take (i := 6) (oi := { dst := some 45, op := Op.extract (Operand.tmp 39) 0, type := _, pos := _, after := _, guard := _ }) (v := .agg ((cutL (plusL mn sn)).map nv).toArray) rfl (by kernel_rfl) (by kernel_rfl) (by kernel_rfl) (fun _ _ _ h => h) (Or.inl ⟨by rfl, fun V (hV : wr.grownBy V none) => by go_simp⟩) (tr (tr (tr (tr h0 gA) g8) g9) g10) ?_
        (try simp only [Act.put, List.setIfInBounds_toArray, List.set_cons_zero, List.set_cons_succ])
        refine wpAnyH_take (i := 7) (oi := { dst := some 46, op := Op.extract (Operand.tmp 39) 1, type := _, pos := _, after := _, guard := _ }) (v := nv (ovr (plusL mn sn) 5)) rfl (by kernel_rfl) (by kernel_rfl) (by kernel_rfl) (fun _ _ _ h => h) (Or.inl ⟨by rfl, fun V (hV : wr.grownBy V none) => by go_simp⟩) (tr (tr (tr (tr h0 gA) g8) g9) g10) ?_
        (try simp only [Act.put, List.setIfInBounds_toArray, List.set_cons_zero, List.set_cons_succ])
        refine wpAnyH_ready (rs := [9]) (by kernel_rfl) (by simp) ?_
        refine AllReadyH.cons (o := { dst := none, op := Op.store 132 (Operand.tmp 10) (Operand.tmp 45), type := _, pos := _, after := _, guard := _ }) rfl (fun K9 hK9 => ?_) AllReadyH.nil
        rw [if_pos (by rfl)]
        refine wp_store_row _ _ _ rfl ((wr.drew).heap.size) _ rfl rfl _ _ (((hBa.kept g8 (by simp)).kept g9 (by simp)).kept g10 (by simp)) (info5n _ (cutL_length _)) (by rw [num_size _ (cutL_length _)]; rfl) (all_oneCell_toArray (nv_one _)) ?_
        refine hK9.out _ _ (gb_row (tr (tr (tr (tr h0 gA) g8) g9) g10) _ (Or.inl hp)) (fun _ => ?_)
        clear hK9 K9
        (try simp only [Act.put])
        refine wpAnyH_take (i := 10) (oi := { dst := some 11, op := Op.assign (Operand.tmp 46), type := _, pos := _, after := _, guard := _ }) (v := nv (ovr (plusL mn sn) 5)) rfl (by kernel_rfl) (by kernel_rfl) (by kernel_rfl) (fun _ _ _ h => h) (Or.inl ⟨by rfl, fun V (hV : wr.grownBy V none) => by go_simp⟩) (gb_row (tr (tr (tr (tr h0 gA) g8) g9) g10) _ (Or.inl hp)) ?_
        (try simp only [Act.put, List.setIfInBounds_toArray, List.set_cons_zero, List.set_cons_succ])
        refine wpAnyH_done (by kernel_rfl) ?_ _
        refine NoPanic.normal ?_
        have hLd := ((((hBa.kept g8 (by simp)).kept g9 (by simp)).kept g10 (by simp))).row ((cutL (plusL mn sn)).map nv)
        have hRs := ((unhide HR).kept (tr (tr (tr (tr h0 gA) g8) g9) g10) (by simp)).row_other ((wr.drew).heap.size) ((cutL (plusL mn sn)).map nv).toArray (by omega)
        have hGs : w.grownBy ((w10).setRow ((wr.drew).heap.size) ((cutL (plusL mn sn)).map nv).toArray) none := tr hg (gb_row (tr (tr (tr (tr h0 gA) g8) g9) g10) _ (Or.inl hp))
        have hlow := clo ((w10).setRow ((wr.drew).heap.size) ((cutL (plusL mn sn)).map nv).toArray) mn ml mv
        have HLd := hide hLd
        have HRs := hide hRs
        have HGs := hide hGs
        clear hLd hRs hGs
        go_wp2_with (first
          | (refine wpList_load_row rfl 132 _ rfl ((wr.drew).heap.size) rfl _ _ _ _ (unhide HLd) Tryd.underlying132 rfl ?_ ?_; (exact info5n _ (cutL_length _)))
          | (go_at_call 78; refine hlow.mono ?_; rintro e w12 ⟨rfl, g12⟩; have hR12 := (unhide HRs).kept g12 (by simp))
          | (refine wpList_store_row rfl 93 _ _ rfl (w.heap.size + 1) _ rfl rfl _ _ hR12 ?_ ?_ ?_ ?_; (rw [unhide HST]; exact hi16); (rw [unhide HST]; rfl); (exact all_oneCell_toArray (bv_one _))))
        have hS := hR12.row (T.map bv)
        refine bodyPost_ret (v := .agg (T.map bv).toArray) (results_cell_row (g := w.heap.size + 1) rfl _ _ _ _ _ _ ?_ hS Tryd.underlying93 rfl ?_) rfl ⟨rfl, gb_row (tr (unhide HGs) g12) _ (Or.inl (by omega))⟩
        · rfl
        · rw [unhide HST]; exact hi16
end Go.Proofs.YtjckdgapefaokaaDoor
