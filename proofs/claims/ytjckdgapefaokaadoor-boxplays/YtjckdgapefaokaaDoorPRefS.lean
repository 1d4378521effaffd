/- What the document's answer for layer 5 (package coffretref05) sums (Sum): THE TAG. Of a key of 32 bytes, and a text of less than 2 to the 62. -/
import Derived.Test.YtjckdgapefaokaaDoorPRefM
import Derived.Test.YtjckdgapefaokaaDoorPRefK
import Derived.Maps.AppendAt
import Derived.Lib.Strings
namespace Go.Proofs.YtjckdgapefaokaaDoor
open Go.RowKit

/-- One more byte of a row that is filled from its begin. -/
theorem fillb_step (xs : List UInt8) (r n : Nat) (h : r < xs.length) (hn : r < n) : (xs.take r ++ List.replicate (n - r) 0).set r (xs.getD r 0) = xs.take (r + 1) ++ List.replicate (n - (r + 1)) 0 := by
  have hl : (xs.take r).length = r := by simp; omega
  rw [List.set_append_right _ _ (by omega), hl, Nat.sub_self, show n - r = (n - (r + 1)) + 1 by omega, List.replicate_succ, List.set_cons_zero, List.take_succ_eq_append_getElem h, List.getD, List.getElem?_eq_getElem h, List.append_assoc]
  rfl
theorem nums_lt (l : List UInt8) : ∀ d ∈ l.map UInt8.toNat, d < 256 := by
  intro d hd
  obtain ⟨x, _, rfl⟩ := List.mem_map.1 hd
  exact x.toNat_lt
theorem clamp_lt (h : List UInt8) (hl : h.length = 16) : leN (clampL h) < 21267647932558653966460912964485513216 := by
  obtain ⟨D, hD⟩ : ∃ D, D = (clampL h).map UInt8.toNat := ⟨_, rfl⟩
  have hDl : D.length = 16 := by rw [hD, List.length_map, clampL_length, hl]
  have hDd : ∀ d ∈ D, d < 256 := by rw [hD]; exact nums_lt _
  have h15 : D[15]'(by omega) < 16 := by
    simp only [hD, clampL, List.getElem_map, List.getElem_mapIdx]
    unfold clampB
    rw [if_pos (by omega), UInt8.toNat_mod]
    exact Nat.mod_lt _ (by decide)
  have e : D = D.take 15 ++ [D[15]'(by omega)] := by
    conv => lhs; rw [← List.take_of_length_le (i := 15 + 1) (l := D) (by omega)]
    rw [List.take_succ_eq_append_getElem (by omega)]
  have h1 := valN_lt (D.take 15) (fun d hd => hDd d (List.mem_of_mem_take hd))
  rw [show (D.take 15).length = 15 by simp; omega] at h1
  show valN ((clampL h).map UInt8.toNat) < _
  rw [← hD, e, valN_snoc, show (D.take 15).length = 15 by simp; omega]
  have h2 : (256 : Nat) ^ 15 = 1329227995784915872903807060280344576 := by decide
  rw [h2] at h1 ⊢
  omega
theorem polyA_lt (r : Nat) (l : List UInt8) (k : Nat) : polyA r l k < 1361129467683753853853498429727072845819 := by
  cases k with
  | zero => simp [polyA]
  | succ k => rw [polyA, ← pN_eq]; exact Nat.mod_lt _ (by rw [pN_eq]; omega)
theorem block_lt (b : List UInt8) (h : b.length ≤ 16) : leN b + 256 ^ b.length < 680564733841876926926749214863536422912 + 1 := by
  have h1 := leN_lt b
  have h2 : 256 ^ b.length ≤ (256 : Nat) ^ 16 := Nat.pow_le_pow_right (by omega) h
  have h3 : (256 : Nat) ^ 16 = 340282366920938463463374607431768211456 := by decide
  omega
theorem step_lt (a b r : Nat) (ha : a < 1361129467683753853853498429727072845819) (hb : b < 680564733841876926926749214863536422912 + 1) (hr : r < 21267647932558653966460912964485513216) :
    (a + b) * r < 57896044618658097711785492504343953926634992332820282019728792003956564819968 := by
  have h1 : a + b ≤ 2722258935367507707706996859454145691648 := by omega
  have h2 : (a + b) * r ≤ 2722258935367507707706996859454145691648 * 21267647932558653966460912964485513215 := Nat.mul_le_mul h1 (by omega)
  exact Nat.lt_of_le_of_lt h2 (by decide)
theorem digit_of (ds : List Nat) : ∀ (_ : ∀ d ∈ ds, d < 256) (i : Nat), ds.getD i 0 = valN ds / 256 ^ i % 256 := by
  induction ds with
  | nil => intro _ i; simp [valN]
  | cons d r ih =>
    intro h i
    have hd := h d (by simp)
    cases i with
    | zero => rw [valN]; simp; omega
    | succ i =>
      have := ih (fun x hx => h x (by simp [hx])) i
      rw [valN, Nat.pow_succ, Nat.mul_comm (256 ^ i) 256, ← Nat.div_div_eq_div_mul, show (d + 256 * valN r) / 256 = valN r by omega, ← this]
      simp
theorem leB_get (v i : Nat) (h : i < 16) : (leB 16 v).getD i 0 = UInt8.ofNat (v / 256 ^ i % 256) := by
  rw [List.getD, leB, List.getElem?_map, List.getElem?_range h]
  show UInt8.ofNat (v / 256 ^ i) = _
  apply UInt8.toNat.inj
  simp
theorem str_cut (l : List UInt8) (a b : Nat) : (str l).extract a b = str ((l.drop a).take (b - a)) := by
  apply ByteArray.ext
  apply Array.toList_inj.1
  rw [Lib.extract_data]
  rfl

/-- Two rows lie apart. -/
def Apart (a b : Value) : Prop := ∀ g, a.ownBlock = some g → b.ownBlock ≠ some g
theorem Apart.row {a b : Value} (h : Apart a b) : b.ownBlock = none ∨ b.ownBlock ≠ a.ownBlock := by
  cases hb : b.ownBlock with
  | none => exact Or.inl rfl
  | some g => exact Or.inr (fun e => h g e.symm hb)
theorem Apart.symm {a b : Value} (h : Apart a b) : Apart b a := fun g hb ha => h g ha hb
theorem Apart.step {a b a' : Value} {H : Nat} (h : Apart a b) (hat : a'.ownBlock = a.ownBlock ∨ a'.ownBlock = some H) (hb : ∀ g, b.ownBlock = some g → g < H) : Apart a' b := by
  intro g ha hbg
  rcases hat with e | e
  · exact h g (by rw [← e]; exact ha) hbg
  · rw [e] at ha
    cases ha
    exact absurd (hb _ hbg) (by omega)

set_option maxRecDepth 100000 in
set_option maxHeartbeats 4000000 in
theorem rsum5_any (w : World) (k l : List UInt8) (hk : k.length = 32) (hl : l.length ≤ 4611686018427387903) :
    Calls Tryd.prog 62 #[.agg (k.map bv).toArray, .string (str l)] w fun e w' => e = .returned (.agg ((tagL k l).map bv).toArray) ∧ w.grownBy w' none := by
  have hi16 : (Tryd.prog.info? 93).map (·.size) = some 16 := by kernel_rfl
  obtain ⟨i0, hi, hz0, hz1, hz2⟩ := info_parts info_int
  have hsz := str_size l
  obtain ⟨KA, hKA⟩ : ∃ A : Array Value, A = (k.map bv).toArray := ⟨_, rfl⟩
  obtain ⟨Z, hZ⟩ : ∃ A : Array Value, A = ((List.replicate 16 (0 : UInt8)).map bv).toArray := ⟨_, rfl⟩
  have hz := zero16b
  rw [← hZ] at hz
  obtain ⟨W1, hW1⟩ : ∃ W1, W1 = ((w.alloc (.cells KA 36)).alloc (.cells Z 93)).alloc (.cells Z 93) := ⟨_, rfl⟩
  have hg : w.grownBy W1 none := by rw [hW1]; exact gb_alloc (gb_alloc (gb_alloc (gb_refl _ _) _) _) _
  have hK1 : Blk W1 w.heap.size 36 (k.map bv) := by rw [hW1, hKA]; exact ((Blk.new w 36 _).alloc _).alloc _
  have hR1 : Blk W1 (w.heap.size + 1) 93 ((List.replicate 16 (0 : UInt8)).map bv) := by
    have := Blk.new (w.alloc (.cells KA 36)) 93 ((List.replicate 16 (0 : UInt8)).map bv)
    rw [World.size_alloc] at this
    rw [hW1, hZ]; exact this.alloc _
  have hH1 : Blk W1 (w.heap.size + 2) 93 ((k.take 0 ++ List.replicate (16 - 0) (0 : UInt8)).map bv) := by
    have := Blk.new ((w.alloc (.cells KA 36)).alloc (.cells Z 93)) 93 ((List.replicate 16 (0 : UInt8)).map bv)
    rw [World.size_alloc, World.size_alloc] at this
    rw [hZ] at this
    rw [hW1, hZ]; exact this
  have hs1 : w.heap.size + 3 ≤ W1.heap.size := by rw [hW1]; simp
  rw [← hKA]
  have HK := hide hk
  have HKA := hide hKA
  have HZ := hide hZ
  have HW1 := hide hW1
  have HK1 := hide hK1
  have HR1 := hide hR1
  have HH1 := hide hH1
  clear hk hKA hZ hW1 hK1 hR1 hH1
  go_enter Tryd.func62, Tryd.ntmps62
  go_wp2
  rw [← unhide HW1]
  go_loopw [6] (fun i wr => ∃ r : Nat, r ≤ 16 ∧ i = .int .i64 r ∧ Blk wr w.heap.size 36 (k.map bv) ∧ Blk wr (w.heap.size + 1) 93 ((List.replicate 16 (0 : UInt8)).map bv) ∧ Blk wr (w.heap.size + 2) 93 ((k.take r ++ List.replicate (16 - r) (0 : UInt8)).map bv) ∧ w.grownBy wr none) (fun i _ => 16 - (intOf i).toNat)
  case atStart => exact ⟨0, Nat.zero_le _, rfl, unhide HK1, unhide HR1, unhide HH1, hg⟩
  case round =>
    clear HK1 HR1 HH1 hg HW1 hs1
    obtain ⟨r, hr, rfl, hK, hR, hH, hg⟩ := hrel
    by_cases hlt : r < 16
    · have hq1 : (r : Int) < 16 := by omega
      have hq2 : (r : Int) < 32 := by omega
      have hq0 : (0 : Int) ≤ (r : Int) := by omega
      have hk := unhide HK
      obtain ⟨x, hx⟩ : ∃ x, x = k.getD r 0 := ⟨_, rfl⟩
      have hc : wr.cell? ⟨w.heap.size, r, none⟩ = some (bv x) := by
        rw [hK.cell, List.getElem?_map, hx, List.getD, List.getElem?_eq_getElem (by omega)]; rfl
      have hcs : (wr.cell? ⟨w.heap.size + 2, r, none⟩).isSome = true ∧ wr.frozen? ⟨w.heap.size + 2, r, none⟩ = false := by
        have := hH.there r 1 (by simp; omega) 0 (by omega)
        simpa using this
      obtain ⟨hcs, hcf⟩ := hcs
      obtain ⟨ov, hcs⟩ := Option.isSome_iff_exists.1 hcs
      have hone : (bv x).oneCell' = true := rfl
      have HK2 := hide hK
      have HR := hide hR
      have HH := hide hH
      have HX := hide hx
      clear hK hR hH hx hk
      unfold bv at hc
      go_wp2
      go_roundw
      case rel =>
        have hS := (unhide HH).set r (bv x)
        have hS2 : Blk (wr.setCell ⟨w.heap.size + 2, r, none⟩ (bv x)) (w.heap.size + 2) 93 ((k.take (r + 1) ++ List.replicate (16 - (r + 1)) (0 : UInt8)).map bv) := by
          rw [← fillb_step k r 16 (by rw [unhide HK]; omega) hlt, List.map_set, ← unhide HX]; exact hS
        exact ⟨r + 1, by omega, by go_num, (unhide HK2).other _ _ (by simp <;> omega), (unhide HR).other _ _ (by simp <;> omega), hS2, gb_setCell hg _ _ (Or.inl (by simp <;> omega))⟩
      case measure => simp [intOf]; omega
    · obtain rfl : r = 16 := by omega
      rw [show ((16 : Nat) : Int) = 16 from rfl]
      rw [Nat.sub_self, List.replicate_zero, List.append_nil] at hH
      obtain ⟨hf, hhf⟩ : ∃ h, h = k.take 16 := ⟨_, rfl⟩
      rw [← hhf] at hH
      have hfl : hf.length = 16 := by rw [hhf, List.length_take, unhide HK]; rfl
      have hcl := rclamp_any wr hf hfl
      obtain ⟨C, hC⟩ : ∃ C, C = clampL hf := ⟨_, rfl⟩
      have hCl : C.length = 16 := by rw [hC, clampL_length, hfl]
      have hrl : leN C < 21267647932558653966460912964485513216 := by rw [hC]; exact clamp_lt hf hfl
      rw [← hC] at hcl
      have hsf : ((hf.map bv).toArray).size = 16 := by simp [hfl]
      have hsc : ((C.map bv).toArray).size = 16 := by simp [hCl]
      have HHF := hide hhf
      have HC := hide hC
      have HCL := hide hCl
      have HRL := hide hrl
      have HSF := hide hsf
      have HSC := hide hsc
      have HH := hide hH
      have HK2 := hide hK
      have HR := hide hR
      clear hhf hC hCl hrl hsf hsc hH hK hR hfl
      go_wp2_with (first
        | (refine wpList_load_row rfl 93 _ rfl (w.heap.size + 2) rfl _ _ _ _ (unhide HH) Tryd.underlying93 rfl ?_ ?_; (rw [unhide HSF]; exact hi16))
        | (go_at_call 85; refine hcl.mono ?_; rintro e w2 ⟨rfl, g2⟩; have hH2 : Blk w2 (w.heap.size + 1 + 1) 93 (hf.map bv) := (unhide HH).kept g2 (by simp))
        | (refine wpList_store_row rfl 93 _ _ rfl (w.heap.size + 1 + 1) _ rfl rfl _ _ hH2 ?_ ?_ ?_ ?_; (rw [unhide HSC]; exact hi16); (rw [unhide HSC]; exact unhide HSF); (exact all_oneCell_toArray (bv_one _))))
      clear hcl
      obtain ⟨W3, hW3⟩ : ∃ W3, W3 = w2.setRow (w.heap.size + 1 + 1) (C.map bv).toArray := ⟨_, rfl⟩
      have hH3 : Blk W3 (w.heap.size + 2) 93 (C.map bv) := by rw [hW3]; exact hH2.row _
      have hK3 : Blk W3 w.heap.size 36 (k.map bv) := by rw [hW3]; exact ((unhide HK2).kept g2 (by simp)).row_other _ _ (by omega)
      have hR3 : Blk W3 (w.heap.size + 1) 93 ((List.replicate 16 (0 : UInt8)).map bv) := by rw [hW3]; exact ((unhide HR).kept g2 (by simp)).row_other _ _ (by omega)
      have hG3 : w.grownBy W3 none := by rw [hW3]; exact gb_row (gb_trans hg g2 (fun _ e => by cases e)) _ (Or.inl (by omega))
      rw [← hW3]
      have HH3 := hide hH3
      have HK3 := hide hK3
      have HR3 := hide hR3
      clear hH2 hW3 hH3 hK3 hR3 HH HK2 HR
      clear g2 hg
      obtain ⟨R, hRd⟩ : ∃ R, R = C.map UInt8.toNat := ⟨_, rfl⟩
      obtain ⟨A, hAd⟩ : ∃ A, A = (k.drop 16).map UInt8.toNat := ⟨_, rfl⟩
      have HRD := hide hRd
      have HAD := hide hAd
      have hRL : R.length = 16 := by rw [hRd, List.length_map, unhide HCL]
      have hAL : A.length = 16 := by rw [hAd, List.length_map, List.length_drop, unhide HK]
      have HRLL := hide hRL
      have HALL := hide hAL
      clear hRd hAd hRL hAL
      go_loopw [7, 8, 10] (fun rv av iv' wr => ∃ r : Nat, r ≤ 16 ∧ iv' = .int .i64 r ∧ Blk wr w.heap.size 36 (k.map bv) ∧ Blk wr (w.heap.size + 1) 93 ((List.replicate 16 (0 : UInt8)).map bv) ∧ Blk wr (w.heap.size + 2) 93 (C.map bv) ∧ wr.ownsRow (w.heap.size + 3) 3 1 rv r ((R.take r).map iv) ∧ wr.ownsRow (w.heap.size + 3) 3 1 av r ((A.take r).map iv) ∧ Apart rv av ∧ w.grownBy wr none) (fun _ _ iv' _ => 16 - (intOf iv').toNat)
      case atStart => exact ⟨0, Nat.zero_le _, rfl, unhide HK3, unhide HR3, unhide HH3, World.ownsRow_nil _ _ _ _, World.ownsRow_nil _ _ _ _, (fun g h => by simp [Value.ownBlock] at h), hG3⟩
      case round =>
        clear HK3 HR3 HH3 hG3 hr hlt
        obtain ⟨r, hr, rfl, hK, hR, hH, oR, oA, hap, hg⟩ := hrel
        by_cases hlt : r < 16
        · have hq1 : (r : Int) < 16 := by omega
          have hq0 : (0 : Int) ≤ (r : Int) := by omega
          obtain ⟨q, hq⟩ : ∃ q : Nat, q = 16 + r := ⟨_, rfl⟩
          have hw4 : IntKind.i64.wrap (16 + (r : Int)) = (q : Int) := by rw [IntKind.wrap_i64]; omega
          have b0 : (0 : Int) ≤ (q : Int) := by omega
          have b1 : (q : Int) < 32 := by omega
          have hk := unhide HK
          have hCl := unhide HCL
          obtain ⟨xn, hxn⟩ : ∃ n : Nat, n = R[r]'(by rw [unhide HRLL]; exact hlt) := ⟨_, rfl⟩
          obtain ⟨yn, hyn⟩ : ∃ n : Nat, n = A[r]'(by rw [unhide HALL]; exact hlt) := ⟨_, rfl⟩
          have hx8 : xn < 256 := by rw [hxn]; exact nums_lt C _ (by rw [← unhide HRD]; exact List.getElem_mem _)
          have hy8 : yn < 256 := by rw [hyn]; exact nums_lt (k.drop 16) _ (by rw [← unhide HAD]; exact List.getElem_mem _)
          have hc1 : wr.cell? ⟨w.heap.size + 2, r, none⟩ = some (.int .u8 (xn : Int)) := by
            rw [hH.cell, List.getElem?_map, List.getElem?_eq_getElem (by omega), hxn]
            simp only [unhide HRD, List.getElem_map]; rfl
          have hcy : k[q]? = some (UInt8.ofNat yn) := by
            rw [List.getElem?_eq_getElem (by omega), hyn]
            simp [unhide HAD, hq]
          have hy2 : bv (UInt8.ofNat yn) = .int .u8 (yn : Int) := by
            unfold bv; rw [UInt8.toNat_ofNat', Nat.mod_eq_of_lt hy8]
          have hnR : R.take (r + 1) = R.take r ++ [xn] := by rw [List.take_succ_eq_append_getElem (by rw [unhide HRLL]; exact hlt), hxn]
          have hnA : A.take (r + 1) = A.take r ++ [yn] := by rw [List.take_succ_eq_append_getElem (by rw [unhide HALL]; exact hlt), hyn]
          have a2 : IntKind.i64.wrap (xn : Int) = (xn : Int) := by rw [IntKind.wrap_i64]; omega
          have a3 : IntKind.i64.wrap (yn : Int) = (yn : Int) := by rw [IntKind.wrap_i64]; omega
          have hgs := hH.lt
          have HK2 := hide hK
          have HR := hide hR
          have HH := hide hH
          have HOR := hide oR
          have HOA := hide oA
          have HAP := hide hap
          have HNR := hide hnR
          have HNA := hide hnA
          have HCY := hide hcy
          have HY2 := hide hy2
          clear hK hR hH oR oA hap hnR hnA hcy hy2 hxn hyn hq hk hCl
          go_wp2_with (at_builtin; refine wpList_append_own_at _ rfl _ _ 151 rfl (w.heap.size + 3) 3 i0 (.int .i64 0) 1 8 Tryd.underlying151 hi hz0 hz1 hz2 rfl (by decide) _ _ _ rfl ((unhide HOR).alloc _) ⟨wr.heap.size, 0, none⟩ 1 1 [.int .i64 (xn : Int)] rfl rfl (fun t0 y0 h0 => by match t0, h0 with | 0, h0 => simp at h0; subst h0; simp [Addr.add]) (fun y0 h0 => by simp at h0; subst h0; rfl) (by unfold maxLen; omega) (by omega) (by first | omega | (simp; omega)) ?_)
          intro v4 w4 o4 g4 _ at4
          have hneR : ∀ b, b < w.heap.size + 3 → some b ≠ u7.ownBlock := fun b hb e => by
            have := ((unhide HOR).lt b e.symm).1
            omega
          have oA4 := ((unhide HOA).alloc _).kept g4 (unhide HAP).row
          have hap4 : Apart v4 u8 := (unhide HAP).step at4 (fun g e => Nat.lt_succ_of_lt ((unhide HOA).lt g e).2)
          have hK4 := ((unhide HK2).alloc _).kept g4 (hneR _ (by omega))
          have hR4 := ((unhide HR).alloc _).kept g4 (hneR _ (by omega))
          have hH4 := ((unhide HH).alloc _).kept g4 (hneR _ (by omega))
          have hg4 : w.grownBy w4 none := gb_trans (gb_alloc hg _) g4 (fun y e => Or.inl (by have := ((unhide HOR).lt y e).1; omega))
          have hc2 : w4.cell? ⟨w.heap.size, q, none⟩ = some (.int .u8 (yn : Int)) := by
            rw [hK4.cell, List.getElem?_map, unhide HCY]
            exact congrArg some (unhide HY2)
          have hgs4 := hH4.lt
          have HK4 := hide hK4
          have HR4 := hide hR4
          have HH4 := hide hH4
          have HOA4 := hide oA4
          have HO4 := hide o4
          have HAP4 := hide hap4
          clear g4 at4 hneR HK2 HR HH HOR HOA HAP oA4 hap4 hK4 hR4 hH4 o4 hc1 hg hgs
          go_wp2_with (at_builtin; refine wpList_append_own_at _ rfl _ _ 151 rfl (w.heap.size + 3) 3 i0 (.int .i64 0) 1 8 Tryd.underlying151 hi hz0 hz1 hz2 rfl (by decide) _ _ _ rfl ((unhide HOA4).alloc _) ⟨w4.heap.size, 0, none⟩ 1 1 [.int .i64 (yn : Int)] rfl rfl (fun t0 y0 h0 => by match t0, h0 with | 0, h0 => simp at h0; subst h0; simp [Addr.add]) (fun y0 h0 => by simp at h0; subst h0; rfl) (by unfold maxLen; omega) (by omega) (by first | omega | (simp; omega)) ?_)
          intro v5 w5 o5 g5 _ at5
          have hneA : ∀ b, b < w.heap.size + 3 → some b ≠ u8.ownBlock := fun b hb e => by
            have := ((unhide HOA4).lt b e.symm).1
            omega
          have o4b := ((unhide HO4).alloc (.cells #[.int .i64 (yn : Int)] 3)).kept g5 (unhide HAP4).symm.row
          have hap5 : Apart v4 v5 := ((unhide HAP4).symm.step at5 (fun g e => Nat.lt_succ_of_lt ((unhide HO4).lt g e).2)).symm
          have hK5 := ((unhide HK4).alloc _).kept g5 (hneA _ (by omega))
          have hR5 := ((unhide HR4).alloc _).kept g5 (hneA _ (by omega))
          have hH5 := ((unhide HH4).alloc _).kept g5 (hneA _ (by omega))
          have hg5 : w.grownBy w5 none := gb_trans (gb_alloc hg4 _) g5 (fun y e => Or.inl (by have := ((unhide HOA4).lt y e).1; omega))
          have HK5 := hide hK5
          have HR5 := hide hR5
          have HH5 := hide hH5
          have HO5 := hide o5
          have HO4B := hide o4b
          have HAP5 := hide hap5
          clear g5 at5 hneA HK4 HR4 HH4 HOA4 HO4 HAP4 o4b hap5 hK5 hR5 hH5 o5 hc2 hg4 hgs4
          go_wp2
          go_roundw
          case rel =>
            refine ⟨r + 1, by omega, by go_num, unhide HK5, unhide HR5, unhide HH5, ?_, ?_, unhide HAP5, hg5⟩
            · rw [unhide HNR, List.map_append, List.map_take]; exact unhide HO4B
            · rw [unhide HNA, List.map_append, List.map_take]; exact unhide HO5
          case measure => simp [intOf]; omega
        · obtain rfl : r = 16 := by omega
          rw [show ((16 : Nat) : Int) = 16 from rfl]
          rw [List.take_of_length_le (by rw [unhide HRLL]; exact Nat.le_refl _)] at oR
          rw [List.take_of_length_le (by rw [unhide HALL]; exact Nat.le_refl _)] at oA
          have hrl := unhide HRLL
          have hal := unhide HALL
          rw [show wr.ownsRow (w.heap.size + 3) 3 1 u7 16 (R.map iv) = wr.ownsRow (w.heap.size + 3) 3 1 u7 R.length (R.map iv) by rw [hrl]] at oR
          rw [show wr.ownsRow (w.heap.size + 3) 3 1 u8 16 (A.map iv) = wr.ownsRow (w.heap.size + 3) 3 1 u8 A.length (A.map iv) by rw [hal]] at oA
          obtain ⟨ro, rc, rfl, hIR⟩ := Ints.own oR
          obtain ⟨so, sc, rfl, hIA⟩ := Ints.own oA
          rw [hrl, hal]
          obtain ⟨U, hU⟩ : ∃ U, U = wr := ⟨_, rfl⟩
          rw [← hU] at hR hIR hIA hg ⊢
          obtain ⟨Ln, hLn⟩ : ∃ n, n = l.length := ⟨_, rfl⟩
          rw [← hLn] at hsz hl
          have HLN := hide hLn
          have HR := hide hR
          have HIR := hide hIR
          have HIA := hide hIA
          clear hU hR hK hH oR oA hap hIR hIA hrl hal hLn hr hlt
          go_wp2
          go_loopw [9, 11] (fun av iv' wr => ∃ (kk : Nat) (ao : Option Addr) (c : Nat) (N : List Nat), av = .slice ao N.length c ∧ iv' = .int .i64 ((16 * kk : Nat) : Int) ∧ 16 * kk < Ln + 16 ∧ Ints wr ao c N ∧ (∀ d ∈ N, d < 256) ∧ valN N = polyA (leN C) l kk ∧ N.length ≤ 18 ∧ U.grownBy wr none) (fun _ iv' _ => Ln + 16 - (intOf iv').toNat)
          case atStart => exact ⟨0, none, 0, [], rfl, rfl, by omega, Ints.nil _, (fun _ h => by cases h), rfl, by simp, gb_refl _ _⟩
          case round =>
            obtain ⟨kk, ao, c, N, rfl, rfl, hkl, hIN, dN, vN, lN, hgU⟩ := hrel
            obtain ⟨NL, hNL⟩ : ∃ n, n = N.length := ⟨_, rfl⟩
            obtain ⟨a, ha⟩ : ∃ a, a = 16 * kk := ⟨_, rfl⟩
            rw [← ha]
            by_cases hlt : a < Ln
            · have c1 : (a : Int) < (Ln : Int) := by omega
              have c0 : (0 : Int) ≤ (a : Int) := by omega
              obtain ⟨b, hb⟩ : ∃ b, b = a + 16 := ⟨_, rfl⟩
              have hwb : IntKind.i64.wrap ((a : Int) + 16) = (b : Int) := by rw [IntKind.wrap_i64]; omega
              have hwb2 : (a : Int) + 16 = (b : Int) := by omega
              have b0 : (0 : Int) ≤ (b : Int) := by omega
              have l0 : (0 : Int) ≤ (Ln : Int) := by omega
              have ab : (a : Int) ≤ (b : Int) := by omega
              have al : (a : Int) ≤ (Ln : Int) := by omega
              obtain ⟨x, hx⟩ : ∃ x, x = (l.drop a).take 16 := ⟨_, rfl⟩
              have hxl : x.length ≤ 16 := by rw [hx, List.length_take]; omega
              have hof := fun V => pof_any V x (by omega)
              have hpol : polyA (leN C) l (kk + 1) = ((polyA (leN C) l kk + (leN x + 256 ^ x.length)) * leN C) % pN := by rw [hx, ha]; rfl
              have hblk := block_lt x hxl
              have HPOL := hide hpol
              have HBLK := hide hblk
              have HXL := hide hxl
              have HIN := hide hIN
              have HDN := hide dN
              have HVN := hide vN
              have HLL := hide lN
              have HNL := hide hNL
              have HA := hide ha
              have HBB := hide hb
              rw [← hNL]
              clear hpol hblk hIN dN vN lN hNL hxl ha
              by_cases hm : b ≤ Ln
              · have c2 : ¬ (Ln : Int) < (b : Int) := by omega
                have bl : (b : Int) ≤ (Ln : Int) := by omega
                have ht : (str l).extract a b = str x := by rw [str_cut, hx, hb, show a + 16 - a = 16 by omega]
                clear hx hb
                go_wp2_with fail
                refine (hof _).mono ?_
                rintro e w2 ⟨v2, rfl, n2, g2⟩
                clear hof
                obtain ⟨oo, oc, ol, rfl, hIO, vO, dO, lO⟩ := n2.open
                have hxl := unhide HXL
                have hll := unhide HLL
                have had := add_any w2 ao c N ((unhide HIN).kept g2) (unhide HDN) oo oc ol hIO dO (by omega) (by omega)
                rw [vO, ← unhide HNL] at had
                clear n2 hIO vO dO
                go_wp2_with fail
                refine had.mono ?_
                rintro e w3 ⟨v3, rfl, n3, g3⟩
                clear had
                obtain ⟨to, tc, tl, rfl, hIT, vT, dT, lT⟩ := n3.open
                have hg3 := gb_trans (gb_trans hgU g2 (fun _ e => by cases e)) g3 (fun _ e => by cases e)
                have hrl := unhide HRLL
                have hnl := unhide HNL
                have htm := times_any w3 to tc tl hIT dT ro rc R ((unhide HIR).kept hg3) (by rw [unhide HRD]; exact nums_lt C) (by omega) (by omega)
                rw [vT, hrl] at htm
                clear n3 hIT vT dT
                go_wp2_with fail
                refine htm.mono ?_
                rintro e w4 ⟨v4, rfl, n4, g4⟩
                clear htm
                obtain ⟨mo, mc, ml, rfl, hIM, vM, dM, lM⟩ := n4.open
                have hRv : valN R = leN C := by rw [unhide HRD]; rfl
                have hmo := mod_any w4 mo mc ml hIM dM (by omega) (by
                  rw [vM, hRv, unhide HVN]
                  exact step_lt _ _ _ (polyA_lt _ _ _) (unhide HBLK) (unhide HRL))
                rw [vM, hRv, unhide HVN, ← unhide HPOL] at hmo
                clear n4 hIM vM dM
                go_wp2_with fail
                refine hmo.mono ?_
                rintro e w5 ⟨v5, rfl, ⟨po, pc, pl, rfl, hIP, vP, dP, lP⟩, g5⟩
                clear hmo
                have hg5 := gb_trans (gb_trans hg3 g4 (fun _ e => by cases e)) g5 (fun _ e => by cases e)
                have HIP := hide hIP
                have HVP := hide vP
                have HDP := hide dP
                clear hIP vP dP
                go_wp2
                go_roundw
                case rel => exact ⟨kk + 1, po, pc, pl, rfl, by have := unhide HBB; have := unhide HA; rw [show 16 * (kk + 1) = b by omega], by have := unhide HA; omega, unhide HIP, unhide HDP, unhide HVP, lP, hg5⟩
                case measure => have := unhide HBB; simp [intOf]; omega
              · have c2 : (Ln : Int) < (b : Int) := by omega
                have ht : (str l).extract a Ln = str x := by
                  rw [str_cut, hx, List.take_of_length_le (by rw [List.length_drop, ← unhide HLN]; exact Nat.le_refl _), List.take_of_length_le (by rw [List.length_drop, ← unhide HLN]; omega)]
                clear hx hb
                go_wp2_with fail
                refine (hof _).mono ?_
                rintro e w2 ⟨v2, rfl, n2, g2⟩
                clear hof
                obtain ⟨oo, oc, ol, rfl, hIO, vO, dO, lO⟩ := n2.open
                have hxl := unhide HXL
                have hll := unhide HLL
                have had := add_any w2 ao c N ((unhide HIN).kept g2) (unhide HDN) oo oc ol hIO dO (by omega) (by omega)
                rw [vO, ← unhide HNL] at had
                clear n2 hIO vO dO
                go_wp2_with fail
                refine had.mono ?_
                rintro e w3 ⟨v3, rfl, n3, g3⟩
                clear had
                obtain ⟨to, tc, tl, rfl, hIT, vT, dT, lT⟩ := n3.open
                have hg3 := gb_trans (gb_trans hgU g2 (fun _ e => by cases e)) g3 (fun _ e => by cases e)
                have hrl := unhide HRLL
                have hnl := unhide HNL
                have htm := times_any w3 to tc tl hIT dT ro rc R ((unhide HIR).kept hg3) (by rw [unhide HRD]; exact nums_lt C) (by omega) (by omega)
                rw [vT, hrl] at htm
                clear n3 hIT vT dT
                go_wp2_with fail
                refine htm.mono ?_
                rintro e w4 ⟨v4, rfl, n4, g4⟩
                clear htm
                obtain ⟨mo, mc, ml, rfl, hIM, vM, dM, lM⟩ := n4.open
                have hRv : valN R = leN C := by rw [unhide HRD]; rfl
                have hmo := mod_any w4 mo mc ml hIM dM (by omega) (by
                  rw [vM, hRv, unhide HVN]
                  exact step_lt _ _ _ (polyA_lt _ _ _) (unhide HBLK) (unhide HRL))
                rw [vM, hRv, unhide HVN, ← unhide HPOL] at hmo
                clear n4 hIM vM dM
                go_wp2_with fail
                refine hmo.mono ?_
                rintro e w5 ⟨v5, rfl, ⟨po, pc, pl, rfl, hIP, vP, dP, lP⟩, g5⟩
                clear hmo
                have hg5 := gb_trans (gb_trans hg3 g4 (fun _ e => by cases e)) g5 (fun _ e => by cases e)
                have HIP := hide hIP
                have HVP := hide vP
                have HDP := hide dP
                clear hIP vP dP
                go_wp2
                go_roundw
                case rel => exact ⟨kk + 1, po, pc, pl, rfl, by have := unhide HBB; have := unhide HA; rw [show 16 * (kk + 1) = b by omega], by have := unhide HA; omega, unhide HIP, unhide HDP, unhide HVP, lP, hg5⟩
                case measure => have := unhide HBB; simp [intOf]; omega
            · have c1 : ¬ (a : Int) < (Ln : Int) := by omega
              have hkk : kk = (l.length + 15) / 16 := by have := unhide HLN; omega
              obtain ⟨T, hT⟩ : ∃ T, T = tagL k l := ⟨_, rfl⟩
              have hTl : T.length = 16 := by rw [hT]; exact tagL_length _ _
              have hal := unhide HALL
              have had := add_any wr ao c N hIN dN so sc A ((unhide HIA).kept hgU) (by rw [unhide HAD]; exact nums_lt _) (by omega) (by omega)
              rw [hal, ← hNL] at had
              have hTv : T = leB 16 (valN N + valN A) := by
                rw [hT, tagL, ← hkk, vN, unhide HAD, unhide HC, unhide HHF]
                rfl
              have HT := hide hT
              have HTL := hide hTl
              have HTV := hide hTv
              rw [← hNL]
              clear hIN dN vN lN hNL hT hTl hTv hal hkk ha hkl
              go_wp2_with fail
              refine had.mono ?_
              rintro e w6 ⟨v6, rfl, n6, g6⟩
              clear had
              obtain ⟨no, nc, nl, rfl, hIX, vX, dX, lX⟩ := n6.open
              have hgw6 : w.grownBy w6 none := gb_trans (gb_trans hg hgU (fun _ e => by cases e)) g6 (fun _ e => by cases e)
              have hR6 := ((unhide HR).kept hgU (by simp)).kept g6 (by simp)
              have hlt6 := hR6.lt
              obtain ⟨W7, hW7⟩ : ∃ W7, W7 = w6.alloc (.cells Z 93) := ⟨_, rfl⟩
              have hO7 : Blk W7 w6.heap.size 93 ((T.take 0 ++ List.replicate (16 - 0) (0 : UInt8)).map bv) := by
                rw [hW7, unhide HZ]; exact Blk.new w6 93 _
              have hR7 : Blk W7 (w.heap.size + 1) 93 ((List.replicate 16 (0 : UInt8)).map bv) := by rw [hW7]; exact hR6.alloc _
              have hg67 : w6.grownBy W7 none := by rw [hW7]; exact gb_alloc (gb_refl _ _) _
              have hdig : ∀ i, i < 16 → T.getD i 0 = UInt8.ofNat (nl.getD i 0) := fun i hi => by
                rw [unhide HTV, leB_get _ _ hi, digit_of nl dX i, vX]
              have hd8 : ∀ i, nl.getD i 0 < 256 := getD_lt dX
              have hda := fun V (g : w6.grownBy V none) i => digit_any V no nc nl (hIX.kept g) i
              obtain ⟨ML, hML⟩ : ∃ n, n = nl.length := ⟨_, rfl⟩
              rw [← hML] at hda ⊢
              have HDIG := hide hdig
              have HD8 := hide hd8
              have HW7 := hide hW7
              have HO7 := hide hO7
              have HR7 := hide hR7
              clear n6 hIX vX dX lX hdig hd8 hW7 hO7 hR7 hR6 hML HR HIR HIA hg hgU g6
              go_wp2
              rw [← unhide HW7]
              obtain ⟨NB, hNB⟩ : ∃ n, n = w6.heap.size := ⟨_, rfl⟩
              have hO7 := unhide HO7
              rw [← hNB] at hO7 hlt6 ⊢
              have HNB := hide hNB
              clear HW7 HO7 hNB
              go_loopw [13] (fun iv' wr => ∃ r : Nat, r ≤ 16 ∧ iv' = .int .i64 r ∧ Blk wr NB 93 ((T.take r ++ List.replicate (16 - r) (0 : UInt8)).map bv) ∧ Blk wr (w.heap.size + 1) 93 ((List.replicate 16 (0 : UInt8)).map bv) ∧ w6.grownBy wr none) (fun iv' _ => 16 - (intOf iv').toNat)
              case atStart => exact ⟨0, Nat.zero_le _, rfl, hO7, unhide HR7, hg67⟩
              case round =>
                clear hO7 HR7 hg67 hlt
                obtain ⟨r, hr, rfl, hO, hR, hgr⟩ := hrel
                by_cases hlt : r < 16
                · have hq1 : (r : Int) < 16 := by omega
                  have hq0 : (0 : Int) ≤ (r : Int) := by omega
                  have hdc := hda wr hgr r
                  obtain ⟨d, hd⟩ : ∃ d, d = nl.getD r 0 := ⟨_, rfl⟩
                  have hd8 : d < 256 := by rw [hd]; exact unhide HD8 r
                  have hTd : bv (T.getD r 0) = .int .u8 (d : Int) := by
                    rw [unhide HDIG r hlt, ← hd]; unfold bv; rw [UInt8.toNat_ofNat', Nat.mod_eq_of_lt hd8]
                  rw [← hd] at hdc
                  have a2 : IntKind.u8.wrap (d : Int) = (d : Int) := by rw [IntKind.wrap_u8]; omega
                  have a3 : (d : Int) % 256 = (d : Int) := by omega
                  have hcs : (wr.cell? ⟨NB, r, none⟩).isSome = true ∧ wr.frozen? ⟨NB, r, none⟩ = false := by
                    have := hO.there r 1 (by simp [unhide HTL]; omega) 0 (by omega)
                    simpa using this
                  obtain ⟨hcs, hcf⟩ := hcs
                  obtain ⟨ov, hcs⟩ := Option.isSome_iff_exists.1 hcs
                  have HO := hide hO
                  have HR := hide hR
                  have HTD := hide hTd
                  clear hO hR hTd hd hda hd8
                  go_wp2_with fail
                  refine hdc.mono ?_
                  rintro e w8 ⟨rfl, rfl⟩
                  clear hdc
                  go_wp2
                  go_roundw
                  case rel =>
                    have hS := (unhide HO).set r (bv (T.getD r 0))
                    have hS2 : Blk (w8.setCell ⟨NB, r, none⟩ (bv (T.getD r 0))) NB 93 ((T.take (r + 1) ++ List.replicate (16 - (r + 1)) (0 : UInt8)).map bv) := by
                      rw [← fillb_step T r 16 (by rw [unhide HTL]; omega) hlt, List.map_set]; exact hS
                    rw [unhide HTD] at hS2
                    exact ⟨r + 1, by omega, by go_num, hS2, (unhide HR).other _ _ (by simp <;> omega), gb_setCell hgr _ _ (Or.inl (by rw [unhide HNB]; exact Nat.le_refl _))⟩
                  case measure => simp [intOf]; omega
                · obtain rfl : r = 16 := by omega
                  rw [show ((16 : Nat) : Int) = 16 from rfl]
                  rw [List.take_of_length_le (by rw [unhide HTL]; exact Nat.le_refl _), Nat.sub_self, List.replicate_zero, List.append_nil] at hO
                  have hsT : ((T.map bv).toArray).size = 16 := by simp [unhide HTL]
                  have hS := hR.row (T.map bv)
                  have hG : w.grownBy (wr.setRow (w.heap.size + 1) (T.map bv).toArray) none := gb_row (gb_trans hgw6 hgr (fun _ e => by cases e)) _ (Or.inl (by omega))
                  have HO := hide hO
                  have HR := hide hR
                  have HST := hide hsT
                  have HS := hide hS
                  clear hO hR hsT hS
                  go_wp2_with (first
                    | (refine wpList_load_row rfl 93 _ rfl NB rfl _ _ _ _ (unhide HO) Tryd.underlying93 rfl ?_ ?_; (rw [unhide HST]; exact hi16))
                    | (refine wpList_store_row rfl 93 _ _ rfl (w.heap.size + 1) _ rfl rfl _ _ (unhide HR) ?_ ?_ ?_ ?_; (rw [unhide HST]; exact hi16); (rw [unhide HST]; rfl); (exact all_oneCell_toArray (bv_one _))))
                  have hS := unhide HS
                  have hsT := unhide HST
                  rw [unhide HT] at hS hsT hG ⊢
                  refine bodyPost_ret (v := .agg ((tagL k l).map bv).toArray) (results_cell_row (g := w.heap.size + 1) rfl _ _ _ _ _ _ ?_ hS Tryd.underlying93 rfl ?_) rfl ⟨rfl, hG⟩
                  · rfl
                  · rw [hsT]; exact hi16

end Go.Proofs.YtjckdgapefaokaaDoor
