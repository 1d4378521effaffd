/- KdfDerives' walk: whatever the key, the word and the texts hold, the call returns true and nothing that was in memory has changed; where the tables hold what they are laid with. -/
import Derived.Test.YtikdpifacokfpaaDoorDDer2
import Derived.Test.YtikdpifacokfpaaDoorDRDer
import Derived.Test.YtikdpifacokfpaaDoorKLoop
import Derived.Deep.DrawnRows
namespace Go.Proofs.YtikdpifacokfpaaDoor
open Go.RowKit
attribute [local go_sem ↓] Go.wp_at_zero Go.wp_at_succ

theorem info_str : (Tryd.prog.info? 9).map (fun i => (i.zero, i.size, i.bytes)) = some (some (.string (str [])), 1, 16) := by kernel_rfl
theorem info_slc : (Tryd.prog.info? 30).map (fun i => (i.zero, i.size, i.bytes)) = some (some (.slice none 0 0), 1, 24) := by kernel_rfl

/-- The texts that were gathered, as strings. -/
def svs (n : Nat) (L : List (List UInt8)) (k : Nat) : List Value := (List.range k).map fun i => .string (str ((L.getD i []).take n))
theorem svs_snoc (n : Nat) (L : List (List UInt8)) (k : Nat) (hk : k < L.length) : svs n L (k + 1) = svs n L k ++ [.string (str (L[k].take n))] := by
  unfold svs
  rw [List.range_succ, List.map_append]
  simp [List.getD, hk]

theorem sts_of {W : World} {L : List (List UInt8)} {base n k : Nat} {v : Value} (hk : k ≤ L.length) (ho : W.ownsRow base 9 1 v k (svs n L k)) : ∃ so sc, v = .slice so k sc ∧ Sts W so (cutL n L k) := by
  have hl := cutL_length n L k hk
  rcases ho.2 with ⟨rfl, h0⟩ | ⟨gg, cap, cur, rfl, hg, hh, h1, h2, h3, h4⟩
  · subst h0
    exact ⟨none, 0, rfl, ⟨fun _ => hl, (fun _ e => by cases e), (fun _ e => by cases e)⟩⟩
  · refine ⟨_, cap, rfl, ⟨(fun e => by cases e), (fun ad e => by cases e; rfl), (fun ad e i hi => ?_)⟩⟩
    cases e
    have hik : i < k := by omega
    have hiL : i < L.length := by omega
    have := ho.cellAt i (by omega)
    rw [show (⟨gg, 0, none⟩ : Addr).off + i = i from Nat.zero_add i, this]
    unfold svs cutL
    simp [List.getD, hik, hiL]

set_option maxRecDepth 100000 in
set_option maxHeartbeats 8000000 in
theorem kdfDerives_any (w : World) (K : List UInt8) (hK : K.length = 32) (wo : Option Addr) (wc : Nat) (wd : List UInt8) (hw : Bts w wo wc wd) (ao : Option Addr) (c : Nat) (L : List (List UInt8)) (hL : Lst w ao c L) (hT : Tabs w) :
    Calls Tryd.prog 8 #[.agg (K.map bv).toArray, .slice wo wd.length wc, .slice ao L.length c] w fun e w' => e = .returned (.bool true) ∧ w.grownBy w' none := by
  have hi32 : (Tryd.prog.info? 23).map (·.size) = some 32 := by kernel_rfl
  have tr : ∀ {x y z : World}, x.grownBy y none → y.grownBy z none → x.grownBy z none := fun h k => gb_trans h k (fun _ e => by cases e)
  obtain ⟨KA, hKA⟩ : ∃ A : Array Value, A = (K.map bv).toArray := ⟨_, rfl⟩
  have hKZ : KA.size = 32 := by rw [hKA]; simp [hK]
  rw [← hKA]
  obtain ⟨Y, hY⟩ : ∃ Y : Array Value, Y = ((List.replicate 32 (0 : UInt8)).map bv).toArray := ⟨_, rfl⟩
  have hyv := zero32x
  rw [← hY] at hyv
  obtain ⟨W0, hW0⟩ : ∃ W0, W0 = w.alloc (.cells KA 23) := ⟨_, rfl⟩
  have g0 : w.grownBy W0 none := by rw [hW0]; exact gb_alloc (gb_refl _ _) _
  obtain ⟨B0, hB0⟩ : ∃ B, B = w.heap.size := ⟨_, rfl⟩
  have hs0 : W0.heap.size = B0 + 1 := by rw [hW0, hB0]; simp
  have hK0 : Blk W0 B0 23 (K.map bv) := by rw [hW0, hKA, hB0]; exact Blk.new w 23 _
  have hw0 := hw.kept g0 (fun _ e => by cases e)
  have htx := text_any W0 wo wc wd hw0 100
  obtain ⟨D, hD⟩ : ∃ D, D = wd.take 100 := ⟨_, rfl⟩
  have hDb : Bts W0 wo wc D := by rw [hD]; exact hw0.cut 100
  rw [← hD] at htx
  have hDl : D.length ≤ 100 := by rw [hD]; simp; omega
  obtain ⟨fa, fc, hcell0, hbts0⟩ := lst_fun hL
  have hcell : ∀ ad, ao = some ad → ∀ i (hi : i < L.length), W0.cell? ⟨ad.block, ad.off + i, none⟩ = some (.slice (fa i) (L[i]).length (fc i)) := fun ad e i hi => g0.cell (hcell0 ad e i hi) (by simp)
  have hbts : ∀ i (hi : i < L.length), Bts W0 (fa i) (fc i) L[i] := fun i hi => (hbts0 i hi).kept g0 (fun _ e => by cases e)
  have hshape := hL.shape
  have hzip := hL.zip
  have hT0 := hT.kept0 g0
  obtain ⟨q, hq⟩ : ∃ q, q = L.length := ⟨_, rfl⟩
  obtain ⟨m, hm⟩ : ∃ m, m = min q 6 := ⟨_, rfl⟩
  rw [← hq]
  obtain ⟨PV, hPV⟩ : ∃ PV : Nat → List Value, ∀ k, PV k = pvs 100 fa fc L k := ⟨_, fun _ => rfl⟩
  obtain ⟨SV, hSV⟩ : ∃ SV : Nat → List Value, ∀ k, SV k = svs 100 L k := ⟨_, fun _ => rfl⟩
  obtain ⟨i0, hi, hz0, hz1, hz2⟩ := info_parts info_slc
  obtain ⟨j0, hj, hy0, hy1, hy2⟩ := info_parts info_str
  have HKA := hide hKA
  have HKZ := hide hKZ
  have HK := hide hK
  have HY := hide hY
  have HW0 := hide hW0
  have HG0 := hide g0
  have HDB := hide hDb
  have HDL := hide hDl
  have HT := hide hT0
  have HQ := hide hq
  have HM := hide hm
  have HPV := hide hPV
  have HSV := hide hSV
  have HCELL := hide hcell
  have HBTS := hide hbts
  have HSH := hide hshape
  have HZIP := hide hzip
  have HB0 := hide hB0
  clear hKA hKZ hK hY hW0 g0 hw hw0 hD hDb hDl hT hT0 hq hm hPV hSV hcell hcell0 hbts hbts0 hshape hzip hL hB0
  go_enter Tryd.func8, Tryd.ntmps8
  go_wp2_with fail
  rw [← unhide HW0, ← unhide HB0]
  refine htx.mono ?_
  rintro e W1 ⟨rfl, rfl⟩
  clear htx HW0
  go_wp2
  go_loopw [7, 8, 9] (fun sv iv i wr => ∃ k : Nat, k ≤ m ∧ i = .int .i64 k ∧ wr.ownsRow (B0 + 1) 30 1 iv k (PV k) ∧ wr.ownsRow (B0 + 1) 9 1 sv k (SV k) ∧ Blk wr B0 23 (K.map bv) ∧ W1.grownBy wr none) (fun _ _ i _ => m - (intOf i).toNat)
  case atStart =>
    refine ⟨0, Nat.zero_le _, rfl, ?_, ?_, hK0, gb_refl _ _⟩
    · rw [unhide HPV]; exact World.ownsRow_nil _ _ _ _
    · rw [unhide HSV]; exact World.ownsRow_nil _ _ _ _
  case round =>
    clear hK0
    obtain ⟨k, hk, rfl, oi, os, hKb, hg⟩ := hrel
    have hmm := unhide HM
    have hgs := hg.size
    rw [hs0] at hgs
    by_cases hlt : k < m
    · have hkq : k < q := by omega
      have hkL : k < L.length := by rw [← unhide HQ]; exact hkq
      have hk6 : (k : Int) < 6 := by omega
      have hkqi : (k : Int) < (q : Int) := by omega
      have hq0 : (0 : Int) ≤ (k : Int) := by omega
      obtain ⟨ad, rfl⟩ : ∃ ad, ao = some ad := by
        cases ao with
        | none => have := (unhide HZIP) rfl; omega
        | some ad => exact ⟨ad, rfl⟩
      have hs := (unhide HSH) ad rfl (by omega)
      obtain ⟨b, of, s⟩ := ad
      simp only at hs
      subst hs
      have hc := (unhide HCELL) _ rfl k hkL
      have hbk := (unhide HBTS) k hkL
      simp only at hc
      obtain ⟨x, hx⟩ : ∃ x, x = L[k].take 100 := ⟨_, rfl⟩
      obtain ⟨xl, hxl⟩ : ∃ xl, xl = L[k].length := ⟨_, rfl⟩
      have hxb : Bts W1 (fa k) (fc k) x := by rw [hx]; exact hbk.cut 100
      have hct : ∀ V, W1.grownBy V none → Calls Tryd.prog 14 #[.slice (fa k) xl (fc k), .int .i64 100] V fun e w' => e = .returned (.slice (fa k) x.length (fc k)) ∧ w' = V := by
        intro V gV
        have h := text_any V (fa k) (fc k) L[k] (hbk.kept gV (fun _ e => by cases e)) 100
        rw [← hx, ← hxl] at h
        exact h
      rw [← hxl] at hc
      have hcr := hg.cell hc (by simp)
      have hP1 : PV (k + 1) = PV k ++ [.slice (fa k) x.length (fc k)] := by rw [unhide HPV, unhide HPV, pvs_snoc 100 fa fc L k hkL, hx]
      have hS1 : SV (k + 1) = SV k ++ [.string (str x)] := by rw [unhide HSV, unhide HSV, svs_snoc 100 L k hkL, hx]
      have HP1 := hide hP1
      have HS1 := hide hS1
      have HC := hide hc
      clear hx hxl hP1 hS1 hc hbk hmm
      go_wp2_with fail
      refine (hct wr hg).mono ?_
      rintro e w2 ⟨rfl, rfl⟩
      go_wp2_with (at_builtin; refine wpList_append_own _ rfl _ _ 44 rfl (B0 + 1) 30 i0 (.slice none 0 0) 1 24 Tryd.underlying44 hi hz0 hz1 hz2 rfl (by decide) _ _ _ rfl (oi.alloc _) ⟨w2.heap.size, 0, none⟩ 1 1 [.slice (fa k) x.length (fc k)] rfl rfl ?c1 ?c2 ?c3 ?c4 ?c5 ?_)
      case c1 =>
        intro t y ht
        match t, ht with
        | 0, ht => simp at ht; subst ht; simp [Addr.add]
      case c2 => intro y hy; simp at hy; subst hy; rfl
      case c3 => unfold maxLen; omega
      case c4 => omega
      case c5 => simp; omega
      intro v6 w3 oi3 g3 _
      have os3 := (os.alloc (.cells #[.slice (fa k) x.length (fc k)] 30)).kept g3 (own_ne (os.alloc (.cells #[.slice (fa k) x.length (fc k)] 30)) (oi.alloc (.cells #[.slice (fa k) x.length (fc k)] 30)) (by decide))
      have hne : ∀ y, (some y : Option Nat) = u8.ownBlock → B0 + 1 ≤ y := fun y e => (oi.lt y e.symm).1
      have hKb3 := (hKb.alloc (.cells #[.slice (fa k) x.length (fc k)] 30)).kept g3 (fun e => by have := hne _ e; omega)
      have G3 : W1.grownBy w3 none := gb_trans (gb_alloc hg _) g3 (fun y e => Or.inl (by rw [hs0]; exact (oi.lt y e).1))
      have hcr3 := G3.cell (unhide HC) (by simp)
      have cvx : (convert 30 9 (.slice (fa k) x.length (fc k))).run Tryd.prog w3 = .ok (.string (str x)) w3 := conv_str (hxb.kept G3 (fun _ e => by cases e))
      have hgs3 := G3.size
      rw [hs0] at hgs3
      clear hcr oi os g3 hg hKb hne
      go_wp2_with fail
      refine (hct w3 G3).mono ?_
      rintro e w4 ⟨rfl, rfl⟩
      clear hct
      go_wp2_with (at_builtin; refine wpList_append_own _ rfl _ _ 45 rfl (B0 + 1) 9 j0 (.string (str [])) 1 16 Tryd.underlying45 hj hy0 hy1 hy2 rfl (by decide) _ _ _ rfl (os3.alloc _) ⟨w4.heap.size, 0, none⟩ 1 1 [.string (str x)] rfl rfl ?e1 ?e2 ?e3 ?e4 ?e5 ?_)
      case e1 =>
        intro t y ht
        match t, ht with
        | 0, ht => simp at ht; subst ht; simp [Addr.add]
      case e2 => intro y hy; simp at hy; subst hy; rfl
      case e3 => unfold maxLen; omega
      case e4 => omega
      case e5 => simp; omega
      intro v5 w5 os5 g5 _
      have oi5 := (oi3.alloc (.cells #[.string (str x)] 9)).kept g5 (own_ne (oi3.alloc (.cells #[.string (str x)] 9)) (os3.alloc (.cells #[.string (str x)] 9)) (by decide))
      have hne : ∀ y, (some y : Option Nat) = u7.ownBlock → B0 + 1 ≤ y := fun y e => (os3.lt y e.symm).1
      have hKb5 := (hKb3.alloc (.cells #[.string (str x)] 9)).kept g5 (fun e => by have := hne _ e; omega)
      have G5 : W1.grownBy w5 none := gb_trans (gb_alloc G3 _) g5 (fun y e => Or.inl (by rw [hs0]; exact (os3.lt y e).1))
      clear oi3 os3 g5 hcr3 hxb cvx hne hKb3
      go_wp2
      go_roundw
      case rel =>
        refine ⟨k + 1, by omega, by go_num, ?_, ?_, hKb5, G5⟩
        · rw [unhide HP1]; exact oi5
        · rw [unhide HS1]; exact os5
      case measure => simp [intOf]; omega
    · obtain rfl : k = m := by omega
      rw [unhide HPV] at oi
      rw [unhide HSV] at os
      have hk6n : k ≤ 6 := by omega
      have hkqn : k ≤ q := by omega
      obtain ⟨po, pc, rfl, hP⟩ := lst_cut (by rw [← unhide HQ]; omega) hg (unhide HBTS) oi
      obtain ⟨so, sc, rfl, hSt⟩ := sts_of (by rw [← unhide HQ]; omega) os
      obtain ⟨C, hC⟩ : ∃ C, C = cutL 100 L k := ⟨_, rfl⟩
      rw [← hC] at hP hSt
      have hCl : C.length = k := by rw [hC]; exact cutL_length _ _ _ (by rw [← unhide HQ]; omega)
      have hCf : C.flatten.length ≤ 600 := by rw [hC]; have := cutL_flat_le 100 L k; omega
      have hdv := derive_any wr K (unhide HK) D (by have := unhide HDL; omega) po pc C hP (by omega) (by omega) ((unhide HT).kept0 hg)
      obtain ⟨y, hyy⟩ : ∃ y, y = expL K (infoL D C) 32 := ⟨_, rfl⟩
      have hy32 : y.length = 32 := by rw [hyy]; exact expL_length _ _ _ (by omega)
      rw [← hyy, hCl, ← unhide HKA] at hdv
      have hkr : wr.heap[B0]? = some (.cells KA 23 (0, 0)) := by rw [unhide HKA]; exact hKb
      have cvw : (convert 30 9 (.slice wo D.length wc)).run Tryd.prog wr = .ok (.string (str D)) wr := conv_str ((unhide HDB).kept hg (fun _ e => by cases e))
      have HKH := hide hkr
      have HKR := hide hKb
      have HSTS := hide hSt
      have HCL := hide hCl
      have HCF := hide hCf
      have HYY := hide hyy
      have HY32 := hide hy32
      clear hkr hKb hSt hCl hCf hyy hy32 hC hP oi os
      by_cases hkq : k < q
      · have hkqi : (k : Int) < (q : Int) := by omega
        have hk6 : ¬ (k : Int) < 6 := by omega
        clear hmm hgs
        go_wp2_with (refine wpList_load_row rfl 23 _ rfl B0 rfl _ _ _ _ (unhide HKH) Tryd.underlying23 rfl ?_ ?_; (rw [unhide HKZ]; exact hi32))
        refine hdv.mono ?_
        rintro e w2 ⟨rfl, g2⟩
        clear hdv
        have hN2 : Blk (w2.alloc (.cells Y 23)) w2.heap.size 23 ((List.replicate 32 (0 : UInt8)).map bv) := by
          rw [unhide HY]; exact Blk.new w2 23 _
        obtain ⟨W3, hW3⟩ : ∃ W3, W3 = (w2.alloc (.cells Y 23)).setRow w2.heap.size (y.map bv).toArray := ⟨_, rfl⟩
        have hX3 : Blk W3 w2.heap.size 23 (y.map bv) := by rw [hW3]; exact hN2.row _
        have g3 : w2.grownBy W3 none := by rw [hW3]; exact gb_row (gb_alloc (gb_refl _ _) _) _ (Or.inl (Nat.le_refl _))
        have G3 : wr.grownBy W3 none := tr g2 g3
        have hy3 : Bts W3 (some ⟨w2.heap.size, 0, none⟩) 32 y := bts_row hX3 32 (by rw [unhide HY32]; exact Nat.le_refl _) (by unfold maxLen; omega)
        have hk3 : Bts W3 (some ⟨B0, 0, none⟩) 32 K := bts_row ((unhide HKR).kept G3 (by simp)) 32 (by rw [unhide HK]; exact Nat.le_refl _) (by unfold maxLen; omega)
        have hd3 : Bts W3 wo wc D := (unhide HDB).kept (tr hg G3) (fun _ e => by cases e)
        have hT3 := (unhide HT).kept0 (tr hg G3)
        have hs3 := (unhide HSTS).kept G3
        have cY : ∀ V, W3.grownBy V none → (convert 30 9 (.slice (some ⟨w2.heap.size, 0, none⟩) 32 32)).run Tryd.prog V = .ok (.string (str y)) V := fun V gV => by
          have := conv_str (hy3.kept gV (fun _ e => by cases e))
          rw [unhide HY32] at this
          exact this
        have cK : ∀ V, W3.grownBy V none → (convert 30 9 (.slice (some ⟨B0, 0, none⟩) 32 32)).run Tryd.prog V = .ok (.string (str K)) V := fun V gV => by
          have := conv_str (hk3.kept gV (fun _ e => by cases e))
          rw [unhide HK] at this
          exact this
        have cD : ∀ V, W3.grownBy V none → (convert 30 9 (.slice wo D.length wc)).run Tryd.prog V = .ok (.string (str D)) V := fun V gV => conv_str (hd3.kept gV (fun _ e => by cases e))
        have cr : ∀ V, W3.grownBy V none → Calls Tryd.prog 21 #[.string (str K), .string (str D), .slice so k sc] V fun e w' => e = .returned (.string (str y)) ∧ W3.grownBy w' none := by
          intro V gV
          have h := rderive_any V K (unhide HK) D (by have := unhide HDL; omega) so sc C (hs3.kept gV) (by have := unhide HCF; omega) (by rw [unhide HCL]; omega)
          rw [← unhide HYY, unhide HCL] at h
          exact h.mono fun e w' ⟨he, hgw⟩ => ⟨he, tr gV hgw⟩
        have c1 : ∀ V, W3.grownBy V none → Calls Tryd.prog 19 #[] V fun e w' => e = .returned (.bool true) ∧ W3.grownBy w' none := fun V gV => (kone_any V (hT3.kept0 gV)).mono fun e w' ⟨he, hgw⟩ => ⟨he, tr gV hgw⟩
        have hse : ((str y).toList == (str y).toList) = true := by simp
        have hsl1 := slice_arr_all 23 5 32 Tryd.underlying23 size_byte w2.heap.size 0 (by omega)
        have hsl2 := slice_arr_all 23 5 32 Tryd.underlying23 size_byte B0 0 (by omega)
        have hsz : ((y.map bv).toArray).size = 32 := by simp [unhide HY32]
        have HSZ := hide hsz
        have HN2 := hide hN2
        have HW3 := hide hW3
        have HG3 := hide (tr (unhide HG0) (tr hg G3))
        have h0 : W3.grownBy W3.drew none := gb_drew (gb_refl _ _)
        clear hsz hN2 hW3 hT3 hs3 hy3 hk3 hd3 hX3 g2 g3 G3 hg
        go_wp2_with (refine wpList_store_row rfl 23 _ _ rfl w2.heap.size _ rfl rfl _ _ (unhide HN2) ?_ ?_ ?_ ?_; (rw [unhide HSZ]; exact hi32); (rw [unhide HSZ]; rfl); (exact all_oneCell_toArray (bv_one _)); refine (show wpList _ _ _ _ _ W3 → _ from fun q => unhide HW3 ▸ q) ?_)
        refine wp_region_noPanic ?_
        refine wp_region_held_drew (S := fun V => W3.grownBy V none) (by kernel_rfl) h0 (fun _ => ?_)
        refine wpAnyH_take (i := 0) (oi := { dst := some 45, op := Op.slice 23 (Operand.tmp 10) none none none, type := _, pos := _, after := _, guard := _ }) (v := .slice (some ⟨w2.heap.size, 0, none⟩) 32 32) rfl (by kernel_rfl) (by kernel_rfl) (by kernel_rfl) (fun _ _ _ h => h) (Or.inl ⟨by rfl, fun V (hV : W3.grownBy V none) => by go_simp⟩) h0 ?_
        (try simp only [Act.put, List.setIfInBounds_toArray, List.set_cons_zero, List.set_cons_succ])
        refine wpAnyH_take (i := 1) (oi := { dst := some 46, op := Op.convert 30 9 (Operand.tmp 45), type := _, pos := _, after := _, guard := _ }) (v := .string (str y)) rfl (by kernel_rfl) (by kernel_rfl) (by kernel_rfl) (fun _ _ _ h => h) (Or.inl ⟨by rfl, fun V (hV : W3.grownBy V none) => by go_simp⟩) h0 ?_
        (try simp only [Act.put, List.setIfInBounds_toArray, List.set_cons_zero, List.set_cons_succ])
        refine wpAnyH_take (i := 2) (oi := { dst := some 47, op := Op.slice 23 (Operand.tmp 3) none none none, type := _, pos := _, after := _, guard := _ }) (v := .slice (some ⟨B0, 0, none⟩) 32 32) rfl (by kernel_rfl) (by kernel_rfl) (by kernel_rfl) (fun _ _ _ h => h) (Or.inl ⟨by rfl, fun V (hV : W3.grownBy V none) => by go_simp⟩) h0 ?_
        (try simp only [Act.put, List.setIfInBounds_toArray, List.set_cons_zero, List.set_cons_succ])
        refine wpAnyH_take (i := 3) (oi := { dst := some 48, op := Op.convert 30 9 (Operand.tmp 47), type := _, pos := _, after := _, guard := _ }) (v := .string (str K)) rfl (by kernel_rfl) (by kernel_rfl) (by kernel_rfl) (fun _ _ _ h => h) (Or.inl ⟨by rfl, fun V (hV : W3.grownBy V none) => by go_simp⟩) h0 ?_
        (try simp only [Act.put, List.setIfInBounds_toArray, List.set_cons_zero, List.set_cons_succ])
        refine wpAnyH_take (i := 4) (oi := { dst := some 49, op := Op.move (Operand.tmp 1), type := _, pos := _, after := _, guard := _ }) (v := .slice wo D.length wc) rfl (by kernel_rfl) (by kernel_rfl) (by kernel_rfl) (fun _ _ _ h => h) (Or.inl ⟨by rfl, fun V (hV : W3.grownBy V none) => by go_simp⟩) h0 ?_
        (try simp only [Act.put, List.setIfInBounds_toArray, List.set_cons_zero, List.set_cons_succ])
        refine wpAnyH_take (i := 5) (oi := { dst := some 50, op := Op.convert 30 9 (Operand.tmp 49), type := _, pos := _, after := _, guard := _ }) (v := .string (str D)) rfl (by kernel_rfl) (by kernel_rfl) (by kernel_rfl) (fun _ _ _ h => h) (Or.inl ⟨by rfl, fun V (hV : W3.grownBy V none) => by go_simp⟩) h0 ?_
        (try simp only [Act.put, List.setIfInBounds_toArray, List.set_cons_zero, List.set_cons_succ])
        refine wpAnyH_take (i := 6) (oi := { dst := some 51, op := Op.move (Operand.tmp 7), type := _, pos := _, after := _, guard := _ }) (v := .slice so k sc) rfl (by kernel_rfl) (by kernel_rfl) (by kernel_rfl) (fun _ _ _ h => h) (Or.inl ⟨by rfl, fun V (hV : W3.grownBy V none) => by go_simp⟩) h0 ?_
        (try simp only [Act.put, List.setIfInBounds_toArray, List.set_cons_zero, List.set_cons_succ])
        refine wpAnyH_ready (rs := [7]) (by kernel_rfl) (by simp) ?_
        refine AllReadyH.cons (o := { dst := some 52, op := Op.call { callee := Callee.value (Operand.func 21), args := #[(Operand.tmp 48), (Operand.tmp 50), (Operand.tmp 51)], argTypes := #[9, 9, 45] }, type := _, pos := _, after := _, guard := _ }) rfl (fun K9 hK9 => ?_) AllReadyH.nil
        go_simp
        go_at_call 21
        refine (cr _ h0).mono ?_
        rintro e w4 ⟨rfl, g4⟩
        go_wp2_with fail
        refine hK9.out _ _ g4 (fun _ => ?_)
        clear hK9 K9
        (try simp only [Act.put, List.setIfInBounds_toArray, List.set_cons_zero, List.set_cons_succ])
        refine wpAnyH_take (i := 8) (oi := { dst := some 53, op := Op.binOp BinOp.eql 9 (Operand.tmp 46) (Operand.tmp 52) 9, type := _, pos := _, after := _, guard := _ }) (v := .bool true) rfl (by kernel_rfl) (by kernel_rfl) (by kernel_rfl) (fun _ _ _ h => h) (Or.inl ⟨by rfl, fun V (hV : W3.grownBy V none) => by go_simp⟩) g4 ?_
        (try simp only [Act.put, List.setIfInBounds_toArray, List.set_cons_zero, List.set_cons_succ])
        refine wpAnyH_take (i := 9) (oi := { dst := some 54, op := Op.move (Operand.tmp 53), type := _, pos := _, after := _, guard := _ }) (v := .bool true) rfl (by kernel_rfl) (by kernel_rfl) (by kernel_rfl) (fun _ _ _ h => h) (Or.inl ⟨by rfl, fun V (hV : W3.grownBy V none) => by go_simp⟩) g4 ?_
        (try simp only [Act.put, List.setIfInBounds_toArray, List.set_cons_zero, List.set_cons_succ])
        refine wpAnyH_ready (rs := [10]) (by kernel_rfl) (by simp) ?_
        refine AllReadyH.cons (o := { dst := some 55, op := Op.call { callee := Callee.value (Operand.func 19), args := #[], argTypes := #[] }, type := _, pos := _, after := _, guard := _ }) rfl (fun K9 hK9 => ?_) AllReadyH.nil
        go_simp
        go_at_call 19
        refine (c1 _ g4).mono ?_
        rintro e w5 ⟨rfl, g5⟩
        go_wp2_with fail
        refine hK9.out _ _ g5 (fun _ => ?_)
        clear hK9 K9
        (try simp only [Act.put, List.setIfInBounds_toArray, List.set_cons_zero, List.set_cons_succ])
        refine wpAnyH_take (i := 11) (oi := { dst := some 56, op := Op.pick (Operand.tmp 54) (Operand.tmp 55) (Operand.const (Value.bool false)), type := _, pos := _, after := _, guard := _ }) (v := .bool true) rfl (by kernel_rfl) (by kernel_rfl) (by kernel_rfl) (fun _ _ _ h => h) (Or.inl ⟨by rfl, fun V (hV : W3.grownBy V none) => by go_simp⟩) g5 ?_
        (try simp only [Act.put, List.setIfInBounds_toArray, List.set_cons_zero, List.set_cons_succ])
        refine wpAnyH_take (i := 12) (oi := { dst := some 6, op := Op.assign (Operand.tmp 56), type := _, pos := _, after := _, guard := _ }) (v := .bool true) rfl (by kernel_rfl) (by kernel_rfl) (by kernel_rfl) (fun _ _ _ h => h) (Or.inl ⟨by rfl, fun V (hV : W3.grownBy V none) => by go_simp⟩) g5 ?_
        (try simp only [Act.put, List.setIfInBounds_toArray, List.set_cons_zero, List.set_cons_succ])
        refine wpAnyH_done (by kernel_rfl) ?_ _
        refine NoPanic.normal ?_
        go_wp2
        go_ret
        exact ⟨rfl, tr (unhide HG3) g5⟩
      · have hkqi : ¬ (k : Int) < (q : Int) := by omega
        clear hmm hgs
        go_wp2_with (refine wpList_load_row rfl 23 _ rfl B0 rfl _ _ _ _ (unhide HKH) Tryd.underlying23 rfl ?_ ?_; (rw [unhide HKZ]; exact hi32))
        refine hdv.mono ?_
        rintro e w2 ⟨rfl, g2⟩
        clear hdv
        have hN2 : Blk (w2.alloc (.cells Y 23)) w2.heap.size 23 ((List.replicate 32 (0 : UInt8)).map bv) := by
          rw [unhide HY]; exact Blk.new w2 23 _
        obtain ⟨W3, hW3⟩ : ∃ W3, W3 = (w2.alloc (.cells Y 23)).setRow w2.heap.size (y.map bv).toArray := ⟨_, rfl⟩
        have hX3 : Blk W3 w2.heap.size 23 (y.map bv) := by rw [hW3]; exact hN2.row _
        have g3 : w2.grownBy W3 none := by rw [hW3]; exact gb_row (gb_alloc (gb_refl _ _) _) _ (Or.inl (Nat.le_refl _))
        have G3 : wr.grownBy W3 none := tr g2 g3
        have hy3 : Bts W3 (some ⟨w2.heap.size, 0, none⟩) 32 y := bts_row hX3 32 (by rw [unhide HY32]; exact Nat.le_refl _) (by unfold maxLen; omega)
        have hk3 : Bts W3 (some ⟨B0, 0, none⟩) 32 K := bts_row ((unhide HKR).kept G3 (by simp)) 32 (by rw [unhide HK]; exact Nat.le_refl _) (by unfold maxLen; omega)
        have hd3 : Bts W3 wo wc D := (unhide HDB).kept (tr hg G3) (fun _ e => by cases e)
        have hT3 := (unhide HT).kept0 (tr hg G3)
        have hs3 := (unhide HSTS).kept G3
        have cY : ∀ V, W3.grownBy V none → (convert 30 9 (.slice (some ⟨w2.heap.size, 0, none⟩) 32 32)).run Tryd.prog V = .ok (.string (str y)) V := fun V gV => by
          have := conv_str (hy3.kept gV (fun _ e => by cases e))
          rw [unhide HY32] at this
          exact this
        have cK : ∀ V, W3.grownBy V none → (convert 30 9 (.slice (some ⟨B0, 0, none⟩) 32 32)).run Tryd.prog V = .ok (.string (str K)) V := fun V gV => by
          have := conv_str (hk3.kept gV (fun _ e => by cases e))
          rw [unhide HK] at this
          exact this
        have cD : ∀ V, W3.grownBy V none → (convert 30 9 (.slice wo D.length wc)).run Tryd.prog V = .ok (.string (str D)) V := fun V gV => conv_str (hd3.kept gV (fun _ e => by cases e))
        have cr : ∀ V, W3.grownBy V none → Calls Tryd.prog 21 #[.string (str K), .string (str D), .slice so k sc] V fun e w' => e = .returned (.string (str y)) ∧ W3.grownBy w' none := by
          intro V gV
          have h := rderive_any V K (unhide HK) D (by have := unhide HDL; omega) so sc C (hs3.kept gV) (by have := unhide HCF; omega) (by rw [unhide HCL]; omega)
          rw [← unhide HYY, unhide HCL] at h
          exact h.mono fun e w' ⟨he, hgw⟩ => ⟨he, tr gV hgw⟩
        have c1 : ∀ V, W3.grownBy V none → Calls Tryd.prog 19 #[] V fun e w' => e = .returned (.bool true) ∧ W3.grownBy w' none := fun V gV => (kone_any V (hT3.kept0 gV)).mono fun e w' ⟨he, hgw⟩ => ⟨he, tr gV hgw⟩
        have hse : ((str y).toList == (str y).toList) = true := by simp
        have hsl1 := slice_arr_all 23 5 32 Tryd.underlying23 size_byte w2.heap.size 0 (by omega)
        have hsl2 := slice_arr_all 23 5 32 Tryd.underlying23 size_byte B0 0 (by omega)
        have hsz : ((y.map bv).toArray).size = 32 := by simp [unhide HY32]
        have HSZ := hide hsz
        have HN2 := hide hN2
        have HW3 := hide hW3
        have HG3 := hide (tr (unhide HG0) (tr hg G3))
        have h0 : W3.grownBy W3.drew none := gb_drew (gb_refl _ _)
        clear hsz hN2 hW3 hT3 hs3 hy3 hk3 hd3 hX3 g2 g3 G3 hg
        go_wp2_with (refine wpList_store_row rfl 23 _ _ rfl w2.heap.size _ rfl rfl _ _ (unhide HN2) ?_ ?_ ?_ ?_; (rw [unhide HSZ]; exact hi32); (rw [unhide HSZ]; rfl); (exact all_oneCell_toArray (bv_one _)); refine (show wpList _ _ _ _ _ W3 → _ from fun q => unhide HW3 ▸ q) ?_)
        refine wp_region_noPanic ?_
        refine wp_region_held_drew (S := fun V => W3.grownBy V none) (by kernel_rfl) h0 (fun _ => ?_)
        refine wpAnyH_take (i := 0) (oi := { dst := some 45, op := Op.slice 23 (Operand.tmp 10) none none none, type := _, pos := _, after := _, guard := _ }) (v := .slice (some ⟨w2.heap.size, 0, none⟩) 32 32) rfl (by kernel_rfl) (by kernel_rfl) (by kernel_rfl) (fun _ _ _ h => h) (Or.inl ⟨by rfl, fun V (hV : W3.grownBy V none) => by go_simp⟩) h0 ?_
        (try simp only [Act.put, List.setIfInBounds_toArray, List.set_cons_zero, List.set_cons_succ])
        refine wpAnyH_take (i := 1) (oi := { dst := some 46, op := Op.convert 30 9 (Operand.tmp 45), type := _, pos := _, after := _, guard := _ }) (v := .string (str y)) rfl (by kernel_rfl) (by kernel_rfl) (by kernel_rfl) (fun _ _ _ h => h) (Or.inl ⟨by rfl, fun V (hV : W3.grownBy V none) => by go_simp⟩) h0 ?_
        (try simp only [Act.put, List.setIfInBounds_toArray, List.set_cons_zero, List.set_cons_succ])
        refine wpAnyH_take (i := 2) (oi := { dst := some 47, op := Op.slice 23 (Operand.tmp 3) none none none, type := _, pos := _, after := _, guard := _ }) (v := .slice (some ⟨B0, 0, none⟩) 32 32) rfl (by kernel_rfl) (by kernel_rfl) (by kernel_rfl) (fun _ _ _ h => h) (Or.inl ⟨by rfl, fun V (hV : W3.grownBy V none) => by go_simp⟩) h0 ?_
        (try simp only [Act.put, List.setIfInBounds_toArray, List.set_cons_zero, List.set_cons_succ])
        refine wpAnyH_take (i := 3) (oi := { dst := some 48, op := Op.convert 30 9 (Operand.tmp 47), type := _, pos := _, after := _, guard := _ }) (v := .string (str K)) rfl (by kernel_rfl) (by kernel_rfl) (by kernel_rfl) (fun _ _ _ h => h) (Or.inl ⟨by rfl, fun V (hV : W3.grownBy V none) => by go_simp⟩) h0 ?_
        (try simp only [Act.put, List.setIfInBounds_toArray, List.set_cons_zero, List.set_cons_succ])
        refine wpAnyH_take (i := 4) (oi := { dst := some 49, op := Op.move (Operand.tmp 1), type := _, pos := _, after := _, guard := _ }) (v := .slice wo D.length wc) rfl (by kernel_rfl) (by kernel_rfl) (by kernel_rfl) (fun _ _ _ h => h) (Or.inl ⟨by rfl, fun V (hV : W3.grownBy V none) => by go_simp⟩) h0 ?_
        (try simp only [Act.put, List.setIfInBounds_toArray, List.set_cons_zero, List.set_cons_succ])
        refine wpAnyH_take (i := 5) (oi := { dst := some 50, op := Op.convert 30 9 (Operand.tmp 49), type := _, pos := _, after := _, guard := _ }) (v := .string (str D)) rfl (by kernel_rfl) (by kernel_rfl) (by kernel_rfl) (fun _ _ _ h => h) (Or.inl ⟨by rfl, fun V (hV : W3.grownBy V none) => by go_simp⟩) h0 ?_
        (try simp only [Act.put, List.setIfInBounds_toArray, List.set_cons_zero, List.set_cons_succ])
        refine wpAnyH_take (i := 6) (oi := { dst := some 51, op := Op.move (Operand.tmp 7), type := _, pos := _, after := _, guard := _ }) (v := .slice so k sc) rfl (by kernel_rfl) (by kernel_rfl) (by kernel_rfl) (fun _ _ _ h => h) (Or.inl ⟨by rfl, fun V (hV : W3.grownBy V none) => by go_simp⟩) h0 ?_
        (try simp only [Act.put, List.setIfInBounds_toArray, List.set_cons_zero, List.set_cons_succ])
        refine wpAnyH_ready (rs := [7]) (by kernel_rfl) (by simp) ?_
        refine AllReadyH.cons (o := { dst := some 52, op := Op.call { callee := Callee.value (Operand.func 21), args := #[(Operand.tmp 48), (Operand.tmp 50), (Operand.tmp 51)], argTypes := #[9, 9, 45] }, type := _, pos := _, after := _, guard := _ }) rfl (fun K9 hK9 => ?_) AllReadyH.nil
        go_simp
        go_at_call 21
        refine (cr _ h0).mono ?_
        rintro e w4 ⟨rfl, g4⟩
        go_wp2_with fail
        refine hK9.out _ _ g4 (fun _ => ?_)
        clear hK9 K9
        (try simp only [Act.put, List.setIfInBounds_toArray, List.set_cons_zero, List.set_cons_succ])
        refine wpAnyH_take (i := 8) (oi := { dst := some 53, op := Op.binOp BinOp.eql 9 (Operand.tmp 46) (Operand.tmp 52) 9, type := _, pos := _, after := _, guard := _ }) (v := .bool true) rfl (by kernel_rfl) (by kernel_rfl) (by kernel_rfl) (fun _ _ _ h => h) (Or.inl ⟨by rfl, fun V (hV : W3.grownBy V none) => by go_simp⟩) g4 ?_
        (try simp only [Act.put, List.setIfInBounds_toArray, List.set_cons_zero, List.set_cons_succ])
        refine wpAnyH_take (i := 9) (oi := { dst := some 54, op := Op.move (Operand.tmp 53), type := _, pos := _, after := _, guard := _ }) (v := .bool true) rfl (by kernel_rfl) (by kernel_rfl) (by kernel_rfl) (fun _ _ _ h => h) (Or.inl ⟨by rfl, fun V (hV : W3.grownBy V none) => by go_simp⟩) g4 ?_
        (try simp only [Act.put, List.setIfInBounds_toArray, List.set_cons_zero, List.set_cons_succ])
        refine wpAnyH_ready (rs := [10]) (by kernel_rfl) (by simp) ?_
        refine AllReadyH.cons (o := { dst := some 55, op := Op.call { callee := Callee.value (Operand.func 19), args := #[], argTypes := #[] }, type := _, pos := _, after := _, guard := _ }) rfl (fun K9 hK9 => ?_) AllReadyH.nil
        go_simp
        go_at_call 19
        refine (c1 _ g4).mono ?_
        rintro e w5 ⟨rfl, g5⟩
        go_wp2_with fail
        refine hK9.out _ _ g5 (fun _ => ?_)
        clear hK9 K9
        (try simp only [Act.put, List.setIfInBounds_toArray, List.set_cons_zero, List.set_cons_succ])
        refine wpAnyH_take (i := 11) (oi := { dst := some 56, op := Op.pick (Operand.tmp 54) (Operand.tmp 55) (Operand.const (Value.bool false)), type := _, pos := _, after := _, guard := _ }) (v := .bool true) rfl (by kernel_rfl) (by kernel_rfl) (by kernel_rfl) (fun _ _ _ h => h) (Or.inl ⟨by rfl, fun V (hV : W3.grownBy V none) => by go_simp⟩) g5 ?_
        (try simp only [Act.put, List.setIfInBounds_toArray, List.set_cons_zero, List.set_cons_succ])
        refine wpAnyH_take (i := 12) (oi := { dst := some 6, op := Op.assign (Operand.tmp 56), type := _, pos := _, after := _, guard := _ }) (v := .bool true) rfl (by kernel_rfl) (by kernel_rfl) (by kernel_rfl) (fun _ _ _ h => h) (Or.inl ⟨by rfl, fun V (hV : W3.grownBy V none) => by go_simp⟩) g5 ?_
        (try simp only [Act.put, List.setIfInBounds_toArray, List.set_cons_zero, List.set_cons_succ])
        refine wpAnyH_done (by kernel_rfl) ?_ _
        refine NoPanic.normal ?_
        go_wp2
        go_ret
        exact ⟨rfl, tr (unhide HG3) g5⟩

end Go.Proofs.YtikdpifacokfpaaDoor
