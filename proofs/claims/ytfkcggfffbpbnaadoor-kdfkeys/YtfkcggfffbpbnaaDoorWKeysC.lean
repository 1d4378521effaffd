/- KdfKeys' walk, of a short key and few texts: whatever the key and the texts hold, the call returns true and nothing that was in memory has changed; where the tables hold what they are laid with. -/
import Derived.Test.YtfkcggfffbpbnaaDoorKLoop
import Derived.Deep.DrawnRows
namespace Go.Proofs.YtfkcggfffbpbnaaDoor
open Go.RowKit
attribute [local go_sem ↓] Go.wp_at_zero Go.wp_at_succ

set_option maxRecDepth 100000 in
set_option maxHeartbeats 4000000 in
theorem keys_short_few (w : World) (ko : Option Addr) (kc : Nat) (key : List UInt8) (hk : Bts w ko kc key) (ao : Option Addr) (c : Nat) (L : List (List UInt8)) (hL : Lst w ao c L) (hT : Tabs w) (hq8 : L.length ≤ 8) (hkc : (key.take 200).length < 64) :
    Calls Tryd.prog 8 #[.slice ko key.length kc, .slice ao L.length c] w fun e w' => e = .returned (.bool true) ∧ w.grownBy w' none := by
  have hi32 : (Tryd.prog.info? 23).map (·.size) = some 32 := by kernel_rfl
  obtain ⟨Y, hY⟩ : ∃ Y : Array Value, Y = ((List.replicate 32 (0 : UInt8)).map bv).toArray := ⟨_, rfl⟩
  have hyv := zero32
  rw [← hY] at hyv
  obtain ⟨i0, hi, hz0, hz1, hz2⟩ := info_parts info_slice
  have htx := text_any w ko kc key hk 200
  obtain ⟨K, hK⟩ : ∃ K, K = key.take 200 := ⟨_, rfl⟩
  have hKb : Bts w ko kc K := by rw [hK]; exact hk.cut 200
  rw [← hK] at htx hkc
  have hKl : K.length ≤ 200 := by rw [hK]; simp; omega
  obtain ⟨fa, fc, hcell, hbts⟩ := lst_fun hL
  obtain ⟨q, hq⟩ : ∃ q, q = L.length := ⟨_, rfl⟩
  obtain ⟨m, hm⟩ : ∃ m, m = L.length := ⟨_, rfl⟩
  have hmq : m ≤ q := by omega
  have hm8 : m ≤ 8 := by omega
  have hshape := hL.shape
  have hzip := hL.zip
  have hfits : q ≤ c := by have := hL.fits; omega
  rw [← hq]
  obtain ⟨A, hA⟩ : ∃ A : Nat → List UInt8, ∀ k, A k = (cutL 200 L k).flatten := ⟨_, fun _ => rfl⟩
  obtain ⟨PV, hPV⟩ : ∃ PV : Nat → List Value, ∀ k, PV k = pvs 200 fa fc L k := ⟨_, fun _ => rfl⟩
  have hAl : ∀ k, k ≤ 8 → (A k).length ≤ 1600 := fun k hk8 => by rw [hA]; have := cutL_flat_le 200 L k; omega
  have HY := hide hY
  have HKB := hide hKb
  have HT := hide hT
  have HA := hide hA
  have HPV := hide hPV
  have HQ := hide hq
  have HM := hide hm
  have HCELL := hide hcell
  have HBTS := hide hbts
  have HSH := hide hshape
  have HZIP := hide hzip
  have HAL := hide hAl
  have HKC := hide hkc
  have HQ8 := hide hq8
  clear hY hKb hT hA hPV hq hm hcell hbts hL hK hk hshape hzip hAl hkc hq8
  go_enter Tryd.func8, Tryd.ntmps8
  go_wp2_with fail
  refine htx.mono ?_
  rintro e w1 ⟨rfl, rfl⟩
  clear htx
  go_wp2
  go_loopw [5, 6, 7] (fun v5 v6 i wr => ∃ k : Nat, k ≤ m ∧ i = .int .i64 k ∧ wr.ownsRow w1.heap.size 5 1 v5 (A k).length ((A k).map bv) ∧ wr.ownsRow w1.heap.size 22 1 v6 k (PV k) ∧ w1.grownBy wr none) (fun _ _ i _ => m - (intOf i).toNat)
  case atStart =>
    refine ⟨0, Nat.zero_le _, rfl, ?_, ?_, gb_refl _ _⟩
    · rw [unhide HA]; exact World.ownsRow_nil _ _ _ _
    · rw [unhide HPV]; exact World.ownsRow_nil _ _ _ _
  case round =>
    obtain ⟨k, hk, rfl, o5, o6, hg⟩ := hrel
    by_cases hlt : k < m
    · have hkq : k < q := by omega
      have hkL : k < L.length := by rw [← unhide HQ]; exact hkq
      have hk8 : (k : Int) < 8 := by omega
      have hkqi : (k : Int) < (q : Int) := by omega
      have hq0 : (0 : Int) ≤ (k : Int) := by omega
      obtain ⟨ad, rfl⟩ : ∃ ad, ao = some ad := by
        cases ao with
        | none => have := (unhide HZIP) rfl; omega
        | some ad => exact ⟨ad, rfl⟩
      have hs := (unhide HSH) ad rfl (by omega)
      obtain ⟨b, o, s⟩ := ad
      simp only at hs
      subst hs
      have hc := (unhide HCELL) _ rfl k hkL
      have hbk := (unhide HBTS) k hkL
      simp only at hc
      obtain ⟨x, hx⟩ : ∃ x, x = L[k].take 200 := ⟨_, rfl⟩
      obtain ⟨xl, hxl⟩ : ∃ xl, xl = L[k].length := ⟨_, rfl⟩
      have hxb : Bts w1 (fa k) (fc k) x := by rw [hx]; exact hbk.cut 200
      have hct : ∀ V, w1.grownBy V none → Calls Tryd.prog 12 #[.slice (fa k) xl (fc k), .int .i64 200] V fun e w' => e = .returned (.slice (fa k) x.length (fc k)) ∧ w' = V := by
        intro V gV
        have h := text_any V (fa k) (fc k) L[k] (hbk.kept gV (fun _ e => by cases e)) 200
        rw [← hx, ← hxl] at h
        exact h
      rw [← hxl] at hc
      have hcr := hg.cell hc (by simp)
      have hA1 : A (k + 1) = A k ++ x := by rw [unhide HA, unhide HA, cutL_snoc 200 L k hkL, hx]
      have hP1 : PV (k + 1) = PV k ++ [.slice (fa k) x.length (fc k)] := by rw [unhide HPV, unhide HPV, pvs_snoc 200 fa fc L k hkL, hx]
      have hAk := unhide HAL k (by omega)
      have hx200 : x.length ≤ 200 := by rw [hx]; simp; omega
      have HA1 := hide hA1
      have HP1 := hide hP1
      have HC := hide hc
      clear hx hxl hA1 hP1 hc hbk
      go_wp2_with fail
      refine (hct wr hg).mono ?_
      rintro e w2 ⟨rfl, rfl⟩
      have hgs := hg.size
      go_wp2_with (at_builtin; refine wpList_append_own _ rfl _ _ 39 rfl w1.heap.size 22 i0 (.slice none 0 0) 1 24 Tryd.underlying39 hi hz0 hz1 hz2 rfl (by decide) _ _ _ rfl (o6.alloc _) ⟨w2.heap.size, 0, none⟩ 1 1 [.slice (fa k) x.length (fc k)] rfl rfl ?c1 ?c2 ?c3 ?c4 ?c5 ?_)
      case c1 =>
        intro t y ht
        match t, ht with
        | 0, ht => simp at ht; subst ht; simp [Addr.add]
      case c2 => intro y hy; simp at hy; subst hy; rfl
      case c3 => unfold maxLen; omega
      case c4 => omega
      case c5 => simp; omega
      intro v6' w3 o63 g3 _
      have o53 := (o5.alloc (.cells #[.slice (fa k) x.length (fc k)] 22)).kept g3 (own_ne (o5.alloc (.cells #[.slice (fa k) x.length (fc k)] 22)) (o6.alloc (.cells #[.slice (fa k) x.length (fc k)] 22)) (by decide))
      have G3 : w1.grownBy w3 none := gb_trans (gb_alloc hg _) g3 (fun y e => Or.inl (o6.lt y e).1)
      have hcr3 := G3.cell (unhide HC) (by simp)
      have hxb3 := hxb.kept G3 (fun _ e => by cases e)
      have hgs3 := G3.size
      clear hcr o5 o6 g3 hg
      go_wp2_with fail
      refine (hct w3 G3).mono ?_
      rintro e w4 ⟨rfl, rfl⟩
      clear hct
      go_wp2_with (at_builtin; refine wpList_append_bts rfl _ _ rfl w1.heap.size _ _ _ rfl o53 (fa k) (fc k) x hxb3 rfl ?n1 ?s1 ?_)
      case n1 => omega
      case s1 => exact hgs3
      intro v5' w5 o55 g5
      have o65 := o63.kept g5 (own_ne o63 o53 (by decide))
      have G5 : w1.grownBy w5 none := gb_trans G3 g5 (fun y e => Or.inl (o53.lt y e).1)
      clear o53 o63 g5 hcr3 hxb3
      go_wp2
      go_roundw
      case rel =>
        refine ⟨k + 1, by omega, by go_num, ?_, ?_, G5⟩
        · rw [unhide HA1, List.length_append, List.map_append]; exact o55
        · rw [unhide HP1]; exact o65
      case measure => simp [intOf]; omega
    · obtain rfl : k = m := by omega
      have hkqi : ¬ (k : Int) < (q : Int) := by have := unhide HM; have := unhide HQ; omega
      obtain ⟨al, hal⟩ : ∃ al, al = A k := ⟨_, rfl⟩
      have hall := unhide HAL k hm8
      rw [← hal] at o5 hall
      obtain ⟨lo, c5, rfl, hbA, _⟩ := NewB.own o5
      rw [unhide HPV] at o6
      obtain ⟨po, pc, rfl, hP⟩ := lst_cut (by rw [← unhide HQ]; exact hmq) hg (unhide HBTS) o6
      obtain ⟨P, hP0⟩ : ∃ P, P = cutL 200 L k := ⟨_, rfl⟩
      rw [← hP0] at hP
      have hPl : P.length = k := by rw [hP0]; exact cutL_length _ _ _ (by rw [← unhide HQ]; exact hmq)
      have hPf : P.flatten = al := by rw [hP0, hal, unhide HA]
      have hTr := (unhide HT).kept0 hg
      have hKr := (unhide HKB).kept hg (fun _ e => by cases e)
      obtain ⟨x, hx⟩ : ∃ x, x = macL K al := ⟨_, rfl⟩
      have hx32 : x.length = 32 := by rw [hx]; exact macL_length _ _
      have hm1 := mac_any (wr.alloc (.cells #[.slice lo al.length c5] 22)) ko kc K (hKr.alloc _) (some ⟨wr.heap.size, 0, none⟩) 1 [al] (lst_one (hbA.alloc _) wr.heap.size (t := 22) (Blk.new wr _ _)) (hTr.kept0 (gb_alloc (gb_refl _ _) _)) (by omega) (by simp; omega)
      rw [show [al].flatten = al by simp, ← hx, show [al].length = 1 from rfl] at hm1
      have HP := hide hP
      have HBA := hide hbA
      have HTR := hide hTr
      have HKR := hide hKr
      have HX := hide hx
      have HPL := hide hPl
      have HPF := hide hPf
      have HX32 := hide hx32
      clear hP hbA hTr hKr hx hPl hPf hx32 hal hP0 o5 o6
      go_wp2_with fail
      refine hm1.mono ?_
      rintro e w2 ⟨rfl, g2⟩
      have G2 : wr.grownBy w2 none := gb_trans (gb_alloc (gb_refl _ _) _) g2 (fun _ e => by cases e)
      have hN2 : Blk (w2.alloc (.cells Y 23)) w2.heap.size 23 ((List.replicate 32 (0 : UInt8)).map bv) := by
        rw [unhide HY]; exact Blk.new w2 23 _
      obtain ⟨W3, hW3⟩ : ∃ W3, W3 = (w2.alloc (.cells Y 23)).setRow w2.heap.size (x.map bv).toArray := ⟨_, rfl⟩
      have hX3 : Blk W3 w2.heap.size 23 (x.map bv) := by rw [hW3]; exact hN2.row _
      have g3 : w2.grownBy W3 none := by rw [hW3]; exact gb_row (gb_alloc (gb_refl _ _) _) _ (Or.inl (Nat.le_refl _))
      have G3 : wr.grownBy W3 none := gb_trans G2 g3 (fun _ e => by cases e)
      have G03 : w1.grownBy W3 none := gb_trans hg G3 (fun _ e => by cases e)
      have hr3 : W3.rangeAt w2.heap.size 0 (x.map bv) := by
        have : Blk W3 w2.heap.size 23 ([] ++ (x.map bv ++ [])) := by simpa using hX3
        exact this.range
      have hT3 := (unhide HTR).kept0 G3
      have hb3 := (unhide HBA).kept G3 (fun _ e => by cases e)
      have hK3 := (unhide HKR).kept G3 (fun _ e => by cases e)
      have hP3 : Lst W3 po pc P := (unhide HP).below (gb_below G3)
      have cP : ∀ V, W3.grownBy V none → Calls Tryd.prog 13 #[.slice ko K.length kc, .slice po k pc] V fun e w' => e = .returned (.agg (x.map bv).toArray) ∧ W3.grownBy w' none ∧ w'.rangeAt w2.heap.size 0 (x.map bv) := by
        intro V gV
        have h := mac_any V ko kc K (hK3.kept gV (fun _ e => by cases e)) po pc P (hP3.below (gb_below gV)) (hT3.kept0 gV) (by omega) (by rw [unhide HPF]; omega)
        rw [unhide HPF, ← unhide HX, unhide HPL] at h
        exact h.mono fun e w' ⟨he, hgw⟩ => ⟨he, gb_trans gV hgw (fun _ e => by cases e), range_kept hr3 (gb_trans gV hgw (fun _ e => by cases e)) (by simp)⟩
      have hneq : ∀ V, (binOp .neq 23 (.agg (x.map bv).toArray) (.agg (x.map bv).toArray)).run Tryd.prog V = .ok (.bool false) V := fun V => neq_sums V x (unhide HX32)
      have heql : ∀ V, (binOp .eql 23 (.agg (x.map bv).toArray) (.agg (x.map bv).toArray)).run Tryd.prog V = .ok (.bool true) V := fun V => by rw [eql_sums V x x (unhide HX32) (unhide HX32)]; simp
      have hsz : ((x.map bv).toArray).size = 32 := by simp [unhide HX32]
      have HSZ := hide hsz
      have HN2 := hide hN2
      have HW3 := hide hW3
      have HT3 := hide hT3
      have HB3 := hide hb3
      have HK3 := hide hK3
      have HG03 := hide G03
      clear hm1 hsz hN2 hW3 hT3 hb3 hK3 hP3 hX3 g2 g3 G2 G3 G03 hg
      go_wp2_with (first | (refine wpList_store_row rfl 23 _ _ rfl w2.heap.size _ rfl rfl _ _ (unhide HN2) ?_ ?_ ?_ ?_; (rw [unhide HSZ]; exact hi32); (rw [unhide HSZ]; rfl); (exact all_oneCell_toArray (bv_one _)); refine (show wpList _ _ _ _ _ W3 → _ from fun q => unhide HW3 ▸ q) ?_))
      have hu32 := Tryd.underlying23
      have hln : (x.map bv).length = 32 := by simp [unhide HX32]
      have hii : (Tryd.prog.info? 23).map (·.size) = some (x.map bv).length := by rw [hln]; exact hi32
      have hgr := gb_refl W3 none
      go_region_held3 (fun V => W3.grownBy V none ∧ V.rangeAt w2.heap.size 0 (x.map bv))
        ((go_split_ands; refine ⟨?_, ?_⟩ <;> (first | assumption | (apply gb_drew; assumption) | (apply gb_alloc; assumption) | (apply World.rangeAt_alloc; assumption) | (rw [World.rangeAt_drew]; assumption))))
        (first
          | (go_at_call 13; refine (cP _ ?_).mono ?_; (first | assumption | (apply gb_drew; assumption)); rintro e w4 ⟨rfl, g4, r4⟩))
      clear cP hgr hneq
      have hkl : ¬ (64 : Int) < (K.length : Int) := by have := unhide HKC; omega
      have hke : ((K.length : Int) == 64) = false := by have := unhide HKC; simp; omega
      have hKm : K.length ≤ 1000000 := by omega
      have hr4 := r4
      have c1 : ∀ V, w4.grownBy V none → Calls Tryd.prog 15 #[] V fun e w' => e = .returned (.bool true) ∧ w4.grownBy w' none ∧ w'.rangeAt w2.heap.size 0 (x.map bv) := by
        intro V gV
        exact (kone_any V ((unhide HT3).kept0 (gb_trans g4 gV (fun _ e => by cases e)))).mono fun e w' ⟨he, hgw⟩ => ⟨he, gb_trans gV hgw (fun _ e => by cases e), range_kept hr4 (gb_trans gV hgw (fun _ e => by cases e)) (by simp)⟩
      have GF : w1.grownBy w4 none := gb_trans (unhide HG03) g4 (fun _ e => by cases e)
      have HGF := hide GF
      have hgr := gb_refl w4 none
      obtain ⟨k2, hk2⟩ : ∃ k2, k2 = K ++ [0] := ⟨_, rfl⟩
      have hmx : macL k2 al = x := by rw [hk2, mac_zero K al (unhide HKC), ← unhide HX]
      have hk2l : k2.length ≤ 201 := by rw [hk2]; simp; omega
      have hb4 := (unhide HB3).kept g4 (fun _ e => by cases e)
      have hK4 := (unhide HK3).kept g4 (fun _ e => by cases e)
      have hT4 := (unhide HT3).kept0 g4
      have cM : ∀ V gL lo2 c2, w4.grownBy V none → Bts V lo2 c2 k2 → Blk V gL 22 [.slice lo al.length c5] → Calls Tryd.prog 13 #[.slice lo2 k2.length c2, .slice (some ⟨gL, 0, none⟩) 1 1] V fun e w' => e = .returned (.agg (x.map bv).toArray) ∧ w4.grownBy w' none ∧ w'.rangeAt w2.heap.size 0 (x.map bv) := by
        intro V gL lo2 c2 gV hb2 hBL
        have h := mac_any V lo2 c2 k2 hb2 (some ⟨gL, 0, none⟩) 1 [al] (lst_one (hb4.kept gV (fun _ e => by cases e)) gL hBL) (hT4.kept0 gV) (by omega) (by simp; omega)
        rw [show [al].flatten = al by simp, hmx, show [al].length = 1 from rfl] at h
        exact h.mono fun e w' ⟨he, hgw⟩ => ⟨he, gb_trans gV hgw (fun _ e => by cases e), range_kept hr4 (gb_trans gV hgw (fun _ e => by cases e)) (by simp)⟩
      have HK2 := hide hk2
      have HK4 := hide hK4
      have hS2 : ∀ V, w4.grownBy V none → w4.grownBy V none ∧ V.rangeAt w2.heap.size 0 (x.map bv) := fun V h => ⟨h, range_kept hr4 h (by simp)⟩
      clear GF g4 hr3 hmx hk2 hb4 hK4 hT4
      go_wp2
      go_region_held3 (fun V => w4.grownBy V none ∧ V.rangeAt w2.heap.size 0 (x.map bv))
        ((go_split_ands; refine hS2 _ ?_; (with_reducible first | assumption | exact gb_drew (by assumption) | exact gb_alloc (by assumption) _ | exact gb_drew (gb_alloc (by assumption) _) | exact gb_alloc (gb_drew (by assumption)) _ | exact gb_drew (gb_alloc (gb_drew (by assumption)) _) | exact gb_alloc (gb_drew (gb_alloc (by assumption) _)) _ | exact gb_drew (gb_alloc (gb_drew (gb_alloc (by assumption) _)) _) | exact gb_alloc (gb_alloc (by assumption) _) _ | exact gb_drew (gb_alloc (gb_alloc (by assumption) _) _) | exact gb_alloc (gb_alloc (gb_alloc (by assumption) _) _) _ | exact gb_alloc (gb_alloc (gb_alloc (gb_drew (by assumption)) _) _) _ | exact gb_alloc (gb_alloc (gb_drew (by assumption)) _) _ | exact gb_drew (gb_alloc (gb_alloc (gb_alloc (by assumption) _) _) _))))
        (first
          | (go_at_call 13; refine (cM _ _ _ _ ?_ ?_ ?_).mono ?_; (with_reducible first | assumption | exact gb_drew (by assumption) | exact gb_alloc (by assumption) _ | exact gb_drew (gb_alloc (by assumption) _) | exact gb_alloc (gb_drew (by assumption)) _ | exact gb_drew (gb_alloc (gb_drew (by assumption)) _) | exact gb_alloc (gb_drew (gb_alloc (by assumption) _)) _ | exact gb_drew (gb_alloc (gb_drew (gb_alloc (by assumption) _)) _) | exact gb_alloc (gb_alloc (by assumption) _) _ | exact gb_drew (gb_alloc (gb_alloc (by assumption) _) _) | exact gb_alloc (gb_alloc (gb_alloc (by assumption) _) _) _ | exact gb_alloc (gb_alloc (gb_alloc (gb_drew (by assumption)) _) _) _ | exact gb_alloc (gb_alloc (gb_drew (by assumption)) _) _ | exact gb_drew (gb_alloc (gb_alloc (gb_alloc (by assumption) _) _) _)); (focus (repeat (with_reducible first | assumption | apply Bts.drew | apply Bts.alloc))); (focus (repeat (first | (with_reducible exact Blk.new _ _ _) | (with_reducible apply Blk.drew) | ((with_reducible refine Blk.newAt ?_); (simp; done)) | (with_reducible apply Blk.alloc) | ((with_reducible apply Kp.use'); (assumption); (focus (first | trivial | (simp; done) | (simp; omega) | decide)))))); rintro e w7 ⟨rfl, g7, r7⟩)
          | (go_at_call 15; refine (c1 _ ?_).mono ?_; (with_reducible first | assumption | exact gb_drew (by assumption) | exact gb_alloc (by assumption) _ | exact gb_drew (gb_alloc (by assumption) _) | exact gb_alloc (gb_drew (by assumption)) _ | exact gb_drew (gb_alloc (gb_drew (by assumption)) _) | exact gb_alloc (gb_drew (gb_alloc (by assumption) _)) _ | exact gb_drew (gb_alloc (gb_drew (gb_alloc (by assumption) _)) _) | exact gb_alloc (gb_alloc (by assumption) _) _ | exact gb_drew (gb_alloc (gb_alloc (by assumption) _) _) | exact gb_alloc (gb_alloc (gb_alloc (by assumption) _) _) _ | exact gb_alloc (gb_alloc (gb_alloc (gb_drew (by assumption)) _) _) _ | exact gb_alloc (gb_alloc (gb_drew (by assumption)) _) _ | exact gb_drew (gb_alloc (gb_alloc (gb_alloc (by assumption) _) _) _)); rintro e w7 ⟨rfl, g7, r7⟩)
          | (refine step_app_a (w := w4) ?_ ?_ ?_ rfl _ _ rfl rfl ko kc K (unhide HK4) rfl hKm ?_; (with_reducible first | assumption | exact gb_drew (by assumption) | exact gb_alloc (by assumption) _ | exact gb_drew (gb_alloc (by assumption) _) | exact gb_alloc (gb_drew (by assumption)) _ | exact gb_drew (gb_alloc (gb_drew (by assumption)) _) | exact gb_alloc (gb_drew (gb_alloc (by assumption) _)) _ | exact gb_drew (gb_alloc (gb_drew (gb_alloc (by assumption) _)) _) | exact gb_alloc (gb_alloc (by assumption) _) _ | exact gb_drew (gb_alloc (gb_alloc (by assumption) _) _) | exact gb_alloc (gb_alloc (gb_alloc (by assumption) _) _) _ | exact gb_alloc (gb_alloc (gb_alloc (gb_drew (by assumption)) _) _) _ | exact gb_alloc (gb_alloc (gb_drew (by assumption)) _) _ | exact gb_drew (gb_alloc (gb_alloc (gb_alloc (by assumption) _) _) _)); (focus (repeat (first | (with_reducible exact Blk.new _ _ _) | (with_reducible apply Blk.drew) | ((with_reducible refine Blk.newAt ?_); (simp; done)) | (with_reducible apply Blk.alloc) | ((with_reducible apply Kp.use'); (assumption); (focus (first | trivial | (simp; done) | (simp; omega) | decide)))))); (first | omega | (simp; omega)); intro lo1 c1' u1 hb1 o1 k1 g1 z1)
          | (refine step_app_b (w := w4) ?_ ?_ ?_ rfl _ _ rfl rfl rfl hKm k2 (unhide HK2) ?_; (with_reducible first | assumption | exact gb_drew (by assumption) | exact gb_alloc (by assumption) _ | exact gb_drew (gb_alloc (by assumption) _) | exact gb_alloc (gb_drew (by assumption)) _ | exact gb_drew (gb_alloc (gb_drew (by assumption)) _) | exact gb_alloc (gb_drew (gb_alloc (by assumption) _)) _ | exact gb_drew (gb_alloc (gb_drew (gb_alloc (by assumption) _)) _) | exact gb_alloc (gb_alloc (by assumption) _) _ | exact gb_drew (gb_alloc (gb_alloc (by assumption) _) _) | exact gb_alloc (gb_alloc (gb_alloc (by assumption) _) _) _ | exact gb_alloc (gb_alloc (gb_alloc (gb_drew (by assumption)) _) _) _ | exact gb_alloc (gb_alloc (gb_drew (by assumption)) _) _ | exact gb_drew (gb_alloc (gb_alloc (gb_alloc (by assumption) _) _) _)); (focus (repeat (with_reducible first | assumption | apply World.ownsRow.drew | apply World.ownsRow.alloc))); (focus (repeat (first | (with_reducible exact Blk.new _ _ _) | (with_reducible apply Blk.drew) | ((with_reducible refine Blk.newAt ?_); (simp; done)) | (with_reducible apply Blk.alloc) | ((with_reducible apply Kp.use'); (assumption); (focus (first | trivial | (simp; done) | (simp; omega) | decide)))))); intro lo2 c2 u2 hb2 k2k g2 z2))
      all_goals go_wp2
      all_goals go_ret
      all_goals exact ⟨rfl, gb_trans (unhide HGF) (by assumption) (fun _ e => by cases e)⟩

end Go.Proofs.YtfkcggfffbpbnaaDoor
