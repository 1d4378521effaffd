/- DrawsFirst answers true: the first bytes that are told are those of the texts, however they are parted; two sources of the same bytes tell the same. For every list of texts and number. -/
import Derived.Test.YtkbldpigbkecpaaDoorDKeep
import Derived.Test.YtkbldpigbkecpaaDoorMGat
import Derived.Deep.DrawnRows
import Derived.Deep.CutBlock
import Derived.Deep.DeepCutAuto
namespace Go.Proofs.YtkbldpigbkecpaaDoor
open Go.RowKit
attribute [local go_sem ↓] Go.wp_at_zero Go.wp_at_succ

/-- What holds through the law's last line. -/
def SF (wr : World) (xo yo : Option Addr) (xc yc : Nat) (X : List UInt8) (V : World) : Prop := wr.grownBy V none ∧ BtT V xo xc X ∧ BtT V yo yc X

theorem SF.none {wr V V' : World} {xo yo : Option Addr} {xc yc : Nat} {X : List UInt8} (h : SF wr xo yo xc yc X V) (g : V.grownBy V' Option.none) : SF wr xo yo xc yc X V' :=
  ⟨tn h.1 g, h.2.1.none g, h.2.2.none g⟩
theorem SF.src {wr V V' : World} {xo yo : Option Addr} {xc yc b u : Nat} {X T : List UInt8} (h : SF wr xo yo xc yc X V) (hb : wr.heap.size ≤ b) (hS : SrcAt V b T u) (g : V.grownBy V' (some b)) : SF wr xo yo xc yc X V' :=
  ⟨ts hb h.1 g, h.2.1.src hS g, h.2.2.src hS g⟩

set_option maxRecDepth 100000 in
set_option maxHeartbeats 4000000 in
theorem drawsFirst_any (w : World) (ao : Option Addr) (c : Nat) (L : List (List UInt8)) (hL : Lst w ao c L) (more : Int) (hT : Tabs w) :
    Calls Tryd.prog 5 #[.slice ao L.length c, .int .i64 more] w fun e w' => e = .returned (.bool true) ∧ w.grownBy w' none := by
  obtain ⟨i0, hi, hz0, hz1, hz2⟩ := info_parts info_slice
  obtain ⟨e, he, hez0⟩ := and_mask 127 (by omega) more
  have hez : bits .and .i64 more 127 = (e : Int) := hez0
  clear hez0
  obtain ⟨fa, fc, hcell, hbts⟩ := lst_fun hL
  obtain ⟨q, hq⟩ : ∃ q, q = L.length := ⟨_, rfl⟩
  have hshape := hL.shape
  have hzip := hL.zip
  have hfits : q ≤ c := by have := hL.fits; omega
  have hqm : q ≤ maxLen := by have := hL.most; have := hL.fits; omega
  unfold maxLen at hqm
  rw [← hq]
  obtain ⟨A, hA⟩ : ∃ A : Nat → List UInt8, ∀ k, A k = (gatL 300 L k).flatten := ⟨_, fun _ => rfl⟩
  obtain ⟨PV, hPV⟩ : ∃ PV : Nat → List Value, ∀ k, PV k = pvs 300 fa fc L k := ⟨_, fun _ => rfl⟩
  have hAl : ∀ k, k ≤ 8 → (A k).length ≤ 2400 := fun k hk8 => by rw [hA]; have := gatL_flat_le 300 L k; omega
  have HT := hide hT
  have HA := hide hA
  have HPV := hide hPV
  have HQ := hide hq
  have HCELL := hide hcell
  have HBTS := hide hbts
  have HSH := hide hshape
  have HZIP := hide hzip
  have HAL := hide hAl
  clear hT hA hPV hq hcell hbts hL hshape hzip hAl
  go_enter Tryd.func5, Tryd.ntmps5
  go_wp2
  go_loopw [5, 6, 7] (fun v5 v6 i wr => ∃ k : Nat, k ≤ q ∧ k ≤ 8 ∧ i = .int .i64 k ∧ wr.ownsRow w.heap.size 5 1 v5 (A k).length ((A k).map bv) ∧ wr.ownsRow w.heap.size 22 1 v6 k (PV k) ∧ w.grownBy wr none) (fun _ _ i _ => q - (intOf i).toNat)
  case atStart =>
    refine ⟨0, Nat.zero_le _, Nat.zero_le _, rfl, ?_, ?_, gb_refl _ _⟩
    · rw [unhide HA]; exact World.ownsRow_nil _ _ _ _
    · rw [unhide HPV]; exact World.ownsRow_nil _ _ _ _
  case round =>
    obtain ⟨k, hk, hk8, rfl, o5, o6, hg⟩ := hrel
    have hkcell : k < q → ∃ b o, ao = some ⟨b, o, none⟩ ∧ wr.cell? ⟨b, o + k, none⟩ = some (.slice (fa k) (L.getD k []).length (fc k)) := fun hkq => by
      have hkL : k < L.length := by rw [← unhide HQ]; exact hkq
      obtain ⟨ad, had⟩ : ∃ ad, ao = some ad := by
        cases ao with
        | none => have := (unhide HZIP) rfl; omega
        | some ad => exact ⟨ad, rfl⟩
      have hs := (unhide HSH) ad had (by omega)
      have hc := (unhide HCELL) ad had k hkL
      obtain ⟨b, o, s⟩ := ad
      simp only at hs hc
      subst hs
      refine ⟨b, o, had, ?_⟩
      rw [hg.cell hc (by simp)]
      simp [List.getD, hkL]
    by_cases hgo : k < q ∧ k < 8 ∧ (L.getD k []).length < 300
    · obtain ⟨hkq, hk8', hx300⟩ := hgo
      have hkL : k < L.length := by rw [← unhide HQ]; exact hkq
      have hk8i : (k : Int) < 8 := by omega
      have hkqi : (k : Int) < (q : Int) := by omega
      have hq0 : (0 : Int) ≤ (k : Int) := by omega
      obtain ⟨b, o, rfl, hcr⟩ := hkcell hkq
      have hbk := (unhide HBTS) k hkL
      obtain ⟨x, hx⟩ : ∃ x, x = L.getD k [] := ⟨_, rfl⟩
      have hxL : L[k] = x := by rw [hx]; simp [List.getD, hkL]
      have hxt : L[k].take 300 = x := by rw [List.take_of_length_le (by rw [hxL, hx]; omega), hxL]
      rw [← hx] at hx300 hcr
      rw [hxL] at hbk
      have hA1 : A (k + 1) = A k ++ x := by rw [unhide HA, unhide HA, gatL_snoc 300 L k hkL, hxt]
      have hP1 : PV (k + 1) = PV k ++ [.slice (fa k) x.length (fc k)] := by rw [unhide HPV, unhide HPV, pvs_snoc 300 fa fc L k hkL, hxt]
      have hAk := unhide HAL k (by omega)
      have hx3i : (x.length : Int) < 300 := by omega
      have HA1 := hide hA1
      have HP1 := hide hP1
      have HC := hide hcr
      have HBK := hide hbk
      have hgs := hg.size
      clear hx hA1 hP1 hbk hkcell hxL hxt
      go_wp2_with (at_builtin; refine wpList_append_own _ rfl _ _ 39 rfl w.heap.size 22 i0 (.slice none 0 0) 1 24 Tryd.underlying39 hi hz0 hz1 hz2 rfl (by decide) _ _ _ rfl (o6.alloc _) ⟨wr.heap.size, 0, none⟩ 1 1 [.slice (fa k) x.length (fc k)] rfl rfl ?c1 ?c2 ?c3 ?c4 ?c5 ?_)
      case c1 =>
        intro t y ht
        match t, ht with
        | 0, ht => simp at ht; subst ht; simp [Addr.add]
      case c2 => intro y hy; simp at hy; subst hy; rfl
      case c3 => unfold maxLen; omega
      case c4 => omega
      case c5 => simp; omega
      intro v6' w3 o63 g3 _
      have o53 := (o5.alloc (.cells #[.slice (fa k) x.length (fc k)] 22)).kept g3 (own_ne (o5.alloc (.cells #[.slice (fa k) x.length (fc k)] 22)) (o6.alloc (.cells #[.slice (fa k) x.length (fc k)] 22)) (by decide))
      have G3 : w.grownBy w3 none := gb_trans (gb_alloc hg _) g3 (fun y e => Or.inl (o6.lt y e).1)
      have hbk3 := (unhide HBK).kept G3 (fun _ e => by cases e)
      have hcw : w3.cell? ⟨b, o + k, none⟩ = some (.slice (fa k) x.length (fc k)) := by
        have := (unhide HCELL) ⟨b, o, none⟩ rfl k hkL
        have h2 := G3.cell this (by simp)
        rw [h2]
        have h3 := hg.cell this (by simp)
        rw [unhide HC] at h3
        exact h3.symm
      have hgs3 := G3.size
      clear hcr o5 o6 g3 hg
      go_wp2_with (at_builtin; refine wpList_append_bts rfl _ _ rfl w.heap.size _ _ _ rfl o53 (fa k) (fc k) x hbk3 rfl ?n1 ?s1 ?_)
      case n1 => omega
      case s1 => exact hgs3
      intro v5' w5 o55 g5
      have o65 := o63.kept g5 (own_ne o63 o53 (by decide))
      have G5 : w.grownBy w5 none := gb_trans G3 g5 (fun y e => Or.inl (o53.lt y e).1)
      clear o53 o63 g5 hcw hbk3
      go_wp2
      go_roundw
      case rel =>
        refine ⟨k + 1, by omega, by omega, by go_num, ?_, ?_, G5⟩
        · rw [unhide HA1, List.length_append, List.map_append]; exact o55
        · rw [unhide HP1]; exact o65
      case measure => simp [intOf]; omega
    · have hq0 : (0 : Int) ≤ (k : Int) := by omega
      have hkL : k ≤ L.length := by rw [← unhide HQ]; exact hk
      have hAk := unhide HAL k hk8
      obtain ⟨a5, c5, rfl, hA0⟩ := own_btT o5
      rw [unhide HPV] at o6
      obtain ⟨po, pc, rfl, hLst⟩ := lst_cut hkL hg (unhide HBTS) o6
      have hlc := gatL_length 300 L k hkL
      obtain ⟨T, hTe⟩ : ∃ T, T = A k := ⟨_, rfl⟩
      have hTf : (gatL 300 L k).flatten = T := by rw [hTe, unhide HA]
      rw [← hTe] at hA0 hAk ⊢
      obtain ⟨K, hK⟩ : ∃ K, K = T.length := ⟨_, rfl⟩
      rw [← hK] at hAk ⊢
      have hT' := unhide HT
      have cnl : Calls Tryd.prog 6 #[.slice po k pc] wr fun e w' => ∃ b, e = .returned (.pointer (some ⟨b, 0, none⟩)) ∧ wr.heap.size ≤ b ∧ SrcAt w' b T 0 ∧ wr.grownBy w' none := by
        have h := dnew_any wr po pc _ hLst (hT'.kept0 hg) (by rw [hTf]; omega)
        rw [hTf, hlc] at h
        exact h
      have cna : ∀ V N, wr.grownBy V none → Blk V N 22 [.slice a5 K c5] → Calls Tryd.prog 6 #[.slice (some ⟨N, 0, none⟩) 1 1] V fun e w' => ∃ b, e = .returned (.pointer (some ⟨b, 0, none⟩)) ∧ V.heap.size ≤ b ∧ SrcAt w' b T 0 ∧ V.grownBy w' none := fun V N gV hN => by
        rw [hK] at hN
        have h := dnew_any V _ 1 [T] (lst_single hN (hA0.none gV).bts) (hT'.kept0 (tn hg gV)) (by simp; omega)
        rw [show [T].flatten = T by simp, show [T].length = 1 from rfl] at h
        exact h
      have ctk : ∀ (V : World) (b us n : Nat), wr.grownBy V none → SrcAt V b T us → n ≤ 10000 → us ≤ 10000 → Calls Tryd.prog 7 #[.pointer (some ⟨b, 0, none⟩), .int .i64 (n : Int)] V fun e w' => ∃ ao c, e = .returned (.slice ao n c) ∧ BtT w' ao c (told T us n) ∧ SrcAt w' b T (us + n) ∧ V.grownBy w' (some b) := fun V b us n gV hS hn hu =>
        take_law V b T us n hS (hT'.kept0 (tn hg gV)) (by omega) (by omega)
      obtain ⟨M, hM⟩ : ∃ M, M = K + e := ⟨_, rfl⟩
      have hMi : (K : Int) + (e : Int) = (M : Int) := by omega
      have hwM : IntKind.i64.wrap (M : Int) = (M : Int) := by rw [IntKind.wrap_i64]; omega
      have hwM2 : IntKind.i64.wrap ((M : Int) + 32) = (M : Int) + 32 := by rw [IntKind.wrap_i64]; omega
      have hM5 : M ≤ 5000 := by omega
      have hKM : K ≤ M := by omega
      obtain ⟨KV, hKV⟩ : ∃ l, l = told T M 32 := ⟨_, rfl⟩
      have hek : ∀ W : World, (binOp .eql 30 (.agg (KV.map bv).toArray) (.agg (KV.map bv).toArray)).run Tryd.prog W = .ok (.bool true) W := fun W => eql_keys W KV (by rw [hKV]; exact told_length _ _ _)
      have cky : ∀ V b us, wr.grownBy V none → SrcAt V b T M → us = M → Calls Tryd.prog 10 #[.pointer (some ⟨b, 0, none⟩)] V fun e w' => e = .returned (.agg (KV.map bv).toArray) ∧ SrcAt w' b T (M + 32) ∧ V.grownBy w' (some b) := fun V b us gV hS _ => by
        rw [hKV]
        exact key_any V b T M hS.fit (hT'.kept0 (tn hg gV)) (by omega)
      have cus : ∀ V b, SrcAt V b T (M + 32) → Calls Tryd.prog 9 #[.pointer (some ⟨b, 0, none⟩)] V fun e w' => e = .returned (.int .i64 ((M : Int) + 32)) ∧ w' = V := fun V b hS => by
        have := used_any V b T (M + 32) hS
        rw [show ((M + 32 : Nat) : Int) = (M : Int) + 32 from by omega] at this
        exact this
      have cone : ∀ V, wr.grownBy V none → Calls Tryd.prog 11 #[] V fun e w' => e = .returned (.bool true) ∧ V.grownBy w' none := fun V gV => done_any V (hT'.kept0 (tn hg gV))
      have hTK : (told T 0 M).take K = T := by rw [told_take T 0 M K hKM, hK, told_all]
      have HTK := hide hTK
      have HEK := hide hek
      have HK := hide hK
      clear hTK hek hKV hK hT' HT hTf hTe hLst hlc o5 o6 HA HPV HCELL HBTS HSH HZIP HAL hkL hM
      go_upto_region 4 with fail
      go_cut [27] (fun x27 wx => x27 = .bool false ∧ wx = wr)
      case first =>
        clear cnl cna ctk cky cus cone
        by_cases h1 : k < q
        · obtain ⟨b, o, rfl, hcr⟩ := hkcell h1
          have h1i : (k : Int) < (q : Int) := by omega
          clear hkcell
          by_cases h2 : k < 8
          · have h2i : (k : Int) < 8 := by omega
            obtain ⟨xl, hxl⟩ : ∃ xl, xl = (L.getD k []).length := ⟨_, rfl⟩
            rw [← hxl] at hcr hgo
            have h3i : ¬ (xl : Int) < 300 := by omega
            clear hxl
            go_wp2
            go_meet
            case rel => exact ⟨rfl, rfl⟩
          · have h2i : ¬ (k : Int) < 8 := by omega
            clear hcr
            go_wp2
            go_meet
            case rel => exact ⟨rfl, rfl⟩
        · have h1i : ¬ (k : Int) < (q : Int) := by omega
          clear hkcell
          go_wp2
          go_meet
          case rel => exact ⟨rfl, rfl⟩
      case rest =>
        obtain ⟨rfl, hwc⟩ := hcut
        rw [hwc]
        clear hkcell hgo hwc
        go_upto_region 9 with fail
        refine region_named fun O hO => ?_
        refine wpList_val (by rw [hO]; kernel_rfl) (.slice po k pc) (fun K9 hK9 => by go_simp; exact hK9) ?_
        (try simp only [Act.put, List.setIfInBounds_toArray, List.set_cons_zero, List.set_cons_succ])
        refine wpList_want (by rw [hO]; kernel_rfl) fun K9 hK9 => ?_
        go_simp
        go_at_call 6
        refine (cnl).mono ?_
        rintro e w2 ⟨bs, rfl, hbs, hS2, g2⟩
        have hA2 := hA0.none g2
        refine hK9 _ _ ?_
        clear hK9 K9
        (try simp only [Act.put, List.setIfInBounds_toArray, List.set_cons_zero, List.set_cons_succ])
        refine wpList_val (by rw [hO]; kernel_rfl) (.slice a5 K c5) (fun K9 hK9 => by go_simp; exact hK9) ?_
        (try simp only [Act.put, List.setIfInBounds_toArray, List.set_cons_zero, List.set_cons_succ])
        refine wpList_want (by rw [hO]; kernel_rfl) fun K9 hK9 => ?_
        go_simp
        refine hK9 _ _ ?_
        clear hK9 K9
        (try simp only [Act.put, List.setIfInBounds_toArray, List.set_cons_zero, List.set_cons_succ])
        obtain ⟨Wb, hWb, hNb, gNb⟩ := alloc_one w2 (.slice a5 K c5)
        rw [← hWb]
        clear hWb
        refine wpList_want (by rw [hO]; kernel_rfl) fun K9 hK9 => ?_
        go_simp
        go_at_call 6
        refine (cna _ _ (tn g2 gNb) hNb).mono ?_
        rintro e w4 ⟨bt, rfl, hbt, hT4, g4⟩
        have G4 := tn (tn g2 gNb) g4
        have hS4 := (hS2.kept gNb (by simp)).kept g4 (by simp)
        have hbs2 := hS2.blk.lt
        have hsb := gNb.size
        have hne : bs ≠ bt := by omega
        have hwt : wr.heap.size ≤ bt := Nat.le_trans (tn g2 gNb).size hbt
        clear hNb hS2 cnl cna hbt hbs2 hsb gNb g2 g4 hA2
        refine hK9 _ _ ?_
        clear hK9 K9
        (try simp only [Act.put, List.setIfInBounds_toArray, List.set_cons_zero, List.set_cons_succ])
        refine wpList_val (by rw [hO]; kernel_rfl) (.pointer (some ⟨bs, 0, none⟩)) (fun K9 hK9 => by go_simp; exact hK9) ?_
        (try simp only [Act.put, List.setIfInBounds_toArray, List.set_cons_zero, List.set_cons_succ])
        refine wpList_val (by rw [hO]; kernel_rfl) (.pointer (some ⟨bt, 0, none⟩)) (fun K9 hK9 => by go_simp; exact hK9) ?_
        (try simp only [Act.put, List.setIfInBounds_toArray, List.set_cons_zero, List.set_cons_succ])
        go_upto_region 10 with fail
        refine region_named fun O hO => ?_
        refine wpList_val (by rw [hO]; kernel_rfl) (.pointer (some ⟨bs, 0, none⟩)) (fun K9 hK9 => by go_simp; exact hK9) ?_
        (try simp only [Act.put, List.setIfInBounds_toArray, List.set_cons_zero, List.set_cons_succ])
        refine wpList_val (by rw [hO]; kernel_rfl) (.slice a5 K c5) (fun K9 hK9 => by go_simp; exact hK9) ?_
        (try simp only [Act.put, List.setIfInBounds_toArray, List.set_cons_zero, List.set_cons_succ])
        refine wpList_val (by rw [hO]; kernel_rfl) (.int .i64 (K : Int)) (fun K9 hK9 => by go_simp; exact hK9) ?_
        (try simp only [Act.put, List.setIfInBounds_toArray, List.set_cons_zero, List.set_cons_succ])
        refine wpList_val (by rw [hO]; kernel_rfl) (.int .i64 (e : Int)) (fun K9 hK9 => by go_simp; exact hK9) ?_
        (try simp only [Act.put, List.setIfInBounds_toArray, List.set_cons_zero, List.set_cons_succ])
        refine wpList_val (by rw [hO]; kernel_rfl) (.int .i64 (M : Int)) (fun K9 hK9 => by go_simp; exact hK9) ?_
        (try simp only [Act.put, List.setIfInBounds_toArray, List.set_cons_zero, List.set_cons_succ])
        refine wpList_want (by rw [hO]; kernel_rfl) fun K9 hK9 => ?_
        go_simp
        go_at_call 7
        refine (ctk _ _ _ M G4 hS4 (by omega) (by omega)).mono ?_
        rintro e w5 ⟨xo, xc, rfl, hX5, hS5, g5⟩
        have G5 := ts hbs G4 g5
        have hT5 := hT4.kept g5 (fun e => hne (by cases e; rfl))
        clear hS4 hT4 g5
        refine hK9 _ _ ?_
        clear hK9 K9
        (try simp only [Act.put, List.setIfInBounds_toArray, List.set_cons_zero, List.set_cons_succ])
        refine wpList_val (by rw [hO]; kernel_rfl) (.pointer (some ⟨bt, 0, none⟩)) (fun K9 hK9 => by go_simp; exact hK9) ?_
        (try simp only [Act.put, List.setIfInBounds_toArray, List.set_cons_zero, List.set_cons_succ])
        refine wpList_val (by rw [hO]; kernel_rfl) (.slice a5 K c5) (fun K9 hK9 => by go_simp; exact hK9) ?_
        (try simp only [Act.put, List.setIfInBounds_toArray, List.set_cons_zero, List.set_cons_succ])
        refine wpList_val (by rw [hO]; kernel_rfl) (.int .i64 (K : Int)) (fun K9 hK9 => by go_simp; exact hK9) ?_
        (try simp only [Act.put, List.setIfInBounds_toArray, List.set_cons_zero, List.set_cons_succ])
        refine wpList_val (by rw [hO]; kernel_rfl) (.int .i64 (e : Int)) (fun K9 hK9 => by go_simp; exact hK9) ?_
        (try simp only [Act.put, List.setIfInBounds_toArray, List.set_cons_zero, List.set_cons_succ])
        refine wpList_val (by rw [hO]; kernel_rfl) (.int .i64 (M : Int)) (fun K9 hK9 => by go_simp; exact hK9) ?_
        (try simp only [Act.put, List.setIfInBounds_toArray, List.set_cons_zero, List.set_cons_succ])
        refine wpList_want (by rw [hO]; kernel_rfl) fun K9 hK9 => ?_
        go_simp
        go_at_call 7
        refine (ctk _ _ _ M G5 hT5 (by omega) (by omega)).mono ?_
        rintro e w6 ⟨yo, yc, rfl, hY6, hT6, g6⟩
        have G6 := ts hwt G5 g6
        have hX6 := hX5.src hT5 g6
        have hS6 := hS5.kept g6 (fun e => hne (by cases e; rfl))
        clear hX5 hT5 hS5 g6 ctk
        refine hK9 _ _ ?_
        clear hK9 K9
        (try simp only [Act.put, List.setIfInBounds_toArray, List.set_cons_zero, List.set_cons_succ])
        refine wpList_val (by rw [hO]; kernel_rfl) (.slice xo M xc) (fun K9 hK9 => by go_simp; exact hK9) ?_
        (try simp only [Act.put, List.setIfInBounds_toArray, List.set_cons_zero, List.set_cons_succ])
        refine wpList_val (by rw [hO]; kernel_rfl) (.slice yo M yc) (fun K9 hK9 => by go_simp; exact hK9) ?_
        (try simp only [Act.put, List.setIfInBounds_toArray, List.set_cons_zero, List.set_cons_succ])
        rw [Nat.zero_add] at hS6 hT6
        obtain ⟨X, hX⟩ : ∃ X, X = told T 0 M := ⟨_, rfl⟩
        rw [← hX] at hX6 hY6
        have hTK := unhide HTK
        rw [← hX] at hTK
        have hXl : X.length = M := by rw [hX]; exact told_length _ _ _
        obtain ⟨sX, hsX⟩ : ∃ s, s = str X := ⟨_, rfl⟩
        obtain ⟨sA, hsA⟩ : ∃ s, s = str T := ⟨_, rfl⟩
        have hcX : ∀ V, SF wr xo yo xc yc X V → (convert 22 9 (.slice xo M xc)).run Tryd.prog V = .ok (.string sX) V := fun V hV => by
          have := conv_str hV.2.1.bts
          rw [hXl, ← hsX] at this
          exact this
        have hcY : ∀ V, SF wr xo yo xc yc X V → (convert 22 9 (.slice yo M yc)).run Tryd.prog V = .ok (.string sX) V := fun V hV => by
          have := conv_str hV.2.2.bts
          rw [hXl, ← hsX] at this
          exact this
        have hcK : ∀ V, SF wr xo yo xc yc X V → (convert 22 9 (.slice xo K xc)).run Tryd.prog V = .ok (.string sA) V := fun V hV => by
          have := conv_str (hV.2.1.bts.take K (by rw [hXl]; exact hKM))
          rw [hTK, ← unhide HK, ← hsA] at this
          exact this
        have hcA : ∀ V, SF wr xo yo xc yc X V → (convert 22 9 (.slice a5 K c5)).run Tryd.prog V = .ok (.string sA) V := fun V hV => by
          have := conv_str (hA0.none hV.1).bts
          rw [← unhide HK, ← hsA] at this
          exact this
        have hxc : K ≤ xc := by have := hX6.bts.fits; omega
        have slX : ∀ W, (Instr.slice 22 (.slice xo M xc) none (some (.int .i64 (K : Int))) none).run Tryd.prog W = .ok (.slice xo K xc) W := fun W => slice_to W _ _ Tryd.underlying22 size_byte xo M xc K hxc
        have h0 : SF wr xo yo xc yc X w6.drew := SF.none ⟨G6, hX6, hY6⟩ (gb_drew (gb_refl _ _))
        have hS7 : SrcAt w6.drew bs T M := hS6.kept (gb_drew (gb_refl _ none)) (by simp)
        have hT7 : SrcAt w6.drew bt T M := hT6.kept (gb_drew (gb_refl _ none)) (by simp)
        clear hX hTK hXl hsX hsA hX6 hY6 hS6 hT6 hA0 HTK HK G4 G5
        go_upto_region 11 with fail
        refine wp_region_noPanic ?_
        refine wp_region_held_drew (S := fun V => SF wr xo yo xc yc X V) (by kernel_rfl) h0 (fun _ => ?_)
        refine wpAnyH_take (i := 0) (oi := { dst := some 62, op := Op.move (Operand.tmp 10), type := _, pos := _, after := _, guard := _ }) (v := .slice xo M xc) rfl (by kernel_rfl) (by kernel_rfl) (by kernel_rfl) (fun _ _ _ h => h) (Or.inl ⟨by rfl, fun V (hV : SF wr xo yo xc yc X V) => by go_simp⟩) h0 ?_
        (try simp only [Act.put, List.setIfInBounds_toArray, List.set_cons_zero, List.set_cons_succ])
        refine wpAnyH_take (i := 1) (oi := { dst := some 63, op := Op.call { callee := Callee.builtin Builtin.len, args := #[(Operand.tmp 62)], argTypes := #[22] }, type := _, pos := _, after := _, guard := _ }) (v := .int .i64 (M : Int)) rfl (by kernel_rfl) (by kernel_rfl) (by kernel_rfl) (fun _ _ _ h => h) (Or.inl ⟨by rfl, fun V (hV : SF wr xo yo xc yc X V) => by go_simp⟩) h0 ?_
        (try simp only [Act.put, List.setIfInBounds_toArray, List.set_cons_zero, List.set_cons_succ])
        refine wpAnyH_take (i := 2) (oi := { dst := some 64, op := Op.move (Operand.tmp 5), type := _, pos := _, after := _, guard := _ }) (v := .slice a5 K c5) rfl (by kernel_rfl) (by kernel_rfl) (by kernel_rfl) (fun _ _ _ h => h) (Or.inl ⟨by rfl, fun V (hV : SF wr xo yo xc yc X V) => by go_simp⟩) h0 ?_
        (try simp only [Act.put, List.setIfInBounds_toArray, List.set_cons_zero, List.set_cons_succ])
        refine wpAnyH_take (i := 3) (oi := { dst := some 65, op := Op.call { callee := Callee.builtin Builtin.len, args := #[(Operand.tmp 64)], argTypes := #[22] }, type := _, pos := _, after := _, guard := _ }) (v := .int .i64 (K : Int)) rfl (by kernel_rfl) (by kernel_rfl) (by kernel_rfl) (fun _ _ _ h => h) (Or.inl ⟨by rfl, fun V (hV : SF wr xo yo xc yc X V) => by go_simp⟩) h0 ?_
        (try simp only [Act.put, List.setIfInBounds_toArray, List.set_cons_zero, List.set_cons_succ])
        refine wpAnyH_take (i := 4) (oi := { dst := some 66, op := Op.move (Operand.tmp 1), type := _, pos := _, after := _, guard := _ }) (v := .int .i64 (e : Int)) rfl (by kernel_rfl) (by kernel_rfl) (by kernel_rfl) (fun _ _ _ h => h) (Or.inl ⟨by rfl, fun V (hV : SF wr xo yo xc yc X V) => by go_simp⟩) h0 ?_
        (try simp only [Act.put, List.setIfInBounds_toArray, List.set_cons_zero, List.set_cons_succ])
        refine wpAnyH_take (i := 5) (oi := { dst := some 67, op := Op.binOp BinOp.add 3 (Operand.tmp 65) (Operand.tmp 66) 3, type := _, pos := _, after := _, guard := _ }) (v := .int .i64 (M : Int)) rfl (by kernel_rfl) (by kernel_rfl) (by kernel_rfl) (fun _ _ _ h => h) (Or.inl ⟨by rfl, fun V (hV : SF wr xo yo xc yc X V) => by go_simp⟩) h0 ?_
        (try simp only [Act.put, List.setIfInBounds_toArray, List.set_cons_zero, List.set_cons_succ])
        refine wpAnyH_take (i := 6) (oi := { dst := some 68, op := Op.binOp BinOp.eql 3 (Operand.tmp 63) (Operand.tmp 67) 3, type := _, pos := _, after := _, guard := _ }) (v := .bool true) rfl (by kernel_rfl) (by kernel_rfl) (by kernel_rfl) (fun _ _ _ h => h) (Or.inl ⟨by rfl, fun V (hV : SF wr xo yo xc yc X V) => by go_simp⟩) h0 ?_
        (try simp only [Act.put, List.setIfInBounds_toArray, List.set_cons_zero, List.set_cons_succ])
        refine wpAnyH_take (i := 7) (oi := { dst := some 69, op := Op.move (Operand.tmp 68), type := _, pos := _, after := _, guard := _ }) (v := .bool true) rfl (by kernel_rfl) (by kernel_rfl) (by kernel_rfl) (fun _ _ _ h => h) (Or.inl ⟨by rfl, fun V (hV : SF wr xo yo xc yc X V) => by go_simp⟩) h0 ?_
        (try simp only [Act.put, List.setIfInBounds_toArray, List.set_cons_zero, List.set_cons_succ])
        refine wpAnyH_take (i := 8) (oi := { dst := some 70, op := Op.move (Operand.tmp 10), type := _, pos := _, after := _, guard := _ }) (v := .slice xo M xc) rfl (by kernel_rfl) (by kernel_rfl) (by kernel_rfl) (fun _ _ _ h => h) (Or.inl ⟨by rfl, fun V (hV : SF wr xo yo xc yc X V) => by go_simp⟩) h0 ?_
        (try simp only [Act.put, List.setIfInBounds_toArray, List.set_cons_zero, List.set_cons_succ])
        refine wpAnyH_take (i := 9) (oi := { dst := some 71, op := Op.convert 22 9 (Operand.tmp 70), type := _, pos := _, after := _, guard := _ }) (v := .string sX) rfl (by kernel_rfl) (by kernel_rfl) (by kernel_rfl) (fun _ _ _ h => h) (Or.inl ⟨by rfl, fun V (hV : SF wr xo yo xc yc X V) => by (have hv9 := hcX V hV; go_simp)⟩) h0 ?_
        (try simp only [Act.put, List.setIfInBounds_toArray, List.set_cons_zero, List.set_cons_succ])
        refine wpAnyH_take (i := 10) (oi := { dst := some 72, op := Op.move (Operand.tmp 11), type := _, pos := _, after := _, guard := _ }) (v := .slice yo M yc) rfl (by kernel_rfl) (by kernel_rfl) (by kernel_rfl) (fun _ _ _ h => h) (Or.inl ⟨by rfl, fun V (hV : SF wr xo yo xc yc X V) => by go_simp⟩) h0 ?_
        (try simp only [Act.put, List.setIfInBounds_toArray, List.set_cons_zero, List.set_cons_succ])
        refine wpAnyH_take (i := 11) (oi := { dst := some 73, op := Op.convert 22 9 (Operand.tmp 72), type := _, pos := _, after := _, guard := _ }) (v := .string sX) rfl (by kernel_rfl) (by kernel_rfl) (by kernel_rfl) (fun _ _ _ h => h) (Or.inl ⟨by rfl, fun V (hV : SF wr xo yo xc yc X V) => by (have hv9 := hcY V hV; go_simp)⟩) h0 ?_
        (try simp only [Act.put, List.setIfInBounds_toArray, List.set_cons_zero, List.set_cons_succ])
        refine wpAnyH_take (i := 12) (oi := { dst := some 74, op := Op.binOp BinOp.eql 9 (Operand.tmp 71) (Operand.tmp 73) 9, type := _, pos := _, after := _, guard := _ }) (v := .bool true) rfl (by kernel_rfl) (by kernel_rfl) (by kernel_rfl) (fun _ _ _ h => h) (Or.inl ⟨by rfl, fun V (hV : SF wr xo yo xc yc X V) => by go_simp⟩) h0 ?_
        (try simp only [Act.put, List.setIfInBounds_toArray, List.set_cons_zero, List.set_cons_succ])
        refine wpAnyH_take (i := 13) (oi := { dst := some 75, op := Op.pick (Operand.tmp 69) (Operand.tmp 74) (Operand.const (Value.bool false)), type := _, pos := _, after := _, guard := _ }) (v := .bool true) rfl (by kernel_rfl) (by kernel_rfl) (by kernel_rfl) (fun _ _ _ h => h) (Or.inl ⟨by rfl, fun V (hV : SF wr xo yo xc yc X V) => by go_simp⟩) h0 ?_
        (try simp only [Act.put, List.setIfInBounds_toArray, List.set_cons_zero, List.set_cons_succ])
        refine wpAnyH_take (i := 14) (oi := { dst := some 76, op := Op.move (Operand.tmp 75), type := _, pos := _, after := _, guard := _ }) (v := .bool true) rfl (by kernel_rfl) (by kernel_rfl) (by kernel_rfl) (fun _ _ _ h => h) (Or.inl ⟨by rfl, fun V (hV : SF wr xo yo xc yc X V) => by go_simp⟩) h0 ?_
        (try simp only [Act.put, List.setIfInBounds_toArray, List.set_cons_zero, List.set_cons_succ])
        refine wpAnyH_take (i := 15) (oi := { dst := some 77, op := Op.move (Operand.tmp 10), type := _, pos := _, after := _, guard := _ }) (v := .slice xo M xc) rfl (by kernel_rfl) (by kernel_rfl) (by kernel_rfl) (fun _ _ _ h => h) (Or.inl ⟨by rfl, fun V (hV : SF wr xo yo xc yc X V) => by go_simp⟩) h0 ?_
        (try simp only [Act.put, List.setIfInBounds_toArray, List.set_cons_zero, List.set_cons_succ])
        refine wpAnyH_take (i := 16) (oi := { dst := some 78, op := Op.move (Operand.tmp 5), type := _, pos := _, after := _, guard := _ }) (v := .slice a5 K c5) rfl (by kernel_rfl) (by kernel_rfl) (by kernel_rfl) (fun _ _ _ h => h) (Or.inl ⟨by rfl, fun V (hV : SF wr xo yo xc yc X V) => by go_simp⟩) h0 ?_
        (try simp only [Act.put, List.setIfInBounds_toArray, List.set_cons_zero, List.set_cons_succ])
        refine wpAnyH_take (i := 17) (oi := { dst := some 79, op := Op.call { callee := Callee.builtin Builtin.len, args := #[(Operand.tmp 78)], argTypes := #[22] }, type := _, pos := _, after := _, guard := _ }) (v := .int .i64 (K : Int)) rfl (by kernel_rfl) (by kernel_rfl) (by kernel_rfl) (fun _ _ _ h => h) (Or.inl ⟨by rfl, fun V (hV : SF wr xo yo xc yc X V) => by go_simp⟩) h0 ?_
        (try simp only [Act.put, List.setIfInBounds_toArray, List.set_cons_zero, List.set_cons_succ])
        refine wpAnyH_take (i := 18) (oi := { dst := some 80, op := Op.slice 22 (Operand.tmp 77) none (some (Operand.tmp 79)) none, type := _, pos := _, after := _, guard := _ }) (v := .slice xo K xc) rfl (by kernel_rfl) (by kernel_rfl) (by kernel_rfl) (fun _ _ _ h => h) (Or.inl ⟨by rfl, fun V (hV : SF wr xo yo xc yc X V) => by go_simp⟩) h0 ?_
        (try simp only [Act.put, List.setIfInBounds_toArray, List.set_cons_zero, List.set_cons_succ])
        refine wpAnyH_take (i := 19) (oi := { dst := some 81, op := Op.convert 22 9 (Operand.tmp 80), type := _, pos := _, after := _, guard := _ }) (v := .string sA) rfl (by kernel_rfl) (by kernel_rfl) (by kernel_rfl) (fun _ _ _ h => h) (Or.inl ⟨by rfl, fun V (hV : SF wr xo yo xc yc X V) => by (have hv9 := hcK V hV; go_simp)⟩) h0 ?_
        (try simp only [Act.put, List.setIfInBounds_toArray, List.set_cons_zero, List.set_cons_succ])
        refine wpAnyH_take (i := 20) (oi := { dst := some 82, op := Op.move (Operand.tmp 5), type := _, pos := _, after := _, guard := _ }) (v := .slice a5 K c5) rfl (by kernel_rfl) (by kernel_rfl) (by kernel_rfl) (fun _ _ _ h => h) (Or.inl ⟨by rfl, fun V (hV : SF wr xo yo xc yc X V) => by go_simp⟩) h0 ?_
        (try simp only [Act.put, List.setIfInBounds_toArray, List.set_cons_zero, List.set_cons_succ])
        refine wpAnyH_take (i := 21) (oi := { dst := some 83, op := Op.convert 22 9 (Operand.tmp 82), type := _, pos := _, after := _, guard := _ }) (v := .string sA) rfl (by kernel_rfl) (by kernel_rfl) (by kernel_rfl) (fun _ _ _ h => h) (Or.inl ⟨by rfl, fun V (hV : SF wr xo yo xc yc X V) => by (have hv9 := hcA V hV; go_simp)⟩) h0 ?_
        (try simp only [Act.put, List.setIfInBounds_toArray, List.set_cons_zero, List.set_cons_succ])
        refine wpAnyH_take (i := 22) (oi := { dst := some 84, op := Op.binOp BinOp.eql 9 (Operand.tmp 81) (Operand.tmp 83) 9, type := _, pos := _, after := _, guard := _ }) (v := .bool true) rfl (by kernel_rfl) (by kernel_rfl) (by kernel_rfl) (fun _ _ _ h => h) (Or.inl ⟨by rfl, fun V (hV : SF wr xo yo xc yc X V) => by go_simp⟩) h0 ?_
        (try simp only [Act.put, List.setIfInBounds_toArray, List.set_cons_zero, List.set_cons_succ])
        refine wpAnyH_take (i := 23) (oi := { dst := some 85, op := Op.pick (Operand.tmp 76) (Operand.tmp 84) (Operand.const (Value.bool false)), type := _, pos := _, after := _, guard := _ }) (v := .bool true) rfl (by kernel_rfl) (by kernel_rfl) (by kernel_rfl) (fun _ _ _ h => h) (Or.inl ⟨by rfl, fun V (hV : SF wr xo yo xc yc X V) => by go_simp⟩) h0 ?_
        (try simp only [Act.put, List.setIfInBounds_toArray, List.set_cons_zero, List.set_cons_succ])
        refine wpAnyH_take (i := 24) (oi := { dst := some 86, op := Op.move (Operand.tmp 85), type := _, pos := _, after := _, guard := _ }) (v := .bool true) rfl (by kernel_rfl) (by kernel_rfl) (by kernel_rfl) (fun _ _ _ h => h) (Or.inl ⟨by rfl, fun V (hV : SF wr xo yo xc yc X V) => by go_simp⟩) h0 ?_
        (try simp only [Act.put, List.setIfInBounds_toArray, List.set_cons_zero, List.set_cons_succ])
        refine wpAnyH_take (i := 25) (oi := { dst := some 87, op := Op.move (Operand.tmp 8), type := _, pos := _, after := _, guard := _ }) (v := .pointer (some ⟨bs, 0, none⟩)) rfl (by kernel_rfl) (by kernel_rfl) (by kernel_rfl) (fun _ _ _ h => h) (Or.inl ⟨by rfl, fun V (hV : SF wr xo yo xc yc X V) => by go_simp⟩) h0 ?_
        (try simp only [Act.put, List.setIfInBounds_toArray, List.set_cons_zero, List.set_cons_succ])
        refine wpAnyH_take (i := 27) (oi := { dst := some 89, op := Op.move (Operand.tmp 9), type := _, pos := _, after := _, guard := _ }) (v := .pointer (some ⟨bt, 0, none⟩)) rfl (by kernel_rfl) (by kernel_rfl) (by kernel_rfl) (fun _ _ _ h => h) (Or.inl ⟨by rfl, fun V (hV : SF wr xo yo xc yc X V) => by go_simp⟩) h0 ?_
        (try simp only [Act.put, List.setIfInBounds_toArray, List.set_cons_zero, List.set_cons_succ])
        refine wpAnyH_ready (rs := [26]) (by kernel_rfl) (by simp) ?_
        refine AllReadyH.cons (o := { dst := some 88, op := Op.call { callee := Callee.value (Operand.func 10), args := #[(Operand.tmp 87)], argTypes := #[24] }, type := _, pos := _, after := _, guard := _ }) rfl (fun K9 hK9 => ?_) AllReadyH.nil
        go_simp
        go_at_call 10
        refine (cky _ _ _ (h0.1) hS7 rfl).mono ?_
        rintro e w8 ⟨rfl, hS8, g8⟩
        go_wp2_with fail
        refine hK9.out _ _ (h0.src hbs hS7 g8) (fun _ => ?_)
        clear hK9 K9
        (try simp only [Act.put, List.setIfInBounds_toArray, List.set_cons_zero, List.set_cons_succ])
        have h8 := h0.src hbs hS7 g8
        have hT8 := hT7.kept g8 (fun e => hne (by cases e; rfl))
        refine wpAnyH_ready (rs := [28]) (by kernel_rfl) (by simp) ?_
        refine AllReadyH.cons (o := { dst := some 90, op := Op.call { callee := Callee.value (Operand.func 10), args := #[(Operand.tmp 89)], argTypes := #[24] }, type := _, pos := _, after := _, guard := _ }) rfl (fun K9 hK9 => ?_) AllReadyH.nil
        go_simp
        go_at_call 10
        refine (cky _ _ _ (h8.1) hT8 rfl).mono ?_
        rintro e w9 ⟨rfl, hT9, g9⟩
        go_wp2_with fail
        refine hK9.out _ _ (h8.src hwt hT8 g9) (fun _ => ?_)
        clear hK9 K9
        (try simp only [Act.put, List.setIfInBounds_toArray, List.set_cons_zero, List.set_cons_succ])
        have h9 := h8.src hwt hT8 g9
        have hS9 := hS8.kept g9 (fun e => hne (by cases e; rfl))
        refine wpAnyH_take (i := 29) (oi := { dst := some 91, op := Op.binOp BinOp.eql 30 (Operand.tmp 88) (Operand.tmp 90) 30, type := _, pos := _, after := _, guard := _ }) (v := .bool true) rfl (by kernel_rfl) (by kernel_rfl) (by kernel_rfl) (fun _ _ _ h => h) (yieldsIf_same (by rfl) _ _ _ _ rfl _ _ _ rfl rfl guard_key (unhide HEK)) h9 ?_
        (try simp only [Act.put, List.setIfInBounds_toArray, List.set_cons_zero, List.set_cons_succ])
        refine wpAnyH_take (i := 30) (oi := { dst := some 92, op := Op.pick (Operand.tmp 86) (Operand.tmp 91) (Operand.const (Value.bool false)), type := _, pos := _, after := _, guard := _ }) (v := .bool true) rfl (by kernel_rfl) (by kernel_rfl) (by kernel_rfl) (fun _ _ _ h => h) (Or.inl ⟨by rfl, fun V (hV : SF wr xo yo xc yc X V) => by go_simp⟩) h9 ?_
        (try simp only [Act.put, List.setIfInBounds_toArray, List.set_cons_zero, List.set_cons_succ])
        refine wpAnyH_take (i := 31) (oi := { dst := some 93, op := Op.move (Operand.tmp 92), type := _, pos := _, after := _, guard := _ }) (v := .bool true) rfl (by kernel_rfl) (by kernel_rfl) (by kernel_rfl) (fun _ _ _ h => h) (Or.inl ⟨by rfl, fun V (hV : SF wr xo yo xc yc X V) => by go_simp⟩) h9 ?_
        (try simp only [Act.put, List.setIfInBounds_toArray, List.set_cons_zero, List.set_cons_succ])
        refine wpAnyH_take (i := 32) (oi := { dst := some 94, op := Op.move (Operand.tmp 8), type := _, pos := _, after := _, guard := _ }) (v := .pointer (some ⟨bs, 0, none⟩)) rfl (by kernel_rfl) (by kernel_rfl) (by kernel_rfl) (fun _ _ _ h => h) (Or.inl ⟨by rfl, fun V (hV : SF wr xo yo xc yc X V) => by go_simp⟩) h9 ?_
        (try simp only [Act.put, List.setIfInBounds_toArray, List.set_cons_zero, List.set_cons_succ])
        refine wpAnyH_take (i := 34) (oi := { dst := some 96, op := Op.move (Operand.tmp 5), type := _, pos := _, after := _, guard := _ }) (v := .slice a5 K c5) rfl (by kernel_rfl) (by kernel_rfl) (by kernel_rfl) (fun _ _ _ h => h) (Or.inl ⟨by rfl, fun V (hV : SF wr xo yo xc yc X V) => by go_simp⟩) h9 ?_
        (try simp only [Act.put, List.setIfInBounds_toArray, List.set_cons_zero, List.set_cons_succ])
        refine wpAnyH_take (i := 35) (oi := { dst := some 97, op := Op.call { callee := Callee.builtin Builtin.len, args := #[(Operand.tmp 96)], argTypes := #[22] }, type := _, pos := _, after := _, guard := _ }) (v := .int .i64 (K : Int)) rfl (by kernel_rfl) (by kernel_rfl) (by kernel_rfl) (fun _ _ _ h => h) (Or.inl ⟨by rfl, fun V (hV : SF wr xo yo xc yc X V) => by go_simp⟩) h9 ?_
        (try simp only [Act.put, List.setIfInBounds_toArray, List.set_cons_zero, List.set_cons_succ])
        refine wpAnyH_take (i := 36) (oi := { dst := some 98, op := Op.move (Operand.tmp 1), type := _, pos := _, after := _, guard := _ }) (v := .int .i64 (e : Int)) rfl (by kernel_rfl) (by kernel_rfl) (by kernel_rfl) (fun _ _ _ h => h) (Or.inl ⟨by rfl, fun V (hV : SF wr xo yo xc yc X V) => by go_simp⟩) h9 ?_
        (try simp only [Act.put, List.setIfInBounds_toArray, List.set_cons_zero, List.set_cons_succ])
        refine wpAnyH_take (i := 37) (oi := { dst := some 99, op := Op.binOp BinOp.add 3 (Operand.tmp 97) (Operand.tmp 98) 3, type := _, pos := _, after := _, guard := _ }) (v := .int .i64 (M : Int)) rfl (by kernel_rfl) (by kernel_rfl) (by kernel_rfl) (fun _ _ _ h => h) (Or.inl ⟨by rfl, fun V (hV : SF wr xo yo xc yc X V) => by go_simp⟩) h9 ?_
        (try simp only [Act.put, List.setIfInBounds_toArray, List.set_cons_zero, List.set_cons_succ])
        refine wpAnyH_take (i := 38) (oi := { dst := some 100, op := Op.binOp BinOp.add 3 (Operand.tmp 99) (Operand.const (Value.int IntKind.i64 32)) 3, type := _, pos := _, after := _, guard := _ }) (v := .int .i64 ((M : Int) + 32)) rfl (by kernel_rfl) (by kernel_rfl) (by kernel_rfl) (fun _ _ _ h => h) (Or.inl ⟨by rfl, fun V (hV : SF wr xo yo xc yc X V) => by go_simp⟩) h9 ?_
        (try simp only [Act.put, List.setIfInBounds_toArray, List.set_cons_zero, List.set_cons_succ])
        refine wpAnyH_ready (rs := [33]) (by kernel_rfl) (by simp) ?_
        refine AllReadyH.cons (o := { dst := some 95, op := Op.call { callee := Callee.value (Operand.func 9), args := #[(Operand.tmp 94)], argTypes := #[24] }, type := _, pos := _, after := _, guard := _ }) rfl (fun K9 hK9 => ?_) AllReadyH.nil
        go_simp
        go_at_call 9
        refine (cus _ _ hS9).mono ?_
        rintro e w10 ⟨rfl, rfl⟩
        go_wp2_with fail
        refine hK9.out _ _ h9 (fun _ => ?_)
        clear hK9 K9
        (try simp only [Act.put, List.setIfInBounds_toArray, List.set_cons_zero, List.set_cons_succ])
        refine wpAnyH_take (i := 39) (oi := { dst := some 101, op := Op.binOp BinOp.eql 3 (Operand.tmp 95) (Operand.tmp 100) 3, type := _, pos := _, after := _, guard := _ }) (v := .bool true) rfl (by kernel_rfl) (by kernel_rfl) (by kernel_rfl) (fun _ _ _ h => h) (Or.inl ⟨by rfl, fun V (hV : SF wr xo yo xc yc X V) => by go_simp⟩) h9 ?_
        (try simp only [Act.put, List.setIfInBounds_toArray, List.set_cons_zero, List.set_cons_succ])
        refine wpAnyH_take (i := 40) (oi := { dst := some 102, op := Op.pick (Operand.tmp 93) (Operand.tmp 101) (Operand.const (Value.bool false)), type := _, pos := _, after := _, guard := _ }) (v := .bool true) rfl (by kernel_rfl) (by kernel_rfl) (by kernel_rfl) (fun _ _ _ h => h) (Or.inl ⟨by rfl, fun V (hV : SF wr xo yo xc yc X V) => by go_simp⟩) h9 ?_
        (try simp only [Act.put, List.setIfInBounds_toArray, List.set_cons_zero, List.set_cons_succ])
        refine wpAnyH_take (i := 41) (oi := { dst := some 103, op := Op.move (Operand.tmp 102), type := _, pos := _, after := _, guard := _ }) (v := .bool true) rfl (by kernel_rfl) (by kernel_rfl) (by kernel_rfl) (fun _ _ _ h => h) (Or.inl ⟨by rfl, fun V (hV : SF wr xo yo xc yc X V) => by go_simp⟩) h9 ?_
        (try simp only [Act.put, List.setIfInBounds_toArray, List.set_cons_zero, List.set_cons_succ])
        refine wpAnyH_ready (rs := [42]) (by kernel_rfl) (by simp) ?_
        refine AllReadyH.cons (o := { dst := some 104, op := Op.call { callee := Callee.value (Operand.func 11), args := #[], argTypes := #[] }, type := _, pos := _, after := _, guard := _ }) rfl (fun K9 hK9 => ?_) AllReadyH.nil
        go_simp
        go_at_call 11
        refine (cone _ (h9.1)).mono ?_
        rintro e w11 ⟨rfl, g11⟩
        go_wp2_with fail
        refine hK9.out _ _ (h9.none g11) (fun _ => ?_)
        clear hK9 K9
        (try simp only [Act.put, List.setIfInBounds_toArray, List.set_cons_zero, List.set_cons_succ])
        refine wpAnyH_take (i := 43) (oi := { dst := some 105, op := Op.pick (Operand.tmp 103) (Operand.tmp 104) (Operand.const (Value.bool false)), type := _, pos := _, after := _, guard := _ }) (v := .bool true) rfl (by kernel_rfl) (by kernel_rfl) (by kernel_rfl) (fun _ _ _ h => h) (Or.inl ⟨by rfl, fun V (hV : SF wr xo yo xc yc X V) => by go_simp⟩) (h9.none g11) ?_
        (try simp only [Act.put, List.setIfInBounds_toArray, List.set_cons_zero, List.set_cons_succ])
        refine wpAnyH_take (i := 44) (oi := { dst := some 4, op := Op.assign (Operand.tmp 105), type := _, pos := _, after := _, guard := _ }) (v := .bool true) rfl (by kernel_rfl) (by kernel_rfl) (by kernel_rfl) (fun _ _ _ h => h) (Or.inl ⟨by rfl, fun V (hV : SF wr xo yo xc yc X V) => by go_simp⟩) (h9.none g11) ?_
        (try simp only [Act.put, List.setIfInBounds_toArray, List.set_cons_zero, List.set_cons_succ])
        refine wpAnyH_done (by kernel_rfl) ?_ _
        refine NoPanic.normal ?_
        go_wp2
        go_ret
        exact ⟨rfl, tn hg (h9.none g11).1⟩

end Go.Proofs.YtkbldpigbkecpaaDoor
