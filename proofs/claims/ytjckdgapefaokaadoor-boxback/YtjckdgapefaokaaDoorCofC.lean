/- What box's own drawFor answers: as many bytes as are asked for, and 28, of the source. Where fewer than 2 to the 45 were told. -/
import Derived.Test.YtjckdgapefaokaaDoorBKeep
import Derived.Test.YtjckdgapefaokaaDoorCofD
namespace Go.Proofs.YtjckdgapefaokaaDoor
open Go.RowKit

/-- Take, its answer in memory of its own. -/
theorem take_own (w : World) (b : Nat) (T : List UInt8) (us n : Nat) (h : SrcAt w b T us) (hT : Tabs w) (hn : n ≤ 65536) (hus : us ≤ 70368744177664) :
    Calls Tryd.prog 22 #[.pointer (some ⟨b, 0, none⟩), .int .i64 (n : Int)] w fun e w' => ∃ v, e = .returned v ∧ w'.ownsRow w.heap.size 5 1 v n ((told T us n).map bv) ∧ SrcAt w' b T (us + n) ∧ w.grownBy w' (some b) := by
  by_cases h0 : n = 0
  · subst h0
    refine (take_few w b ((0 : Nat) : Int) (by omega)).mono ?_
    rintro e w' ⟨rfl, rfl⟩
    exact ⟨_, rfl, World.ownsRow_nil _ _ _ _, h, gb_refl _ _⟩
  · refine (take_some w b T us n h.fit hT (by omega) hn hus).mono ?_
    rintro e w' ⟨g, rfl, hg, hB, hS, gg⟩
    have := own_of_blk hB hg (by rw [told_length]; unfold maxLen; omega)
    rw [told_length] at this
    exact ⟨_, rfl, this, hS, gg⟩

theorem BoxAt.drawn {u w a : World} {bb bs bm n : Nat} {B : BoxS} (h : BoxAt u w bb bs bm B) (g : w.grownBy a (some bs)) (hS : SrcAt a bs B.T n) : BoxAt u a bb bs bm { B with u := n } :=
  ⟨h.nb, h.ns, h.nm, h.blk.kept g (fun e => h.bs_ne (by cases e; rfl)), hS, h.map.kept g (fun e => h.map.blk h.src.blk (by cases e; rfl))⟩

theorem By3.src {w a : World} {bb bs bm : Nat} (g : w.grownBy a (some bs)) : By3 w a bb bs bm := (By3.refl w bb bs bm).by g (fun x e => by cases e; exact Or.inr (Or.inr (Or.inl rfl)))

set_option maxRecDepth 100000 in
set_option maxHeartbeats 1000000 in
theorem drawFor_any (u w : World) (bb bs bm : Nat) (B : BoxS) (n : Nat) (h : BoxAt u w bb bs bm B) (gu : u.grownBy w none) (hT : Tabs u) (hn : n ≤ 2000) (hus : B.u ≤ 35184372088832) :
    Calls Tryd.prog 43 #[.pointer (some ⟨bb, 0, none⟩), .int .i64 (n : Int)] w fun e w' => ∃ ao c, e = .returned (.slice ao (n + 28) c) ∧ BtT w' ao c (told B.T B.u (n + 28)) ∧ BoxAt u w' bb bs bm { B with u := B.u + (n + 28) } ∧ By3 w w' bb bs bm := by
  have hc1 := h.cell.2.1
  have ct1 := take_own w bs B.T B.u n h.src (hT.kept0 gu) (by omega) (by omega)
  have ct2 : ∀ V v, BoxAt u V bb bs bm { B with u := B.u + n } → By3 w V bb bs bm → V.ownsRow w.heap.size 5 1 v n ((told B.T B.u n).map bv) → Calls Tryd.prog 22 #[.pointer (some ⟨bs, 0, none⟩), .int .i64 28] V fun e w' => ∃ ao c, e = .returned (.slice ao 28 c) ∧ Bts w' ao c (told B.T (B.u + n) 28) ∧ w'.ownsRow w.heap.size 5 1 v n ((told B.T B.u n).map bv) ∧ BoxAt u w' bb bs bm { B with u := B.u + (n + 28) } ∧ By3 w w' bb bs bm := fun V v hV gV hv =>
    (take_law V bs B.T (B.u + n) 28 hV.src (hT.kept0 (by3_gb gu gV h.nb h.ns h.nm)) (by omega) (by omega)).mono fun e w' ⟨ao, c, he, hB, hS, gg⟩ =>
      ⟨ao, c, he, hB.bts, own_src hv hV.src gg, (hV.drawn gg hS).with _ rfl rfl (by simp only; omega) rfl, gV.trans (By3.src gg)⟩
  have hfin : ∀ V ao c v V', Bts V ao c (told B.T (B.u + n) 28) → BoxAt u V bb bs bm { B with u := B.u + (n + 28) } → By3 w V bb bs bm → V.ownsRow w.heap.size 5 1 v n ((told B.T B.u n).map bv) → ∀ v', V'.ownsRow w.heap.size 5 1 v' (n + 28) ((told B.T B.u n).map bv ++ (told B.T (B.u + n) 28).map bv) → V.grownBy V' v.ownBlock →
      ∃ ao c, v' = .slice ao (n + 28) c ∧ BtT V' ao c (told B.T B.u (n + 28)) ∧ BoxAt u V' bb bs bm { B with u := B.u + (n + 28) } ∧ By3 w V' bb bs bm := fun V ao c v V' _ hV gV hv v' hv' gg => by
    rw [← List.map_append, ← told_add] at hv'
    obtain ⟨ao', c', he, hB⟩ := own_btT hv'
    rw [told_length] at he
    exact ⟨ao', c', he, hB, hV.own hv gg, gV.by gg (fun x e => Or.inl (hv.lt x e).1)⟩
  have hb0 : w.heap.size ≤ w.heap.size := Nat.le_refl _
  have hst : ∀ V v, V.ownsRow w.heap.size 5 1 v n ((told B.T B.u n).map bv) → w.grownBy V (some bs) → SrcAt V bs B.T (B.u + n) → BoxAt u V bb bs bm { B with u := B.u + n } ∧ By3 w V bb bs bm ∧ V.cell? ⟨bb, 1, none⟩ = some (.pointer (some ⟨bs, 0, none⟩)) := fun V v _ gg hS => by
    have h1 := h.drawn gg hS
    exact ⟨h1, By3.src gg, h1.cell.2.1⟩
  have htl : (told B.T (B.u + n) 28).length = 28 := told_length _ _ _
  obtain ⟨XA, hXA⟩ : ∃ X, X = (told B.T B.u n).map bv := ⟨_, rfl⟩
  obtain ⟨Y, hY⟩ : ∃ X, X = told B.T (B.u + n) 28 := ⟨_, rfl⟩
  rw [← hXA] at ct1
  simp only [← hXA, ← hY] at ct2 hfin hst
  rw [← hY] at htl
  have HTL := hide htl
  have HFIN := hide hfin
  have HST := hide hst
  have HC2 := hide ct2
  clear h hT hXA hY htl hfin hst ct2 gu
  go_enter Tryd.func43, Tryd.ntmps43
  go_upto_region 2 with (go_at_call 22; refine ct1.mono ?_; rintro e w1 ⟨v1, rfl, hv1, hS1, g1⟩)
  obtain ⟨hB1, b1, hc11⟩ := unhide HST w1 v1 hv1 g1 hS1
  have ct2 := unhide HC2 w1 v1 hB1 b1 hv1
  clear ct1 HC2 HST hS1 g1 hB1 hv1
  have hsz := b1.size
  clear b1
  go_wp2_with (first
    | (go_at_call 22; refine ct2.mono ?_; rintro e w2 ⟨a2, c2, rfl, hY2, hv2, hB2, b2⟩; clear ct2)
    | (refine wpList_append_btm rfl _ _ rfl w.heap.size _ n _ rfl hv2 a2 c2 Y hY2 28 (unhide HTL).symm rfl (by omega) b2.size ?_; intro v3 w3 hv3 g3; have hf3 := unhide HFIN w2 a2 c2 v1 w3 hY2 hB2 b2 hv2 v3 hv3 g3; clear hv3 g3))
  go_ret
  obtain ⟨ao, c, he, hr⟩ := hf3
  exact ⟨ao, c, by rw [he]; rfl, hr⟩

end Go.Proofs.YtjckdgapefaokaaDoor

/- What box's own sealIdeal answers: it draws until what is drawn is new, eight times at most. Of texts of at most 2000 bytes. -/
namespace Go.Proofs.YtjckdgapefaokaaDoor
open Go.RowKit

/-- The sealed text, or none; and the error's number. -/
def txtO (o : Option (List UInt8)) : List UInt8 := o.getD []
def errO (o : Option (List UInt8)) : Int := if o.isSome then 0 else 15

/-- What a Seal leaves. -/
def Sealed (u w : World) (bb bs bm : Nat) (R : BoxS × Option (List UInt8)) (e : Ending) (w' : World) : Prop :=
  ∃ ao c, e = .returned (.tuple #[.slice ao (txtO R.2).length c, .int .i64 (errO R.2)]) ∧ BtT w' ao c (txtO R.2) ∧ BoxAt u w' bb bs bm R.1 ∧ By3 w w' bb bs bm

theorem tries_known {b : BoxS} {k be tx : List UInt8} {n : Nat} (h : b.known (told b.T b.u (tx.length + 28)) = true) : b.tries k be tx (n + 1) = BoxS.tries k be tx n { b with u := b.u + (tx.length + 28) } := by
  conv => lhs; unfold BoxS.tries
  rw [if_pos h]
theorem tries_new {b : BoxS} {k be tx : List UInt8} {n : Nat} (h : b.known (told b.T b.u (tx.length + 28)) = false) : b.tries k be tx (n + 1) = ({ b with u := b.u + (tx.length + 28), L := b.L ++ [⟨told b.T b.u (tx.length + 28), k, be, tx⟩] }, some (told b.T b.u (tx.length + 28))) := by
  unfold BoxS.tries
  rw [if_neg (by rw [h]; simp)]

set_option maxRecDepth 100000 in
set_option maxHeartbeats 2000000 in
theorem sealIdeal_any (u w : World) (bb bs bm : Nat) (B : BoxS) (k be tx : List UInt8) (h : BoxAt u w bb bs bm B) (gu : u.grownBy w none) (hT : Tabs u) (hk : k.length = 32) (hks : ∀ x ∈ B.L, x.k.length = 32) (ht : tx.length ≤ 2000) (hus : B.u ≤ 17592186044416) (hL : B.L.length ≤ 17592186044416) :
    Calls Tryd.prog 29 #[.pointer (some ⟨bb, 0, none⟩), contV ⟨[], k, be, tx⟩] w (Sealed u w bb bs bm (B.tries k be tx 8)) := by
  obtain ⟨R, hR⟩ : ∃ R, R = B.tries k be tx 8 := ⟨_, rfl⟩
  rw [← hR]
  obtain ⟨CL, hCL⟩ : ∃ CL, CL = contC ⟨[], k, be, tx⟩ := ⟨_, rfl⟩
  have hsC : CL.length = 34 := by rw [hCL]; exact contC_length _ (by simp [hk])
  obtain ⟨n, hn⟩ : ∃ n, n = tx.length := ⟨_, rfl⟩
  obtain ⟨st, hst⟩ : ∃ st, st = str tx := ⟨_, rfl⟩
  have hsz : st.size = n := by rw [hst, str_size, hn]
  have h33 : CL[33]? = some (.string st) := by
    rw [hCL, hst]
    simp [contC, padK_full hk, hk]
  obtain ⟨W1, hW1⟩ : ∃ W1, W1 = w.alloc (.cells CL.toArray 83) := ⟨_, rfl⟩
  have g1 : w.grownBy W1 none := by rw [hW1]; exact gb_alloc (gb_refl _ _) _
  have h1 := h.none g1
  have hC1 : Blk W1 w.heap.size 83 CL := by rw [hW1]; exact Blk.new w _ _
  have hne : w.heap.size ≠ bb ∧ w.heap.size ≠ bs ∧ w.heap.size ≠ bm := by
    have := h.blk.lt; have := h.src.blk.lt; have := h.map.lt
    exact ⟨by omega, by omega, by omega⟩
  have hCk : ∀ V, By3 W1 V bb bs bm → Blk V w.heap.size 83 CL := fun V gV => hC1.by3 gV hne.1 hne.2.1 hne.2.2
  have hiC : (Tryd.prog.info? 83).map (·.size) = some CL.toArray.size := by rw [List.size_toArray, hsC]; exact info_cont
  have gu1 := tn gu g1
  have b1 : By3 w W1 bb bs bm := (By3.refl w bb bs bm).none g1
  rw [show contV ⟨[], k, be, tx⟩ = .agg CL.toArray by rw [hCL]; rfl]
  have cDF : ∀ V (C : BoxS), BoxAt u V bb bs bm C → By3 W1 V bb bs bm → C.u ≤ 35184372088832 → Calls Tryd.prog 43 #[.pointer (some ⟨bb, 0, none⟩), .int .i64 (n : Int)] V fun e w' => ∃ ao c, e = .returned (.slice ao (n + 28) c) ∧ BtT w' ao c (told C.T C.u (n + 28)) ∧ BoxAt u w' bb bs bm { C with u := C.u + (n + 28) } ∧ By3 W1 w' bb bs bm := fun V C hV gV hC =>
    (drawFor_any u V bb bs bm C n hV (by3_gb gu1 gV h.nb h.ns h.nm) hT (by omega) hC).mono fun e w' ⟨ao, c, he, hB, hX, g⟩ => ⟨ao, c, he, hB, hX, gV.trans g⟩
  have cKn : ∀ V (C : BoxS) ao c s m r, BoxAt u V bb bs bm C → BtT V ao c s → s.length = m → By3 W1 V bb bs bm → C.L = B.L → C.known s = r → Calls Tryd.prog 16 #[.pointer (some ⟨bb, 0, none⟩), .slice ao m c] V fun e w' => e = .returned (.bool r) ∧ BoxAt u w' bb bs bm C ∧ BtT w' ao c s ∧ By3 W1 w' bb bs bm := fun V C ao c s m r hV hs hm gV hCL hr => by
    have := known_any u V bb bs bm C s ao c hV hs.bts (fun x hx => by rw [hCL] at hx; rw [hks x hx]; exact Nat.le_refl _)
    rw [hm, hr] at this
    exact this.mono fun e w' ⟨he, g⟩ => ⟨he, hV.none g, hs.none g, gV.none g⟩
  have cKp : ∀ V (C : BoxS) ao c s m, BoxAt u V bb bs bm C → BtT V ao c s → s.length = m → By3 W1 V bb bs bm → C.L = B.L → C.known s = false → Calls Tryd.prog 42 #[.pointer (some ⟨bb, 0, none⟩), .slice ao m c, .agg CL.toArray] V fun e w' => e = .returned (.tuple #[]) ∧ BoxAt u w' bb bs bm { C with L := C.L ++ [⟨s, k, be, tx⟩] } ∧ BtT w' ao c s ∧ By3 W1 w' bb bs bm := fun V C ao c s m hV hs hm gV hCL2 hr => by
    have := keep_any u V bb bs bm C ⟨s, k, be, tx⟩ ao c hV hs (fun y hy => by
      have h4 := hr
      rw [known_first, hy] at h4
      cases h4) (by simp [hk]) (by rw [hCL2]; omega)
    rw [show contV ⟨s, k, be, tx⟩ = .agg CL.toArray by rw [hCL]; rfl] at this
    simp only [hm] at this
    exact this.mono fun e w' ⟨he, h5, g⟩ => ⟨he, h5, hs.box hV g, gV.trans g⟩
  have HCK := hide hCk
  have HW1 := hide hW1
  have HR := hide hR
  have HDF := hide cDF
  have HKN := hide cKn
  have HKP := hide cKp
  have H33 := hide h33
  have HIC := hide hiC
  have B1 := hide b1
  have HN := hide hn
  have HNT := hide ht
  have HUS := hide hus
  have HB1 := hide h1
  clear hsC hst h33 hW1 g1 h1 hC1 hne hCk hiC gu1 b1 cDF cKn cKp h gu hT hks ht hus hL hR hk hCL hn
  go_enter Tryd.func29, Tryd.ntmps29
  go_wp2
  rw [← unhide HW1]
  go_loopw [7] (fun i wr => ∃ (j : Nat) (C : BoxS), j ≤ 8 ∧ i = .int .i64 j ∧ C.L = B.L ∧ C.u ≤ 17592186044416 + j * 3000 ∧ R = C.tries k be tx (8 - j) ∧ BoxAt u wr bb bs bm C ∧ By3 W1 wr bb bs bm) (fun i _ => 8 - (intOf i).toNat)
  case atStart => exact ⟨0, B, by omega, rfl, rfl, by have := unhide HUS; omega, unhide HR, unhide HB1, By3.refl _ _ _ _⟩
  case round =>
    obtain ⟨j, C, hj, rfl, hCL, hCu, hRC, hB, g⟩ := hrel
    by_cases hlt : j < 8
    · obtain ⟨q, hq⟩ : ∃ q, 8 - j = q + 1 := ⟨7 - j, by omega⟩
      have hn2 := unhide HNT
      rw [hq] at hRC
      have cdf := unhide HDF wr C hB g (by omega)
      have hCb := unhide HCK wr g
      have hc33 : wr.cell? ⟨w.heap.size, 33, none⟩ = some (.string st) := by rw [hCb.cell]; exact unhide H33
      obtain ⟨s, hs⟩ : ∃ s, s = told C.T C.u (n + 28) := ⟨_, rfl⟩
      have hsl : s.length = n + 28 := by rw [hs]; exact told_length _ _ _
      rw [← hs] at cdf
      have hlen : (st.size : Int) = (n : Int) := by rw [hsz]
      have hj8 : (j : Int) < 8 := by omega
      have hjw : IntKind.i64.wrap ((j : Int) + 1) = (j : Int) + 1 := by rw [IntKind.wrap_i64]; omega
      by_cases hkn : C.known s = true
      · have ckn : ∀ V ao c, BoxAt u V bb bs bm { C with u := C.u + (n + 28) } → BtT V ao c s → By3 W1 V bb bs bm → Calls Tryd.prog 16 #[.pointer (some ⟨bb, 0, none⟩), .slice ao (n + 28) c] V fun e w' => e = .returned (.bool true) ∧ BoxAt u w' bb bs bm { C with u := C.u + (n + 28) } ∧ BtT w' ao c s ∧ By3 W1 w' bb bs bm := fun V ao c hV hss gV =>
          unhide HKN V _ ao c s (n + 28) true hV hss hsl gV hCL hkn
        have hR2 : R = BoxS.tries k be tx q { C with u := C.u + (n + 28) } := by
          rw [hRC, tries_known (by rw [← unhide HN, ← hs]; exact hkn), ← unhide HN]
        have HR2 := hide hR2
        have HJ := hide hq
        have HCL := hide hCL
        have HCU := hide hCu
        clear hRC hB g hCb hs hsl hkn hR2 hq hCL hCu hsz hj
        go_wp2_with (first
          | (go_at_call 43; refine cdf.mono ?_; rintro e w2 ⟨a2, c2, rfl, hs2, hB2, b2⟩; clear cdf)
          | (go_at_call 16; refine (ckn w2 a2 c2 hB2 hs2 b2).mono ?_; rintro e w3 ⟨rfl, hB3, hs3, b3⟩; clear ckn))
        go_roundw
        case rel =>
          have := unhide HJ
          refine ⟨j + 1, { C with u := C.u + (n + 28) }, by omega, by go_num, unhide HCL, ?_, ?_, hB3, b3⟩
          · have := unhide HCU
            have := unhide HN
            have := unhide HNT
            simp only
            rw [Nat.add_mul]; omega
          · rw [unhide HR2, show 8 - (j + 1) = q by omega]
        case measure => simp [intOf]; omega
      · have hkf : C.known s = false := by simpa using hkn
        have ckn : ∀ V ao c, BoxAt u V bb bs bm { C with u := C.u + (n + 28) } → BtT V ao c s → By3 W1 V bb bs bm → Calls Tryd.prog 16 #[.pointer (some ⟨bb, 0, none⟩), .slice ao (n + 28) c] V fun e w' => e = .returned (.bool false) ∧ BoxAt u w' bb bs bm { C with u := C.u + (n + 28) } ∧ BtT w' ao c s ∧ By3 W1 w' bb bs bm := fun V ao c hV hss gV =>
          unhide HKN V _ ao c s (n + 28) false hV hss hsl gV hCL hkf
        have ckp : ∀ V ao c, BoxAt u V bb bs bm { C with u := C.u + (n + 28) } → BtT V ao c s → By3 W1 V bb bs bm → Calls Tryd.prog 42 #[.pointer (some ⟨bb, 0, none⟩), .slice ao (n + 28) c, .agg CL.toArray] V fun e w' => e = .returned (.tuple #[]) ∧ BoxAt u w' bb bs bm { C with u := C.u + (n + 28), L := C.L ++ [⟨s, k, be, tx⟩] } ∧ BtT w' ao c s ∧ By3 W1 w' bb bs bm := fun V ao c hV hss gV =>
          unhide HKP V _ ao c s (n + 28) hV hss hsl gV hCL hkf
        have hR2 : R = ({ C with u := C.u + (n + 28), L := C.L ++ [⟨s, k, be, tx⟩] }, some s) := by
          rw [hRC, tries_new (by rw [← unhide HN, ← hs]; exact hkf), ← unhide HN, ← hs]
        have HR2 := hide hR2
        have HSL := hide hsl
        clear hRC hB g hCb hs hsl hkn hkf hR2 hq hCL hCu hsz hj
        go_wp2_with (first
          | (go_at_call 43; refine cdf.mono ?_; rintro e w2 ⟨a2, c2, rfl, hs2, hB2, b2⟩; clear cdf)
          | (go_at_call 16; refine (ckn w2 a2 c2 hB2 hs2 b2).mono ?_; rintro e w3 ⟨rfl, hB3, hs3, b3⟩; clear ckn; have hC3 := unhide HCK w3 b3)
          | (refine wpList_load_row rfl 83 _ rfl w.heap.size rfl _ _ _ _ hC3 Tryd.underlying83 rfl (unhide HIC) ?_)
          | (go_at_call 42; refine (ckp w3 a2 c2 hB3 hs3 b3).mono ?_; rintro e w4 ⟨rfl, hB4, hs4, b4⟩; clear ckp))
        go_ret2
        refine ⟨a2, c2, ?_, ?_, ?_, (unhide B1).trans b4⟩
        · rw [unhide HR2]
          show _ = Ending.returned (.tuple #[.slice a2 s.length c2, .int .i64 0])
          rw [unhide HSL]; rfl
        · rw [unhide HR2]; exact hs4
        · rw [unhide HR2]; exact hB4
    · obtain rfl : j = 8 := by omega
      have hR2 : R = (C, none) := hRC
      have HR2 := hide hR2
      clear hRC hR2 hCL hCu hsz
      go_wp2
      go_ret2
      refine ⟨none, 0, ?_, ?_, ?_, (unhide B1).trans g⟩
      · rw [unhide HR2]; rfl
      · rw [unhide HR2]; exact ⟨Bts.nil _, fun _ e => by cases e⟩
      · rw [unhide HR2]; exact hB

end Go.Proofs.YtjckdgapefaokaaDoor

/- The sums that come behind the text 'coffret', number 44 to 65, reckoned. No condition. -/
namespace Go.Proofs.YtjckdgapefaokaaDoor

def cof44 : List Nat := [242, 251, 4, 18, 144, 188, 189, 131, 103, 6, 148, 234, 40, 218, 12, 34, 122, 250, 40, 148, 249, 119, 27, 197, 243, 213, 115, 250, 73, 4, 142, 22]
set_option maxRecDepth 100000 in
theorem cof44_eq : shaL (cofS ++ lb 44 8) = cof44.map UInt8.ofNat := by kernel_rfl
def cof45 : List Nat := [115, 118, 38, 128, 9, 50, 115, 184, 129, 156, 192, 123, 90, 201, 13, 86, 36, 52, 118, 13, 111, 201, 223, 46, 131, 203, 133, 23, 154, 182, 224, 20]
set_option maxRecDepth 100000 in
theorem cof45_eq : shaL (cofS ++ lb 45 8) = cof45.map UInt8.ofNat := by kernel_rfl
def cof46 : List Nat := [27, 194, 167, 172, 114, 142, 235, 223, 247, 32, 9, 239, 189, 158, 39, 230, 133, 91, 33, 70, 176, 180, 213, 210, 58, 98, 116, 155, 147, 35, 32, 26]
set_option maxRecDepth 100000 in
theorem cof46_eq : shaL (cofS ++ lb 46 8) = cof46.map UInt8.ofNat := by kernel_rfl
def cof47 : List Nat := [23, 134, 162, 36, 146, 131, 206, 185, 8, 107, 157, 99, 30, 207, 3, 84, 203, 100, 16, 6, 248, 0, 134, 30, 102, 180, 131, 123, 57, 22, 27, 6]
set_option maxRecDepth 100000 in
theorem cof47_eq : shaL (cofS ++ lb 47 8) = cof47.map UInt8.ofNat := by kernel_rfl
def cof48 : List Nat := [2, 167, 25, 89, 203, 149, 12, 107, 227, 230, 128, 0, 227, 204, 138, 112, 130, 154, 58, 170, 204, 51, 66, 133, 196, 149, 169, 209, 39, 24, 47, 0]
set_option maxRecDepth 100000 in
theorem cof48_eq : shaL (cofS ++ lb 48 8) = cof48.map UInt8.ofNat := by kernel_rfl
def cof49 : List Nat := [64, 217, 131, 40, 112, 236, 177, 11, 187, 153, 18, 193, 26, 229, 207, 155, 68, 28, 132, 183, 53, 95, 168, 123, 36, 102, 109, 115, 77, 173, 218, 46]
set_option maxRecDepth 100000 in
theorem cof49_eq : shaL (cofS ++ lb 49 8) = cof49.map UInt8.ofNat := by kernel_rfl
def cof50 : List Nat := [140, 246, 184, 56, 42, 53, 103, 195, 98, 66, 1, 80, 217, 46, 40, 177, 209, 230, 194, 237, 115, 81, 48, 114, 76, 138, 129, 70, 58, 194, 153, 126]
set_option maxRecDepth 100000 in
theorem cof50_eq : shaL (cofS ++ lb 50 8) = cof50.map UInt8.ofNat := by kernel_rfl
def cof51 : List Nat := [196, 185, 111, 186, 120, 82, 13, 67, 7, 193, 95, 58, 18, 77, 46, 203, 132, 7, 87, 229, 95, 158, 148, 11, 80, 165, 175, 44, 138, 50, 107, 191]
set_option maxRecDepth 100000 in
theorem cof51_eq : shaL (cofS ++ lb 51 8) = cof51.map UInt8.ofNat := by kernel_rfl
def cof52 : List Nat := [162, 238, 61, 109, 162, 158, 96, 58, 249, 48, 83, 79, 210, 95, 206, 38, 45, 88, 72, 24, 110, 16, 25, 246, 160, 194, 123, 178, 250, 104, 85, 249]
set_option maxRecDepth 100000 in
theorem cof52_eq : shaL (cofS ++ lb 52 8) = cof52.map UInt8.ofNat := by kernel_rfl
def cof53 : List Nat := [195, 239, 26, 237, 234, 79, 246, 149, 212, 78, 167, 247, 143, 186, 246, 153, 139, 239, 4, 182, 221, 55, 68, 141, 55, 90, 134, 65, 166, 148, 91, 206]
set_option maxRecDepth 100000 in
theorem cof53_eq : shaL (cofS ++ lb 53 8) = cof53.map UInt8.ofNat := by kernel_rfl
def cof54 : List Nat := [237, 72, 58, 73, 213, 91, 87, 95, 76, 87, 24, 68, 136, 106, 177, 234, 124, 100, 144, 200, 16, 12, 151, 165, 58, 153, 155, 41, 100, 245, 108, 208]
set_option maxRecDepth 100000 in
theorem cof54_eq : shaL (cofS ++ lb 54 8) = cof54.map UInt8.ofNat := by kernel_rfl
def cof55 : List Nat := [44, 186, 159, 192, 83, 66, 109, 62, 76, 219, 233, 123, 18, 6, 239, 138, 185, 16, 217, 37, 199, 111, 62, 161, 30, 197, 252, 129, 212, 18, 184, 120]
set_option maxRecDepth 100000 in
theorem cof55_eq : shaL (cofS ++ lb 55 8) = cof55.map UInt8.ofNat := by kernel_rfl
def cof56 : List Nat := [238, 253, 232, 26, 9, 88, 82, 7, 173, 240, 157, 109, 164, 41, 165, 222, 233, 167, 127, 3, 230, 13, 144, 22, 104, 220, 122, 58, 222, 106, 105, 130]
set_option maxRecDepth 100000 in
theorem cof56_eq : shaL (cofS ++ lb 56 8) = cof56.map UInt8.ofNat := by kernel_rfl
def cof57 : List Nat := [19, 26, 143, 255, 190, 67, 12, 14, 143, 207, 133, 8, 87, 103, 189, 138, 82, 233, 69, 91, 77, 247, 150, 212, 86, 120, 36, 34, 235, 203, 139, 73]
set_option maxRecDepth 100000 in
theorem cof57_eq : shaL (cofS ++ lb 57 8) = cof57.map UInt8.ofNat := by kernel_rfl
def cof58 : List Nat := [190, 38, 229, 77, 178, 120, 153, 183, 238, 134, 191, 175, 145, 181, 164, 126, 118, 254, 111, 69, 237, 242, 121, 26, 89, 205, 145, 131, 195, 213, 89, 124]
set_option maxRecDepth 100000 in
theorem cof58_eq : shaL (cofS ++ lb 58 8) = cof58.map UInt8.ofNat := by kernel_rfl
def cof59 : List Nat := [86, 149, 10, 197, 108, 55, 119, 103, 229, 93, 170, 85, 81, 236, 237, 129, 209, 57, 220, 115, 210, 13, 209, 214, 46, 191, 184, 94, 83, 179, 200, 112]
set_option maxRecDepth 100000 in
theorem cof59_eq : shaL (cofS ++ lb 59 8) = cof59.map UInt8.ofNat := by kernel_rfl
def cof60 : List Nat := [172, 11, 139, 221, 242, 142, 197, 144, 95, 68, 4, 180, 213, 105, 149, 222, 98, 56, 13, 108, 200, 169, 82, 105, 125, 105, 96, 62, 21, 188, 220, 207]
set_option maxRecDepth 100000 in
theorem cof60_eq : shaL (cofS ++ lb 60 8) = cof60.map UInt8.ofNat := by kernel_rfl
def cof61 : List Nat := [34, 14, 176, 150, 28, 136, 63, 245, 246, 131, 9, 220, 241, 229, 239, 43, 122, 18, 142, 250, 122, 2, 36, 2, 247, 37, 97, 108, 83, 233, 190, 253]
set_option maxRecDepth 100000 in
theorem cof61_eq : shaL (cofS ++ lb 61 8) = cof61.map UInt8.ofNat := by kernel_rfl
def cof62 : List Nat := [186, 135, 188, 197, 115, 123, 159, 180, 85, 169, 246, 232, 250, 78, 139, 32, 115, 122, 210, 25, 57, 46, 164, 130, 225, 241, 193, 15, 101, 125, 77, 248]
set_option maxRecDepth 100000 in
theorem cof62_eq : shaL (cofS ++ lb 62 8) = cof62.map UInt8.ofNat := by kernel_rfl
def cof63 : List Nat := [195, 8, 41, 214, 221, 210, 112, 53, 227, 109, 88, 210, 141, 84, 3, 125, 123, 47, 234, 221, 130, 139, 121, 81, 98, 177, 37, 130, 196, 4, 212, 99]
set_option maxRecDepth 100000 in
theorem cof63_eq : shaL (cofS ++ lb 63 8) = cof63.map UInt8.ofNat := by kernel_rfl
def cof64 : List Nat := [132, 85, 161, 103, 40, 64, 144, 23, 57, 61, 80, 159, 11, 21, 195, 81, 48, 223, 106, 42, 126, 69, 127, 88, 194, 51, 146, 43, 151, 164, 49, 31]
set_option maxRecDepth 100000 in
theorem cof64_eq : shaL (cofS ++ lb 64 8) = cof64.map UInt8.ofNat := by kernel_rfl
def cof65 : List Nat := [207, 172, 143, 168, 44, 173, 116, 103, 188, 3, 182, 235, 227, 191, 162, 225, 254, 74, 144, 100, 72, 20, 136, 193, 250, 206, 10, 161, 107, 48, 150, 166]
set_option maxRecDepth 100000 in
theorem cof65_eq : shaL (cofS ++ lb 65 8) = cof65.map UInt8.ofNat := by kernel_rfl

end Go.Proofs.YtjckdgapefaokaaDoor
