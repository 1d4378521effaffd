/- What box's own sealIdeal answers: it draws until what is drawn is new, eight times at most. Of texts of at most 2000 bytes. -/
import Derived.Test.YtjckdgapefaokaaDoorBDraw
import Derived.Test.YtjckdgapefaokaaDoorMStr
import Derived.Test.YtjckdgapefaokaaDoorBMap
import Derived.Laws.IdiomStrings
namespace Go.Proofs.YtjckdgapefaokaaDoor
open Go.RowKit

/-- The sealed text, or none; and the error's number. -/
def txtO (o : Option (List UInt8)) : List UInt8 := o.getD []
def errO (o : Option (List UInt8)) : Int := if o.isSome then 0 else 15

/-- What a Seal leaves. -/
def Sealed (u w : World) (bb bs bm : Nat) (R : BoxS × Option (List UInt8)) (e : Ending) (w' : World) : Prop :=
  ∃ ao c, e = .returned (.tuple #[.slice ao (txtO R.2).length c, .int .i64 (errO R.2)]) ∧ BtT w' ao c (txtO R.2) ∧ BoxAt u w' bb bs bm R.1 ∧ By3 w w' bb bs bm

theorem tries_known {b : BoxS} {k be tx : List UInt8} {n : Nat} (h : b.known (told b.T b.u (tx.length + 28)) = true) : b.tries k be tx (n + 1) = BoxS.tries k be tx n { b with u := b.u + (tx.length + 28) } := by
  conv => lhs; unfold BoxS.tries
  rw [if_pos h]
theorem tries_new {b : BoxS} {k be tx : List UInt8} {n : Nat} (h : b.known (told b.T b.u (tx.length + 28)) = false) : b.tries k be tx (n + 1) = ({ b with u := b.u + (tx.length + 28), L := b.L ++ [⟨told b.T b.u (tx.length + 28), k, be, tx⟩] }, some (told b.T b.u (tx.length + 28))) := by
  unfold BoxS.tries
  rw [if_neg (by rw [h]; simp)]

set_option maxRecDepth 100000 in
set_option maxHeartbeats 2000000 in
theorem sealIdeal_any (u w : World) (bb bs bm : Nat) (B : BoxS) (k be tx : List UInt8) (h : BoxAt u w bb bs bm B) (gu : u.grownBy w none) (hT : Tabs u) (hk : k.length = 32) (hks : ∀ x ∈ B.L, x.k.length = 32) (ht : tx.length ≤ 2000) (hus : B.u ≤ 17592186044416) (hL : B.L.length ≤ 17592186044416) :
    Calls Tryd.prog 29 #[.pointer (some ⟨bb, 0, none⟩), contV ⟨[], k, be, tx⟩] w (Sealed u w bb bs bm (B.tries k be tx 8)) := by
  obtain ⟨R, hR⟩ : ∃ R, R = B.tries k be tx 8 := ⟨_, rfl⟩
  rw [← hR]
  obtain ⟨CL, hCL⟩ : ∃ CL, CL = contC ⟨[], k, be, tx⟩ := ⟨_, rfl⟩
  have hsC : CL.length = 34 := by rw [hCL]; exact contC_length _ (by simp [hk])
  obtain ⟨n, hn⟩ : ∃ n, n = tx.length := ⟨_, rfl⟩
  obtain ⟨st, hst⟩ : ∃ st, st = str tx := ⟨_, rfl⟩
  have hsz : st.size = n := by rw [hst, str_size, hn]
  have h33 : CL[33]? = some (.string st) := by
    rw [hCL, hst]
    simp [contC, padK_full hk, hk]
  obtain ⟨W1, hW1⟩ : ∃ W1, W1 = w.alloc (.cells CL.toArray 83) := ⟨_, rfl⟩
  have g1 : w.grownBy W1 none := by rw [hW1]; exact gb_alloc (gb_refl _ _) _
  have h1 := h.none g1
  have hC1 : Blk W1 w.heap.size 83 CL := by rw [hW1]; exact Blk.new w _ _
  have hne : w.heap.size ≠ bb ∧ w.heap.size ≠ bs ∧ w.heap.size ≠ bm := by
    have := h.blk.lt; have := h.src.blk.lt; have := h.map.lt
    exact ⟨by omega, by omega, by omega⟩
  have hCk : ∀ V, By3 W1 V bb bs bm → Blk V w.heap.size 83 CL := fun V gV => hC1.by3 gV hne.1 hne.2.1 hne.2.2
  have hiC : (Tryd.prog.info? 83).map (·.size) = some CL.toArray.size := by rw [List.size_toArray, hsC]; exact info_cont
  have gu1 := tn gu g1
  have b1 : By3 w W1 bb bs bm := (By3.refl w bb bs bm).none g1
  rw [show contV ⟨[], k, be, tx⟩ = .agg CL.toArray by rw [hCL]; rfl]
  have cDF : ∀ V (C : BoxS), BoxAt u V bb bs bm C → By3 W1 V bb bs bm → C.u ≤ 35184372088832 → Calls Tryd.prog 43 #[.pointer (some ⟨bb, 0, none⟩), .int .i64 (n : Int)] V fun e w' => ∃ ao c, e = .returned (.slice ao (n + 28) c) ∧ BtT w' ao c (told C.T C.u (n + 28)) ∧ BoxAt u w' bb bs bm { C with u := C.u + (n + 28) } ∧ By3 W1 w' bb bs bm := fun V C hV gV hC =>
    (drawFor_any u V bb bs bm C n hV (by3_gb gu1 gV h.nb h.ns h.nm) hT (by omega) hC).mono fun e w' ⟨ao, c, he, hB, hX, g⟩ => ⟨ao, c, he, hB, hX, gV.trans g⟩
  have cKn : ∀ V (C : BoxS) ao c s m r, BoxAt u V bb bs bm C → BtT V ao c s → s.length = m → By3 W1 V bb bs bm → C.L = B.L → C.known s = r → Calls Tryd.prog 16 #[.pointer (some ⟨bb, 0, none⟩), .slice ao m c] V fun e w' => e = .returned (.bool r) ∧ BoxAt u w' bb bs bm C ∧ BtT w' ao c s ∧ By3 W1 w' bb bs bm := fun V C ao c s m r hV hs hm gV hCL hr => by
    have := known_any u V bb bs bm C s ao c hV hs.bts (fun x hx => by rw [hCL] at hx; rw [hks x hx]; exact Nat.le_refl _)
    rw [hm, hr] at this
    exact this.mono fun e w' ⟨he, g⟩ => ⟨he, hV.none g, hs.none g, gV.none g⟩
  have cKp : ∀ V (C : BoxS) ao c s m, BoxAt u V bb bs bm C → BtT V ao c s → s.length = m → By3 W1 V bb bs bm → C.L = B.L → C.known s = false → Calls Tryd.prog 42 #[.pointer (some ⟨bb, 0, none⟩), .slice ao m c, .agg CL.toArray] V fun e w' => e = .returned (.tuple #[]) ∧ BoxAt u w' bb bs bm { C with L := C.L ++ [⟨s, k, be, tx⟩] } ∧ BtT w' ao c s ∧ By3 W1 w' bb bs bm := fun V C ao c s m hV hs hm gV hCL2 hr => by
    have := keep_any u V bb bs bm C ⟨s, k, be, tx⟩ ao c hV hs (fun y hy => by
      have h4 := hr
      rw [known_first, hy] at h4
      cases h4) (by simp [hk]) (by rw [hCL2]; omega)
    rw [show contV ⟨s, k, be, tx⟩ = .agg CL.toArray by rw [hCL]; rfl] at this
    simp only [hm] at this
    exact this.mono fun e w' ⟨he, h5, g⟩ => ⟨he, h5, hs.box hV g, gV.trans g⟩
  have HCK := hide hCk
  have HW1 := hide hW1
  have HR := hide hR
  have HDF := hide cDF
  have HKN := hide cKn
  have HKP := hide cKp
  have H33 := hide h33
  have HIC := hide hiC
  have B1 := hide b1
  have HN := hide hn
  have HNT := hide ht
  have HUS := hide hus
  have HB1 := hide h1
  clear hsC hst h33 hW1 g1 h1 hC1 hne hCk hiC gu1 b1 cDF cKn cKp h gu hT hks ht hus hL hR hk hCL hn
  go_enter Tryd.func29, Tryd.ntmps29
  go_wp2
  rw [← unhide HW1]
  go_loopw [7] (fun i wr => ∃ (j : Nat) (C : BoxS), j ≤ 8 ∧ i = .int .i64 j ∧ C.L = B.L ∧ C.u ≤ 17592186044416 + j * 3000 ∧ R = C.tries k be tx (8 - j) ∧ BoxAt u wr bb bs bm C ∧ By3 W1 wr bb bs bm) (fun i _ => 8 - (intOf i).toNat)
  case atStart => exact ⟨0, B, by omega, rfl, rfl, by have := unhide HUS; omega, unhide HR, unhide HB1, By3.refl _ _ _ _⟩
  case round =>
    obtain ⟨j, C, hj, rfl, hCL, hCu, hRC, hB, g⟩ := hrel
    by_cases hlt : j < 8
    · obtain ⟨q, hq⟩ : ∃ q, 8 - j = q + 1 := ⟨7 - j, by omega⟩
      have hn2 := unhide HNT
      rw [hq] at hRC
      have cdf := unhide HDF wr C hB g (by omega)
      have hCb := unhide HCK wr g
      have hc33 : wr.cell? ⟨w.heap.size, 33, none⟩ = some (.string st) := by rw [hCb.cell]; exact unhide H33
      obtain ⟨s, hs⟩ : ∃ s, s = told C.T C.u (n + 28) := ⟨_, rfl⟩
      have hsl : s.length = n + 28 := by rw [hs]; exact told_length _ _ _
      rw [← hs] at cdf
      have hlen : (st.size : Int) = (n : Int) := by rw [hsz]
      have hj8 : (j : Int) < 8 := by omega
      have hjw : IntKind.i64.wrap ((j : Int) + 1) = (j : Int) + 1 := by rw [IntKind.wrap_i64]; omega
      by_cases hkn : C.known s = true
      · have ckn : ∀ V ao c, BoxAt u V bb bs bm { C with u := C.u + (n + 28) } → BtT V ao c s → By3 W1 V bb bs bm → Calls Tryd.prog 16 #[.pointer (some ⟨bb, 0, none⟩), .slice ao (n + 28) c] V fun e w' => e = .returned (.bool true) ∧ BoxAt u w' bb bs bm { C with u := C.u + (n + 28) } ∧ BtT w' ao c s ∧ By3 W1 w' bb bs bm := fun V ao c hV hss gV =>
          unhide HKN V _ ao c s (n + 28) true hV hss hsl gV hCL hkn
        have hR2 : R = BoxS.tries k be tx q { C with u := C.u + (n + 28) } := by
          rw [hRC, tries_known (by rw [← unhide HN, ← hs]; exact hkn), ← unhide HN]
        have HR2 := hide hR2
        have HJ := hide hq
        have HCL := hide hCL
        have HCU := hide hCu
        clear hRC hB g hCb hs hsl hkn hR2 hq hCL hCu hsz hj
        go_wp2_with (first
          | (go_at_call 43; refine cdf.mono ?_; rintro e w2 ⟨a2, c2, rfl, hs2, hB2, b2⟩; clear cdf)
          | (go_at_call 16; refine (ckn w2 a2 c2 hB2 hs2 b2).mono ?_; rintro e w3 ⟨rfl, hB3, hs3, b3⟩; clear ckn))
        go_roundw
        case rel =>
          have := unhide HJ
          refine ⟨j + 1, { C with u := C.u + (n + 28) }, by omega, by go_num, unhide HCL, ?_, ?_, hB3, b3⟩
          · have := unhide HCU
            have := unhide HN
            have := unhide HNT
            simp only
            rw [Nat.add_mul]; omega
          · rw [unhide HR2, show 8 - (j + 1) = q by omega]
        case measure => simp [intOf]; omega
      · have hkf : C.known s = false := by simpa using hkn
        have ckn : ∀ V ao c, BoxAt u V bb bs bm { C with u := C.u + (n + 28) } → BtT V ao c s → By3 W1 V bb bs bm → Calls Tryd.prog 16 #[.pointer (some ⟨bb, 0, none⟩), .slice ao (n + 28) c] V fun e w' => e = .returned (.bool false) ∧ BoxAt u w' bb bs bm { C with u := C.u + (n + 28) } ∧ BtT w' ao c s ∧ By3 W1 w' bb bs bm := fun V ao c hV hss gV =>
          unhide HKN V _ ao c s (n + 28) false hV hss hsl gV hCL hkf
        have ckp : ∀ V ao c, BoxAt u V bb bs bm { C with u := C.u + (n + 28) } → BtT V ao c s → By3 W1 V bb bs bm → Calls Tryd.prog 42 #[.pointer (some ⟨bb, 0, none⟩), .slice ao (n + 28) c, .agg CL.toArray] V fun e w' => e = .returned (.tuple #[]) ∧ BoxAt u w' bb bs bm { C with u := C.u + (n + 28), L := C.L ++ [⟨s, k, be, tx⟩] } ∧ BtT w' ao c s ∧ By3 W1 w' bb bs bm := fun V ao c hV hss gV =>
          unhide HKP V _ ao c s (n + 28) hV hss hsl gV hCL hkf
        have hR2 : R = ({ C with u := C.u + (n + 28), L := C.L ++ [⟨s, k, be, tx⟩] }, some s) := by
          rw [hRC, tries_new (by rw [← unhide HN, ← hs]; exact hkf), ← unhide HN, ← hs]
        have HR2 := hide hR2
        have HSL := hide hsl
        clear hRC hB g hCb hs hsl hkn hkf hR2 hq hCL hCu hsz hj
        go_wp2_with (first
          | (go_at_call 43; refine cdf.mono ?_; rintro e w2 ⟨a2, c2, rfl, hs2, hB2, b2⟩; clear cdf)
          | (go_at_call 16; refine (ckn w2 a2 c2 hB2 hs2 b2).mono ?_; rintro e w3 ⟨rfl, hB3, hs3, b3⟩; clear ckn; have hC3 := unhide HCK w3 b3)
          | (refine wpList_load_row rfl 83 _ rfl w.heap.size rfl _ _ _ _ hC3 Tryd.underlying83 rfl (unhide HIC) ?_)
          | (go_at_call 42; refine (ckp w3 a2 c2 hB3 hs3 b3).mono ?_; rintro e w4 ⟨rfl, hB4, hs4, b4⟩; clear ckp))
        go_ret2
        refine ⟨a2, c2, ?_, ?_, ?_, (unhide B1).trans b4⟩
        · rw [unhide HR2]
          show _ = Ending.returned (.tuple #[.slice a2 s.length c2, .int .i64 0])
          rw [unhide HSL]; rfl
        · rw [unhide HR2]; exact hs4
        · rw [unhide HR2]; exact hB4
    · obtain rfl : j = 8 := by omega
      have hR2 : R = (C, none) := hRC
      have HR2 := hide hR2
      clear hRC hR2 hCL hCu hsz
      go_wp2
      go_ret2
      refine ⟨none, 0, ?_, ?_, ?_, (unhide B1).trans g⟩
      · rw [unhide HR2]; rfl
      · rw [unhide HR2]; exact ⟨Bts.nil _, fun _ e => by cases e⟩
      · rw [unhide HR2]; exact hB

end Go.Proofs.YtjckdgapefaokaaDoor

/- '[]byte(s)': a string's bytes, in memory of their own. No condition but those that each lemma names. -/
namespace Go.Proofs.YtjckdgapefaokaaDoor
open Go.RowKit

/-- '[]byte(s)'. -/
theorem str_bytes (w : World) (l : List UInt8) (hl : l.length ≤ maxLen) : ∃ cap W1, (convert 9 22 (.string (str l))).run Tryd.prog w = .ok (.slice (some ⟨w.heap.size, 0, none⟩) l.length cap) W1 ∧ Bts W1 (some ⟨w.heap.size, 0, none⟩) cap l ∧ w.grownBy W1 none := by
  have h := run_bytes_of_string (P := Tryd.prog) w 9 22 5 (str l) Tryd.underlying9 Tryd.underlying22 Tryd.underlying5
  rw [str_size] at h
  refine ⟨_, _, h, ?_, gb_alloc (gb_drew (gb_refl _ _)) _⟩
  refine ⟨(fun e => by cases e), grownCap_ge _ _ _ _, grownCap_le_maxLen _ _ _ _ hl, (fun ad e _ => by cases e; rfl), (fun ad e i hi => ?_)⟩
  cases e
  have hh : (w.drew.alloc (.cells (bytesRow (str l) (grownCap w l.length 0 5)) 5 ((bytesRow (str l) (grownCap w l.length 0 5)).size, (bytesRow (str l) (grownCap w l.length 0 5)).size + 1))).heap[w.heap.size]? = some (.cells (bytesRow (str l) (grownCap w l.length 0 5)) 5 ((bytesRow (str l) (grownCap w l.length 0 5)).size, (bytesRow (str l) (grownCap w l.length 0 5)).size + 1)) := heap_alloc_new w.drew _
  rw [show (⟨w.heap.size, 0, none⟩ : Addr).off + i = i from Nat.zero_add i, cell_of_row _ _ _ _ _ _ hh]
  unfold bytesRow
  rw [Array.getElem?_append_left (by simp [str]; exact hi)]
  simp [str, hi]

theorem str_typ (w : World) (l : List UInt8) (hl : l.length ≤ maxLen) : ∃ cap W1, (convert 9 22 (.string (str l))).run Tryd.prog w = .ok (.slice (some ⟨w.heap.size, 0, none⟩) l.length cap) W1 ∧ Bts W1 (some ⟨w.heap.size, 0, none⟩) cap l ∧ Typ W1 w.heap.size ∧ w.grownBy W1 none := by
  obtain ⟨cap, W1, h1, h2, h3⟩ := str_bytes w l hl
  refine ⟨cap, W1, h1, h2, ?_, h3⟩
  have h := run_bytes_of_string (P := Tryd.prog) w 9 22 5 (str l) Tryd.underlying9 Tryd.underlying22 Tryd.underlying5
  rw [h] at h1
  injection h1 with _ h4
  rw [← h4]
  exact ⟨_, _, heap_alloc_new w.drew _⟩

end Go.Proofs.YtjckdgapefaokaaDoor
