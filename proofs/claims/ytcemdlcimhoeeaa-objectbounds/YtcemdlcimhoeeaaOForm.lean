/- What object's formed answers, and TreeOf, ChangeOf, MarkOf: what an object is of. Of data of at most 100000 bytes. -/
import Derived.Test.YtcemdlcimhoeeaaOCloM
namespace Go.Proofs.Ytcemdlcimhoeeaa
open Go.RowKit

theorem formed_no (w : World) (k K : Int) (hk : (k == K) = false) (ao : Option Addr) (n c : Nat) (fv : Value) :
    Calls Try.prog 46 #[.agg #[.int .i64 k, .slice ao n c], .int .i64 K, fv] w fun e w' => e = .returned (.int .i64 2) ∧ w.grownBy w' none := by
  have hk2 : ¬ k = K := by simpa using hk
  go_enter Try.func46, Try.ntmps46
  go_wp2
  go_ret
  exact ⟨rfl, gb_alloc (gb_refl _ _) _⟩

set_option maxRecDepth 100000 in
set_option maxHeartbeats 2000000 in
theorem formed_T (u w : World) (gu : u.grownBy w none) (ao : Option Addr) (c : Nat) (d : List UInt8) (hb : Bts u ao c d) (hd : d.length ≤ 1000000) (vb : Nat) (K : Int) (r : Int × List UInt8) (R : World → Prop) (hR : ∀ a b, R a → a.grownBy b none → R b)
    (hf : ∀ V rb bc, u.grownBy V none → w.grownBy V none → w.heap.size < rb → Rd V rb d 0 → Blk V w.heap.size 35 bc → Calls Try.prog 88 #[.pointer (some ⟨rb, 0, none⟩), .pointer (some ⟨vb, 0, none⟩)] V fun e w' => Again u w' K r (fun V' => R V' ∧ Blk V' w.heap.size 35 bc) e) :
    Calls Try.prog 46 #[.agg #[.int .i64 K, .slice ao d.length c], .int .i64 K, .func (.func 88) #[] #[.pointer (some ⟨vb, 0, none⟩)]] w fun e w' => e = .returned (.int .i64 (if r = (0, d) then 0 else 11)) ∧ R w' ∧ u.grownBy w' none := by
  obtain ⟨Y, hY⟩ : ∃ y : Int, y = (if r = (0, d) then 0 else 11) := ⟨_, rfl⟩
  rw [← hY]
  have HY := hide hY
  clear hY
  obtain ⟨n, hn⟩ : ∃ n, n = d.length := ⟨_, rfl⟩
  obtain ⟨W0, hW0, hB0, g0⟩ : ∃ W1, W1 = w.alloc (.cells #[.int .i64 K, .slice ao n c] 35) ∧ Blk W1 w.heap.size 35 [.int .i64 K, .slice ao n c] ∧ w.grownBy W1 none := box_new w _ _
  have cn := new_any W0 ao c d (hb.kept (tn gu g0) (fun _ e => by cases e)) (by omega)
  have c0 := hB0.cell 0
  have c1 := hB0.cell 1
  simp only [List.getElem?_cons_zero, List.getElem?_cons_succ] at c0 c1
  rw [← hn] at cn ⊢
  have HN := hide hn
  have HW0 := hide hW0
  have HF := hide hf
  have HR := hide hR
  have HB := hide hb
  have HB0 := hide hB0
  have HGU := hide gu
  have HG0 := hide g0
  clear hn hW0 hf hR hb hB0 gu g0
  go_enter Try.func46, Try.ntmps46
  go_wp2_with (rw [← unhide HW0])
  refine cn.mono ?_
  rintro e w1 ⟨rb, rfl, hrb, hRd, g1⟩
  have hws : w.heap.size < W0.heap.size := (unhide HB0).lt
  have cf := unhide HF w1 rb _ (tn (tn (unhide HGU) (unhide HG0)) g1) (tn (unhide HG0) g1) (by omega) hRd ((unhide HB0).kept g1 (by simp))
  clear cn hRd g1 c0 c1
  go_wp2_with fail
  refine cf.mono ?_
  rintro e w2 ⟨v2, rfl, ⟨a2, c2, rfl, hb2⟩, ⟨hR2, hK2⟩, g2⟩
  obtain ⟨n2, hn2⟩ : ∃ n, n = r.2.length := ⟨_, rfl⟩
  obtain ⟨x, hx⟩ : ∃ x : Int, x = r.1 := ⟨_, rfl⟩
  rw [← hn2, ← hx]
  obtain ⟨KK, hKK⟩ : ∃ k : Int, k = (if x = 0 then K else 0) := ⟨_, rfl⟩
  rw [← hKK]
  obtain ⟨W3, hW3, hB3, g3⟩ : ∃ W1, W1 = w2.alloc (.cells #[.int .i64 KK, .slice a2 n2 c2] 35) ∧ Blk W1 w2.heap.size 35 [.int .i64 KK, .slice a2 n2 c2] ∧ w2.grownBy W1 none := box_new w2 _ _
  have hK3 := hK2.kept g3 (by simp)
  have d0 := hK3.cell 0
  have d1 := hK3.cell 1
  have f0 := hB3.cell 0
  have f1 := hB3.cell 1
  simp only [List.getElem?_cons_zero, List.getElem?_cons_succ] at d0 d1 f0 f1
  have HW3 := hide hW3
  have hb3 := hb2.kept g3 (fun _ e => by cases e)
  have G3 := tn g2 g3
  have hR3 := unhide HR w2 W3 hR2 g3
  by_cases hx0 : x = 0
  · have hKe : KK = K := by rw [hKK, if_pos hx0]
    have hbd : Bts W3 ao c d := (unhide HB).kept G3 (fun _ e => by cases e)
    have cs := same_any W3 KK K a2 ao c2 c r.2 d hb3 hbd
    rw [← hn2, ← unhide HN] at cs
    obtain ⟨B, hB⟩ : ∃ B, B = decide (KK = K ∧ r.2 = d) := ⟨_, rfl⟩
    rw [← hB] at cs
    have hfin : Y = (if B = true then 0 else 11) := by
      rw [hB, unhide HY]
      by_cases hq : r.2 = d
      · rw [if_pos (show r = (0, d) by rw [← hq, ← hx0, hx]), if_pos (by simp [hKe, hq])]
      · rw [if_neg (show ¬ r = (0, d) from fun e => hq (by rw [e])), if_neg (by simp [hq])]
    have HFN := hide hfin
    have HR3 := hide hR3
    clear hKe hbd hB hfin hb2 hb3 hR2 hK2 hK3 hB3 hW3 hn2 hx hKK hR3 cf g2 g3
    subst hx0
    cases B
    · go_wp2_with (first
        | (go_at_call 72; refine cs.mono ?_; rintro e w4 ⟨rfl, g4⟩; clear cs)
        | (rw [← unhide HW3]))
      go_ret
      rw [unhide HFN]
      exact ⟨rfl, unhide HR _ _ (unhide HR3) g4, tn G3 g4⟩
    · go_wp2_with (first
        | (go_at_call 72; refine cs.mono ?_; rintro e w4 ⟨rfl, g4⟩; clear cs)
        | (rw [← unhide HW3]))
      go_ret
      rw [unhide HFN]
      exact ⟨rfl, unhide HR _ _ (unhide HR3) g4, tn G3 g4⟩
  · have hx1 : (x == 0) = false := by simpa using hx0
    have hfin : Y = 11 := by rw [unhide HY]; exact if_neg (fun e => hx0 (by rw [hx, e]))
    have HFN := hide hfin
    have HR3 := hide hR3
    clear hfin hb2 hb3 hR2 hK2 hK3 hB3 hW3 hn2 hx hKK hR3 cf g2 g3
    go_wp2_with (rw [← unhide HW3])
    go_ret
    rw [unhide HFN]
    first
      | exact ⟨rfl, unhide HR3, G3⟩
      | (rw [← unhide HW3]; exact ⟨rfl, unhide HR3, G3⟩)

set_option maxRecDepth 100000 in
set_option maxHeartbeats 2000000 in
theorem formed_C (u w : World) (gu : u.grownBy w none) (ao : Option Addr) (c : Nat) (d : List UInt8) (hb : Bts u ao c d) (hd : d.length ≤ 1000000) (vb : Nat) (K : Int) (r : Int × List UInt8) (R : World → Prop) (hR : ∀ a b, R a → a.grownBy b none → R b)
    (hf : ∀ V rb bc, u.grownBy V none → w.grownBy V none → w.heap.size < rb → Rd V rb d 0 → Blk V w.heap.size 35 bc → Calls Try.prog 47 #[.pointer (some ⟨rb, 0, none⟩), .pointer (some ⟨vb, 0, none⟩)] V fun e w' => Again u w' K r (fun V' => R V' ∧ Blk V' w.heap.size 35 bc) e) :
    Calls Try.prog 46 #[.agg #[.int .i64 K, .slice ao d.length c], .int .i64 K, .func (.func 47) #[] #[.pointer (some ⟨vb, 0, none⟩)]] w fun e w' => e = .returned (.int .i64 (if r = (0, d) then 0 else 11)) ∧ R w' ∧ u.grownBy w' none := by
  obtain ⟨Y, hY⟩ : ∃ y : Int, y = (if r = (0, d) then 0 else 11) := ⟨_, rfl⟩
  rw [← hY]
  have HY := hide hY
  clear hY
  obtain ⟨n, hn⟩ : ∃ n, n = d.length := ⟨_, rfl⟩
  obtain ⟨W0, hW0, hB0, g0⟩ : ∃ W1, W1 = w.alloc (.cells #[.int .i64 K, .slice ao n c] 35) ∧ Blk W1 w.heap.size 35 [.int .i64 K, .slice ao n c] ∧ w.grownBy W1 none := box_new w _ _
  have cn := new_any W0 ao c d (hb.kept (tn gu g0) (fun _ e => by cases e)) (by omega)
  have c0 := hB0.cell 0
  have c1 := hB0.cell 1
  simp only [List.getElem?_cons_zero, List.getElem?_cons_succ] at c0 c1
  rw [← hn] at cn ⊢
  have HN := hide hn
  have HW0 := hide hW0
  have HF := hide hf
  have HR := hide hR
  have HB := hide hb
  have HB0 := hide hB0
  have HGU := hide gu
  have HG0 := hide g0
  clear hn hW0 hf hR hb hB0 gu g0
  go_enter Try.func46, Try.ntmps46
  go_wp2_with (rw [← unhide HW0])
  refine cn.mono ?_
  rintro e w1 ⟨rb, rfl, hrb, hRd, g1⟩
  have hws : w.heap.size < W0.heap.size := (unhide HB0).lt
  have cf := unhide HF w1 rb _ (tn (tn (unhide HGU) (unhide HG0)) g1) (tn (unhide HG0) g1) (by omega) hRd ((unhide HB0).kept g1 (by simp))
  clear cn hRd g1 c0 c1
  go_wp2_with fail
  refine cf.mono ?_
  rintro e w2 ⟨v2, rfl, ⟨a2, c2, rfl, hb2⟩, ⟨hR2, hK2⟩, g2⟩
  obtain ⟨n2, hn2⟩ : ∃ n, n = r.2.length := ⟨_, rfl⟩
  obtain ⟨x, hx⟩ : ∃ x : Int, x = r.1 := ⟨_, rfl⟩
  rw [← hn2, ← hx]
  obtain ⟨KK, hKK⟩ : ∃ k : Int, k = (if x = 0 then K else 0) := ⟨_, rfl⟩
  rw [← hKK]
  obtain ⟨W3, hW3, hB3, g3⟩ : ∃ W1, W1 = w2.alloc (.cells #[.int .i64 KK, .slice a2 n2 c2] 35) ∧ Blk W1 w2.heap.size 35 [.int .i64 KK, .slice a2 n2 c2] ∧ w2.grownBy W1 none := box_new w2 _ _
  have hK3 := hK2.kept g3 (by simp)
  have d0 := hK3.cell 0
  have d1 := hK3.cell 1
  have f0 := hB3.cell 0
  have f1 := hB3.cell 1
  simp only [List.getElem?_cons_zero, List.getElem?_cons_succ] at d0 d1 f0 f1
  have HW3 := hide hW3
  have hb3 := hb2.kept g3 (fun _ e => by cases e)
  have G3 := tn g2 g3
  have hR3 := unhide HR w2 W3 hR2 g3
  by_cases hx0 : x = 0
  · have hKe : KK = K := by rw [hKK, if_pos hx0]
    have hbd : Bts W3 ao c d := (unhide HB).kept G3 (fun _ e => by cases e)
    have cs := same_any W3 KK K a2 ao c2 c r.2 d hb3 hbd
    rw [← hn2, ← unhide HN] at cs
    obtain ⟨B, hB⟩ : ∃ B, B = decide (KK = K ∧ r.2 = d) := ⟨_, rfl⟩
    rw [← hB] at cs
    have hfin : Y = (if B = true then 0 else 11) := by
      rw [hB, unhide HY]
      by_cases hq : r.2 = d
      · rw [if_pos (show r = (0, d) by rw [← hq, ← hx0, hx]), if_pos (by simp [hKe, hq])]
      · rw [if_neg (show ¬ r = (0, d) from fun e => hq (by rw [e])), if_neg (by simp [hq])]
    have HFN := hide hfin
    have HR3 := hide hR3
    clear hKe hbd hB hfin hb2 hb3 hR2 hK2 hK3 hB3 hW3 hn2 hx hKK hR3 cf g2 g3
    subst hx0
    cases B
    · go_wp2_with (first
        | (go_at_call 72; refine cs.mono ?_; rintro e w4 ⟨rfl, g4⟩; clear cs)
        | (rw [← unhide HW3]))
      go_ret
      rw [unhide HFN]
      exact ⟨rfl, unhide HR _ _ (unhide HR3) g4, tn G3 g4⟩
    · go_wp2_with (first
        | (go_at_call 72; refine cs.mono ?_; rintro e w4 ⟨rfl, g4⟩; clear cs)
        | (rw [← unhide HW3]))
      go_ret
      rw [unhide HFN]
      exact ⟨rfl, unhide HR _ _ (unhide HR3) g4, tn G3 g4⟩
  · have hx1 : (x == 0) = false := by simpa using hx0
    have hfin : Y = 11 := by rw [unhide HY]; exact if_neg (fun e => hx0 (by rw [hx, e]))
    have HFN := hide hfin
    have HR3 := hide hR3
    clear hfin hb2 hb3 hR2 hK2 hK3 hB3 hW3 hn2 hx hKK hR3 cf g2 g3
    go_wp2_with (rw [← unhide HW3])
    go_ret
    rw [unhide HFN]
    first
      | exact ⟨rfl, unhide HR3, G3⟩
      | (rw [← unhide HW3]; exact ⟨rfl, unhide HR3, G3⟩)

set_option maxRecDepth 100000 in
set_option maxHeartbeats 2000000 in
theorem formed_M (u w : World) (gu : u.grownBy w none) (ao : Option Addr) (c : Nat) (d : List UInt8) (hb : Bts u ao c d) (hd : d.length ≤ 1000000) (vb : Nat) (K : Int) (r : Int × List UInt8) (R : World → Prop) (hR : ∀ a b, R a → a.grownBy b none → R b)
    (hf : ∀ V rb bc, u.grownBy V none → w.grownBy V none → w.heap.size < rb → Rd V rb d 0 → Blk V w.heap.size 35 bc → Calls Try.prog 90 #[.pointer (some ⟨rb, 0, none⟩), .pointer (some ⟨vb, 0, none⟩)] V fun e w' => Again u w' K r (fun V' => R V' ∧ Blk V' w.heap.size 35 bc) e) :
    Calls Try.prog 46 #[.agg #[.int .i64 K, .slice ao d.length c], .int .i64 K, .func (.func 90) #[] #[.pointer (some ⟨vb, 0, none⟩)]] w fun e w' => e = .returned (.int .i64 (if r = (0, d) then 0 else 11)) ∧ R w' ∧ u.grownBy w' none := by
  obtain ⟨Y, hY⟩ : ∃ y : Int, y = (if r = (0, d) then 0 else 11) := ⟨_, rfl⟩
  rw [← hY]
  have HY := hide hY
  clear hY
  obtain ⟨n, hn⟩ : ∃ n, n = d.length := ⟨_, rfl⟩
  obtain ⟨W0, hW0, hB0, g0⟩ : ∃ W1, W1 = w.alloc (.cells #[.int .i64 K, .slice ao n c] 35) ∧ Blk W1 w.heap.size 35 [.int .i64 K, .slice ao n c] ∧ w.grownBy W1 none := box_new w _ _
  have cn := new_any W0 ao c d (hb.kept (tn gu g0) (fun _ e => by cases e)) (by omega)
  have c0 := hB0.cell 0
  have c1 := hB0.cell 1
  simp only [List.getElem?_cons_zero, List.getElem?_cons_succ] at c0 c1
  rw [← hn] at cn ⊢
  have HN := hide hn
  have HW0 := hide hW0
  have HF := hide hf
  have HR := hide hR
  have HB := hide hb
  have HB0 := hide hB0
  have HGU := hide gu
  have HG0 := hide g0
  clear hn hW0 hf hR hb hB0 gu g0
  go_enter Try.func46, Try.ntmps46
  go_wp2_with (rw [← unhide HW0])
  refine cn.mono ?_
  rintro e w1 ⟨rb, rfl, hrb, hRd, g1⟩
  have hws : w.heap.size < W0.heap.size := (unhide HB0).lt
  have cf := unhide HF w1 rb _ (tn (tn (unhide HGU) (unhide HG0)) g1) (tn (unhide HG0) g1) (by omega) hRd ((unhide HB0).kept g1 (by simp))
  clear cn hRd g1 c0 c1
  go_wp2_with fail
  refine cf.mono ?_
  rintro e w2 ⟨v2, rfl, ⟨a2, c2, rfl, hb2⟩, ⟨hR2, hK2⟩, g2⟩
  obtain ⟨n2, hn2⟩ : ∃ n, n = r.2.length := ⟨_, rfl⟩
  obtain ⟨x, hx⟩ : ∃ x : Int, x = r.1 := ⟨_, rfl⟩
  rw [← hn2, ← hx]
  obtain ⟨KK, hKK⟩ : ∃ k : Int, k = (if x = 0 then K else 0) := ⟨_, rfl⟩
  rw [← hKK]
  obtain ⟨W3, hW3, hB3, g3⟩ : ∃ W1, W1 = w2.alloc (.cells #[.int .i64 KK, .slice a2 n2 c2] 35) ∧ Blk W1 w2.heap.size 35 [.int .i64 KK, .slice a2 n2 c2] ∧ w2.grownBy W1 none := box_new w2 _ _
  have hK3 := hK2.kept g3 (by simp)
  have d0 := hK3.cell 0
  have d1 := hK3.cell 1
  have f0 := hB3.cell 0
  have f1 := hB3.cell 1
  simp only [List.getElem?_cons_zero, List.getElem?_cons_succ] at d0 d1 f0 f1
  have HW3 := hide hW3
  have hb3 := hb2.kept g3 (fun _ e => by cases e)
  have G3 := tn g2 g3
  have hR3 := unhide HR w2 W3 hR2 g3
  by_cases hx0 : x = 0
  · have hKe : KK = K := by rw [hKK, if_pos hx0]
    have hbd : Bts W3 ao c d := (unhide HB).kept G3 (fun _ e => by cases e)
    have cs := same_any W3 KK K a2 ao c2 c r.2 d hb3 hbd
    rw [← hn2, ← unhide HN] at cs
    obtain ⟨B, hB⟩ : ∃ B, B = decide (KK = K ∧ r.2 = d) := ⟨_, rfl⟩
    rw [← hB] at cs
    have hfin : Y = (if B = true then 0 else 11) := by
      rw [hB, unhide HY]
      by_cases hq : r.2 = d
      · rw [if_pos (show r = (0, d) by rw [← hq, ← hx0, hx]), if_pos (by simp [hKe, hq])]
      · rw [if_neg (show ¬ r = (0, d) from fun e => hq (by rw [e])), if_neg (by simp [hq])]
    have HFN := hide hfin
    have HR3 := hide hR3
    clear hKe hbd hB hfin hb2 hb3 hR2 hK2 hK3 hB3 hW3 hn2 hx hKK hR3 cf g2 g3
    subst hx0
    cases B
    · go_wp2_with (first
        | (go_at_call 72; refine cs.mono ?_; rintro e w4 ⟨rfl, g4⟩; clear cs)
        | (rw [← unhide HW3]))
      go_ret
      rw [unhide HFN]
      exact ⟨rfl, unhide HR _ _ (unhide HR3) g4, tn G3 g4⟩
    · go_wp2_with (first
        | (go_at_call 72; refine cs.mono ?_; rintro e w4 ⟨rfl, g4⟩; clear cs)
        | (rw [← unhide HW3]))
      go_ret
      rw [unhide HFN]
      exact ⟨rfl, unhide HR _ _ (unhide HR3) g4, tn G3 g4⟩
  · have hx1 : (x == 0) = false := by simpa using hx0
    have hfin : Y = 11 := by rw [unhide HY]; exact if_neg (fun e => hx0 (by rw [hx, e]))
    have HFN := hide hfin
    have HR3 := hide hR3
    clear hfin hb2 hb3 hR2 hK2 hK3 hB3 hW3 hn2 hx hKK hR3 cf g2 g3
    go_wp2_with (rw [← unhide HW3])
    go_ret
    rw [unhide HFN]
    first
      | exact ⟨rfl, unhide HR3, G3⟩
      | (rw [← unhide HW3]; exact ⟨rfl, unhide HR3, G3⟩)

end Go.Proofs.Ytcemdlcimhoeeaa
