/- What object's formed answers, and TreeOf, ChangeOf, MarkOf: what an object is of. Of data of at most 100000 bytes. -/
import Derived.Test.YtcemdlcimhoeeaaGreatDoorOCloM
import Derived.Laws.AppendOwnNone
namespace Go.Proofs.YtcemdlcimhoeeaaGreatDoor
open Go.RowKit

theorem formed_no (w : World) (k K : Int) (hk : (k == K) = false) (ao : Option Addr) (n c : Nat) (fv : Value) :
    Calls Tryz.prog 26 #[.agg #[.int .i64 k, .slice ao n c], .int .i64 K, fv] w fun e w' => e = .returned (.int .i64 2) ∧ w.grownBy w' none := by
  have hk2 : ¬ k = K := by simpa using hk
  go_enter Tryz.func26, Tryz.ntmps26
  go_wp2
  go_ret
  exact ⟨rfl, gb_alloc (gb_refl _ _) _⟩

set_option maxRecDepth 100000 in
set_option maxHeartbeats 2000000 in
theorem formed_T (u w : World) (gu : u.grownBy w none) (ao : Option Addr) (c : Nat) (d : List UInt8) (hb : Bts u ao c d) (hd : d.length ≤ 1000000) (vb : Nat) (K : Int) (r : Int × List UInt8) (R : World → Prop) (hR : ∀ a b, R a → a.grownBy b none → R b)
    (hf : ∀ V rb bc, u.grownBy V none → w.grownBy V none → w.heap.size < rb → Rd V rb d 0 → Blk V w.heap.size 24 bc → Calls Tryz.prog 27 #[.pointer (some ⟨rb, 0, none⟩), .pointer (some ⟨vb, 0, none⟩)] V fun e w' => Again u w' K r (fun V' => R V' ∧ Blk V' w.heap.size 24 bc) e) :
    Calls Tryz.prog 26 #[.agg #[.int .i64 K, .slice ao d.length c], .int .i64 K, .func (.func 27) #[] #[.pointer (some ⟨vb, 0, none⟩)]] w fun e w' => e = .returned (.int .i64 (if r = (0, d) then 0 else 11)) ∧ R w' ∧ u.grownBy w' none := by
  obtain ⟨Y, hY⟩ : ∃ y : Int, y = (if r = (0, d) then 0 else 11) := ⟨_, rfl⟩
  rw [← hY]
  have HY := hide hY
  clear hY
  obtain ⟨n, hn⟩ : ∃ n, n = d.length := ⟨_, rfl⟩
  obtain ⟨W0, hW0, hB0, g0⟩ : ∃ W1, W1 = w.alloc (.cells #[.int .i64 K, .slice ao n c] 24) ∧ Blk W1 w.heap.size 24 [.int .i64 K, .slice ao n c] ∧ w.grownBy W1 none := box_new w _ _
  have cn := new_any W0 ao c d (hb.kept (tn gu g0) (fun _ e => by cases e)) (by omega)
  have c0 := hB0.cell 0
  have c1 := hB0.cell 1
  simp only [List.getElem?_cons_zero, List.getElem?_cons_succ] at c0 c1
  rw [← hn] at cn ⊢
  have HN := hide hn
  have HW0 := hide hW0
  have HF := hide hf
  have HR := hide hR
  have HB := hide hb
  have HB0 := hide hB0
  have HGU := hide gu
  have HG0 := hide g0
  clear hn hW0 hf hR hb hB0 gu g0
  go_enter Tryz.func26, Tryz.ntmps26
  go_wp2_with (rw [← unhide HW0])
  refine cn.mono ?_
  rintro e w1 ⟨rb, rfl, hrb, hRd, g1⟩
  have hws : w.heap.size < W0.heap.size := (unhide HB0).lt
  have cf := unhide HF w1 rb _ (tn (tn (unhide HGU) (unhide HG0)) g1) (tn (unhide HG0) g1) (by omega) hRd ((unhide HB0).kept g1 (by simp))
  clear cn hRd g1 c0 c1
  go_wp2_with fail
  refine cf.mono ?_
  rintro e w2 ⟨v2, rfl, ⟨a2, c2, rfl, hb2⟩, ⟨hR2, hK2⟩, g2⟩
  obtain ⟨n2, hn2⟩ : ∃ n, n = r.2.length := ⟨_, rfl⟩
  obtain ⟨x, hx⟩ : ∃ x : Int, x = r.1 := ⟨_, rfl⟩
  rw [← hn2, ← hx]
  obtain ⟨KK, hKK⟩ : ∃ k : Int, k = (if x = 0 then K else 0) := ⟨_, rfl⟩
  rw [← hKK]
  obtain ⟨W3, hW3, hB3, g3⟩ : ∃ W1, W1 = w2.alloc (.cells #[.int .i64 KK, .slice a2 n2 c2] 24) ∧ Blk W1 w2.heap.size 24 [.int .i64 KK, .slice a2 n2 c2] ∧ w2.grownBy W1 none := box_new w2 _ _
  have hK3 := hK2.kept g3 (by simp)
  have d0 := hK3.cell 0
  have d1 := hK3.cell 1
  have f0 := hB3.cell 0
  have f1 := hB3.cell 1
  simp only [List.getElem?_cons_zero, List.getElem?_cons_succ] at d0 d1 f0 f1
  have HW3 := hide hW3
  have hb3 := hb2.kept g3 (fun _ e => by cases e)
  have G3 := tn g2 g3
  have hR3 := unhide HR w2 W3 hR2 g3
  by_cases hx0 : x = 0
  · have hKe : KK = K := by rw [hKK, if_pos hx0]
    have hbd : Bts W3 ao c d := (unhide HB).kept G3 (fun _ e => by cases e)
    have cs := same_any W3 KK K a2 ao c2 c r.2 d hb3 hbd
    rw [← hn2, ← unhide HN] at cs
    obtain ⟨B, hB⟩ : ∃ B, B = decide (KK = K ∧ r.2 = d) := ⟨_, rfl⟩
    rw [← hB] at cs
    have hfin : Y = (if B = true then 0 else 11) := by
      rw [hB, unhide HY]
      by_cases hq : r.2 = d
      · rw [if_pos (show r = (0, d) by rw [← hq, ← hx0, hx]), if_pos (by simp [hKe, hq])]
      · rw [if_neg (show ¬ r = (0, d) from fun e => hq (by rw [e])), if_neg (by simp [hq])]
    have HFN := hide hfin
    have HR3 := hide hR3
    clear hKe hbd hB hfin hb2 hb3 hR2 hK2 hK3 hB3 hW3 hn2 hx hKK hR3 cf g2 g3
    subst hx0
    cases B
    · go_wp2_with (first
        | (go_at_call 50; refine cs.mono ?_; rintro e w4 ⟨rfl, g4⟩; clear cs)
        | (rw [← unhide HW3]))
      go_ret
      rw [unhide HFN]
      exact ⟨rfl, unhide HR _ _ (unhide HR3) g4, tn G3 g4⟩
    · go_wp2_with (first
        | (go_at_call 50; refine cs.mono ?_; rintro e w4 ⟨rfl, g4⟩; clear cs)
        | (rw [← unhide HW3]))
      go_ret
      rw [unhide HFN]
      exact ⟨rfl, unhide HR _ _ (unhide HR3) g4, tn G3 g4⟩
  · have hx1 : (x == 0) = false := by simpa using hx0
    have hfin : Y = 11 := by rw [unhide HY]; exact if_neg (fun e => hx0 (by rw [hx, e]))
    have HFN := hide hfin
    have HR3 := hide hR3
    clear hfin hb2 hb3 hR2 hK2 hK3 hB3 hW3 hn2 hx hKK hR3 cf g2 g3
    go_wp2_with (rw [← unhide HW3])
    go_ret
    rw [unhide HFN]
    first
      | exact ⟨rfl, unhide HR3, G3⟩
      | (rw [← unhide HW3]; exact ⟨rfl, unhide HR3, G3⟩)

set_option maxRecDepth 100000 in
set_option maxHeartbeats 2000000 in
theorem formed_C (u w : World) (gu : u.grownBy w none) (ao : Option Addr) (c : Nat) (d : List UInt8) (hb : Bts u ao c d) (hd : d.length ≤ 1000000) (vb : Nat) (K : Int) (r : Int × List UInt8) (R : World → Prop) (hR : ∀ a b, R a → a.grownBy b none → R b)
    (hf : ∀ V rb bc, u.grownBy V none → w.grownBy V none → w.heap.size < rb → Rd V rb d 0 → Blk V w.heap.size 24 bc → Calls Tryz.prog 35 #[.pointer (some ⟨rb, 0, none⟩), .pointer (some ⟨vb, 0, none⟩)] V fun e w' => Again u w' K r (fun V' => R V' ∧ Blk V' w.heap.size 24 bc) e) :
    Calls Tryz.prog 26 #[.agg #[.int .i64 K, .slice ao d.length c], .int .i64 K, .func (.func 35) #[] #[.pointer (some ⟨vb, 0, none⟩)]] w fun e w' => e = .returned (.int .i64 (if r = (0, d) then 0 else 11)) ∧ R w' ∧ u.grownBy w' none := by
  obtain ⟨Y, hY⟩ : ∃ y : Int, y = (if r = (0, d) then 0 else 11) := ⟨_, rfl⟩
  rw [← hY]
  have HY := hide hY
  clear hY
  obtain ⟨n, hn⟩ : ∃ n, n = d.length := ⟨_, rfl⟩
  obtain ⟨W0, hW0, hB0, g0⟩ : ∃ W1, W1 = w.alloc (.cells #[.int .i64 K, .slice ao n c] 24) ∧ Blk W1 w.heap.size 24 [.int .i64 K, .slice ao n c] ∧ w.grownBy W1 none := box_new w _ _
  have cn := new_any W0 ao c d (hb.kept (tn gu g0) (fun _ e => by cases e)) (by omega)
  have c0 := hB0.cell 0
  have c1 := hB0.cell 1
  simp only [List.getElem?_cons_zero, List.getElem?_cons_succ] at c0 c1
  rw [← hn] at cn ⊢
  have HN := hide hn
  have HW0 := hide hW0
  have HF := hide hf
  have HR := hide hR
  have HB := hide hb
  have HB0 := hide hB0
  have HGU := hide gu
  have HG0 := hide g0
  clear hn hW0 hf hR hb hB0 gu g0
  go_enter Tryz.func26, Tryz.ntmps26
  go_wp2_with (rw [← unhide HW0])
  refine cn.mono ?_
  rintro e w1 ⟨rb, rfl, hrb, hRd, g1⟩
  have hws : w.heap.size < W0.heap.size := (unhide HB0).lt
  have cf := unhide HF w1 rb _ (tn (tn (unhide HGU) (unhide HG0)) g1) (tn (unhide HG0) g1) (by omega) hRd ((unhide HB0).kept g1 (by simp))
  clear cn hRd g1 c0 c1
  go_wp2_with fail
  refine cf.mono ?_
  rintro e w2 ⟨v2, rfl, ⟨a2, c2, rfl, hb2⟩, ⟨hR2, hK2⟩, g2⟩
  obtain ⟨n2, hn2⟩ : ∃ n, n = r.2.length := ⟨_, rfl⟩
  obtain ⟨x, hx⟩ : ∃ x : Int, x = r.1 := ⟨_, rfl⟩
  rw [← hn2, ← hx]
  obtain ⟨KK, hKK⟩ : ∃ k : Int, k = (if x = 0 then K else 0) := ⟨_, rfl⟩
  rw [← hKK]
  obtain ⟨W3, hW3, hB3, g3⟩ : ∃ W1, W1 = w2.alloc (.cells #[.int .i64 KK, .slice a2 n2 c2] 24) ∧ Blk W1 w2.heap.size 24 [.int .i64 KK, .slice a2 n2 c2] ∧ w2.grownBy W1 none := box_new w2 _ _
  have hK3 := hK2.kept g3 (by simp)
  have d0 := hK3.cell 0
  have d1 := hK3.cell 1
  have f0 := hB3.cell 0
  have f1 := hB3.cell 1
  simp only [List.getElem?_cons_zero, List.getElem?_cons_succ] at d0 d1 f0 f1
  have HW3 := hide hW3
  have hb3 := hb2.kept g3 (fun _ e => by cases e)
  have G3 := tn g2 g3
  have hR3 := unhide HR w2 W3 hR2 g3
  by_cases hx0 : x = 0
  · have hKe : KK = K := by rw [hKK, if_pos hx0]
    have hbd : Bts W3 ao c d := (unhide HB).kept G3 (fun _ e => by cases e)
    have cs := same_any W3 KK K a2 ao c2 c r.2 d hb3 hbd
    rw [← hn2, ← unhide HN] at cs
    obtain ⟨B, hB⟩ : ∃ B, B = decide (KK = K ∧ r.2 = d) := ⟨_, rfl⟩
    rw [← hB] at cs
    have hfin : Y = (if B = true then 0 else 11) := by
      rw [hB, unhide HY]
      by_cases hq : r.2 = d
      · rw [if_pos (show r = (0, d) by rw [← hq, ← hx0, hx]), if_pos (by simp [hKe, hq])]
      · rw [if_neg (show ¬ r = (0, d) from fun e => hq (by rw [e])), if_neg (by simp [hq])]
    have HFN := hide hfin
    have HR3 := hide hR3
    clear hKe hbd hB hfin hb2 hb3 hR2 hK2 hK3 hB3 hW3 hn2 hx hKK hR3 cf g2 g3
    subst hx0
    cases B
    · go_wp2_with (first
        | (go_at_call 50; refine cs.mono ?_; rintro e w4 ⟨rfl, g4⟩; clear cs)
        | (rw [← unhide HW3]))
      go_ret
      rw [unhide HFN]
      exact ⟨rfl, unhide HR _ _ (unhide HR3) g4, tn G3 g4⟩
    · go_wp2_with (first
        | (go_at_call 50; refine cs.mono ?_; rintro e w4 ⟨rfl, g4⟩; clear cs)
        | (rw [← unhide HW3]))
      go_ret
      rw [unhide HFN]
      exact ⟨rfl, unhide HR _ _ (unhide HR3) g4, tn G3 g4⟩
  · have hx1 : (x == 0) = false := by simpa using hx0
    have hfin : Y = 11 := by rw [unhide HY]; exact if_neg (fun e => hx0 (by rw [hx, e]))
    have HFN := hide hfin
    have HR3 := hide hR3
    clear hfin hb2 hb3 hR2 hK2 hK3 hB3 hW3 hn2 hx hKK hR3 cf g2 g3
    go_wp2_with (rw [← unhide HW3])
    go_ret
    rw [unhide HFN]
    first
      | exact ⟨rfl, unhide HR3, G3⟩
      | (rw [← unhide HW3]; exact ⟨rfl, unhide HR3, G3⟩)

set_option maxRecDepth 100000 in
set_option maxHeartbeats 2000000 in
theorem formed_M (u w : World) (gu : u.grownBy w none) (ao : Option Addr) (c : Nat) (d : List UInt8) (hb : Bts u ao c d) (hd : d.length ≤ 1000000) (vb : Nat) (K : Int) (r : Int × List UInt8) (R : World → Prop) (hR : ∀ a b, R a → a.grownBy b none → R b)
    (hf : ∀ V rb bc, u.grownBy V none → w.grownBy V none → w.heap.size < rb → Rd V rb d 0 → Blk V w.heap.size 24 bc → Calls Tryz.prog 39 #[.pointer (some ⟨rb, 0, none⟩), .pointer (some ⟨vb, 0, none⟩)] V fun e w' => Again u w' K r (fun V' => R V' ∧ Blk V' w.heap.size 24 bc) e) :
    Calls Tryz.prog 26 #[.agg #[.int .i64 K, .slice ao d.length c], .int .i64 K, .func (.func 39) #[] #[.pointer (some ⟨vb, 0, none⟩)]] w fun e w' => e = .returned (.int .i64 (if r = (0, d) then 0 else 11)) ∧ R w' ∧ u.grownBy w' none := by
  obtain ⟨Y, hY⟩ : ∃ y : Int, y = (if r = (0, d) then 0 else 11) := ⟨_, rfl⟩
  rw [← hY]
  have HY := hide hY
  clear hY
  obtain ⟨n, hn⟩ : ∃ n, n = d.length := ⟨_, rfl⟩
  obtain ⟨W0, hW0, hB0, g0⟩ : ∃ W1, W1 = w.alloc (.cells #[.int .i64 K, .slice ao n c] 24) ∧ Blk W1 w.heap.size 24 [.int .i64 K, .slice ao n c] ∧ w.grownBy W1 none := box_new w _ _
  have cn := new_any W0 ao c d (hb.kept (tn gu g0) (fun _ e => by cases e)) (by omega)
  have c0 := hB0.cell 0
  have c1 := hB0.cell 1
  simp only [List.getElem?_cons_zero, List.getElem?_cons_succ] at c0 c1
  rw [← hn] at cn ⊢
  have HN := hide hn
  have HW0 := hide hW0
  have HF := hide hf
  have HR := hide hR
  have HB := hide hb
  have HB0 := hide hB0
  have HGU := hide gu
  have HG0 := hide g0
  clear hn hW0 hf hR hb hB0 gu g0
  go_enter Tryz.func26, Tryz.ntmps26
  go_wp2_with (rw [← unhide HW0])
  refine cn.mono ?_
  rintro e w1 ⟨rb, rfl, hrb, hRd, g1⟩
  have hws : w.heap.size < W0.heap.size := (unhide HB0).lt
  have cf := unhide HF w1 rb _ (tn (tn (unhide HGU) (unhide HG0)) g1) (tn (unhide HG0) g1) (by omega) hRd ((unhide HB0).kept g1 (by simp))
  clear cn hRd g1 c0 c1
  go_wp2_with fail
  refine cf.mono ?_
  rintro e w2 ⟨v2, rfl, ⟨a2, c2, rfl, hb2⟩, ⟨hR2, hK2⟩, g2⟩
  obtain ⟨n2, hn2⟩ : ∃ n, n = r.2.length := ⟨_, rfl⟩
  obtain ⟨x, hx⟩ : ∃ x : Int, x = r.1 := ⟨_, rfl⟩
  rw [← hn2, ← hx]
  obtain ⟨KK, hKK⟩ : ∃ k : Int, k = (if x = 0 then K else 0) := ⟨_, rfl⟩
  rw [← hKK]
  obtain ⟨W3, hW3, hB3, g3⟩ : ∃ W1, W1 = w2.alloc (.cells #[.int .i64 KK, .slice a2 n2 c2] 24) ∧ Blk W1 w2.heap.size 24 [.int .i64 KK, .slice a2 n2 c2] ∧ w2.grownBy W1 none := box_new w2 _ _
  have hK3 := hK2.kept g3 (by simp)
  have d0 := hK3.cell 0
  have d1 := hK3.cell 1
  have f0 := hB3.cell 0
  have f1 := hB3.cell 1
  simp only [List.getElem?_cons_zero, List.getElem?_cons_succ] at d0 d1 f0 f1
  have HW3 := hide hW3
  have hb3 := hb2.kept g3 (fun _ e => by cases e)
  have G3 := tn g2 g3
  have hR3 := unhide HR w2 W3 hR2 g3
  by_cases hx0 : x = 0
  · have hKe : KK = K := by rw [hKK, if_pos hx0]
    have hbd : Bts W3 ao c d := (unhide HB).kept G3 (fun _ e => by cases e)
    have cs := same_any W3 KK K a2 ao c2 c r.2 d hb3 hbd
    rw [← hn2, ← unhide HN] at cs
    obtain ⟨B, hB⟩ : ∃ B, B = decide (KK = K ∧ r.2 = d) := ⟨_, rfl⟩
    rw [← hB] at cs
    have hfin : Y = (if B = true then 0 else 11) := by
      rw [hB, unhide HY]
      by_cases hq : r.2 = d
      · rw [if_pos (show r = (0, d) by rw [← hq, ← hx0, hx]), if_pos (by simp [hKe, hq])]
      · rw [if_neg (show ¬ r = (0, d) from fun e => hq (by rw [e])), if_neg (by simp [hq])]
    have HFN := hide hfin
    have HR3 := hide hR3
    clear hKe hbd hB hfin hb2 hb3 hR2 hK2 hK3 hB3 hW3 hn2 hx hKK hR3 cf g2 g3
    subst hx0
    cases B
    · go_wp2_with (first
        | (go_at_call 50; refine cs.mono ?_; rintro e w4 ⟨rfl, g4⟩; clear cs)
        | (rw [← unhide HW3]))
      go_ret
      rw [unhide HFN]
      exact ⟨rfl, unhide HR _ _ (unhide HR3) g4, tn G3 g4⟩
    · go_wp2_with (first
        | (go_at_call 50; refine cs.mono ?_; rintro e w4 ⟨rfl, g4⟩; clear cs)
        | (rw [← unhide HW3]))
      go_ret
      rw [unhide HFN]
      exact ⟨rfl, unhide HR _ _ (unhide HR3) g4, tn G3 g4⟩
  · have hx1 : (x == 0) = false := by simpa using hx0
    have hfin : Y = 11 := by rw [unhide HY]; exact if_neg (fun e => hx0 (by rw [hx, e]))
    have HFN := hide hfin
    have HR3 := hide hR3
    clear hfin hb2 hb3 hR2 hK2 hK3 hB3 hW3 hn2 hx hKK hR3 cf g2 g3
    go_wp2_with (rw [← unhide HW3])
    go_ret
    rw [unhide HFN]
    first
      | exact ⟨rfl, unhide HR3, G3⟩
      | (rw [← unhide HW3]; exact ⟨rfl, unhide HR3, G3⟩)

end Go.Proofs.YtcemdlcimhoeeaaGreatDoor

/- What object's TreeOf, ChangeOf and MarkOf answer. Of data of at most 100000 bytes. -/
namespace Go.Proofs.YtcemdlcimhoeeaaGreatDoor
open Go.RowKit

/-- What TreeOf, ChangeOf, MarkOf tell. -/
def telT (k : Int) (d : List UInt8) : Int × List EntL := if k = 2 then (if ofTree (readT d) = (0, d) then (0, readT d) else (11, [])) else (2, [])
def zeroCh : ChgL := ⟨List.replicate 32 0, [], 0, [], []⟩
def zeroMk : MrkL := ⟨List.replicate 32 0, [], []⟩
def telC (k : Int) (d : List UInt8) : Int × ChgL := if k = 3 then (if ofChg (readC d) = (0, d) then (0, readC d) else (11, zeroCh)) else (2, zeroCh)
def telM (k : Int) (d : List UInt8) : Int × MrkL := if k = 4 then (if ofMrk (readM d) = (0, d) then (0, readM d) else (11, zeroMk)) else (2, zeroMk)

set_option maxRecDepth 100000 in
set_option maxHeartbeats 2000000 in
theorem treeOf_any (w : World) (k : Int) (ao : Option Addr) (c : Nat) (d : List UInt8) (hb : Bts w ao c d) (hd : d.length ≤ 100000) :
    Calls Tryz.prog 7 #[.agg #[.int .i64 k, .slice ao d.length c]] w fun e w' => ∃ v y, e = .returned (.tuple #[v, .int .i64 y]) ∧ y = (telT k d).1 ∧ w'.ownsRow w.heap.size 97 34 v (telT k d).2.length ((telT k d).2.flatMap enC) ∧ w.grownBy w' none := by
  obtain ⟨n, hn⟩ : ∃ n, n = d.length := ⟨_, rfl⟩
  obtain ⟨W0, hW0, hB0, g0⟩ : ∃ W1, W1 = w.alloc (.cells #[.int .i64 k, .slice ao n c] 24) ∧ Blk W1 w.heap.size 24 [.int .i64 k, .slice ao n c] ∧ w.grownBy W1 none := box_new w _ _
  obtain ⟨W1, hW1, hB1, g1⟩ : ∃ W1, W1 = W0.alloc (.cells #[.slice none 0 0] 31) ∧ Blk W1 W0.heap.size 31 [.slice none 0 0] ∧ W0.grownBy W1 none := box_new W0 _ _
  have hs0 : W0.heap.size = w.heap.size + 1 := by rw [hW0]; simp
  rw [hs0] at hB1
  have hBo := hB0.kept g1 (by simp)
  have c0 := hBo.cell 0
  have c1 := hBo.cell 1
  simp only [List.getElem?_cons_zero, List.getElem?_cons_succ] at c0 c1
  have G1 := tn g0 g1
  have hs1 : W1.heap.size = w.heap.size + 2 := by rw [hW1, hW0]; simp
  have hW : W1 = (w.alloc (.cells #[.int .i64 k, .slice ao n c] 24)).alloc (.cells #[.slice none 0 0] 31) := by rw [hW1, hW0]
  have HW := hide hW
  by_cases hk : k = 2
  · subst hk
    have cf := formed_T w W1 G1 ao c d hb (by omega) (w.heap.size + 1) 2 (ofTree (readT d)) (KeptT w (w.heap.size + 1) (readT d)) (fun a b h g => h.none g)
      (fun V rb bc gu gw hrb hRd hbk => cloT_any w V rb (w.heap.size + 1) d (by omega) _ gu (Nat.le_succ _) (by omega) (by omega) hRd (hB1.kept gw (by simp)) W1.heap.size bc hbk (by omega) (by omega))
    rw [← hn] at cf
    rw [← hn]
    have hT : telT 2 d = (if ofTree (readT d) = (0, d) then (0, readT d) else (11, [])) := by simp [telT]
    obtain ⟨t, ht⟩ : ∃ t, t = telT 2 d := ⟨_, rfl⟩
    rw [← ht] at hT ⊢
    obtain ⟨y, hy⟩ : ∃ y : Int, y = (if ofTree (readT d) = (0, d) then 0 else 11) := ⟨_, rfl⟩
    rw [← hy] at cf
    have hyc : (y = 0 ∧ t = (0, readT d)) ∨ (y = 11 ∧ t = (11, [])) := by
      by_cases hq : ofTree (readT d) = (0, d)
      · left; rw [hT, hy, if_pos hq, if_pos hq]; exact ⟨rfl, rfl⟩
      · right; rw [hT, hy, if_neg hq, if_neg hq]; exact ⟨rfl, rfl⟩
    clear hW1 hW0 hW hB0 hB1 hBo g0 g1 hT hy hn ht hs0 hs1 hb hd
    rcases hyc with ⟨rfl, ht⟩ | ⟨rfl, ht⟩
    · have HT := hide ht
      clear ht
      go_enter Tryz.func7, Tryz.ntmps7
      go_wp2_with (rw [← unhide HW])
      refine cf.mono ?_
      rintro e w2 ⟨rfl, ⟨v, hB2, ho2⟩, g2⟩
      have c2 := hB2.cell 0
      simp only [List.getElem?_cons_zero] at c2
      have HO := hide ho2
      clear cf ho2 hB2 c0 c1
      go_wp2
      refine bodyPost_ret (v := .tuple #[v, .int .i64 0]) (by simp [results, Tryz.results7, go_sem]) rfl ?_
      exact ⟨v, 0, rfl, by rw [unhide HT], by rw [unhide HT]; exact unhide HO, g2⟩
    · have HT := hide ht
      clear ht
      go_enter Tryz.func7, Tryz.ntmps7
      go_wp2_with (rw [← unhide HW])
      refine cf.mono ?_
      rintro e w2 ⟨rfl, hkp, g2⟩
      clear cf hkp c0 c1
      go_wp2
      refine bodyPost_ret (v := .tuple #[.slice none 0 0, .int .i64 11]) (by simp [results, Tryz.results7, go_sem]) rfl ?_
      exact ⟨_, 11, rfl, by rw [unhide HT], by rw [unhide HT]; exact World.ownsRow_nil _ _ _ _, g2⟩
  · have cf := formed_no W1 k 2 (by simpa using hk) ao n c (.func (.func 27) #[] #[.pointer (some ⟨w.heap.size + 1, 0, none⟩)])
    rw [← hn]
    have ht : telT k d = (2, []) := by simp [telT, hk]
    have HT := hide ht
    clear hW1 hW0 hW hB0 hB1 hBo g0 g1 hn ht hs0 hs1 hb hd
    go_enter Tryz.func7, Tryz.ntmps7
    go_wp2_with (rw [← unhide HW])
    refine cf.mono ?_
    rintro e w2 ⟨rfl, g2⟩
    clear cf c0 c1
    go_wp2
    refine bodyPost_ret (v := .tuple #[.slice none 0 0, .int .i64 2]) (by simp [results, Tryz.results7, go_sem]) rfl ?_
    exact ⟨_, 2, rfl, by rw [unhide HT], by rw [unhide HT]; exact World.ownsRow_nil _ _ _ _, tn G1 g2⟩

end Go.Proofs.YtcemdlcimhoeeaaGreatDoor

/- What object's ChangeOf and MarkOf answer. Of data of at most 100000 bytes. -/
namespace Go.Proofs.YtcemdlcimhoeeaaGreatDoor
open Go.RowKit

set_option maxRecDepth 100000 in
set_option maxHeartbeats 2000000 in
theorem changeOf_any (w : World) (k : Int) (ao : Option Addr) (c : Nat) (d : List UInt8) (hb : Bts w ao c d) (hd : d.length ≤ 100000) :
    Calls Tryz.prog 9 #[.agg #[.int .i64 k, .slice ao d.length c]] w fun e w' => ∃ po pc y, e = .returned (.tuple #[.agg (chC (telC k d).2 po pc).toArray, .int .i64 y]) ∧ y = (telC k d).1 ∧ w'.ownsRow w.heap.size 38 32 (.slice po (telC k d).2.pars.length pc) (telC k d).2.pars.length ((telC k d).2.pars.flatMap (·.map bv)) ∧ w.grownBy w' none := by
  obtain ⟨n, hn⟩ : ∃ n, n = d.length := ⟨_, rfl⟩
  obtain ⟨Z, hZ⟩ : ∃ Z : List Value, Z = chC zeroCh none 0 := ⟨_, rfl⟩
  have hzv : ∀ w, (zeroValue 42).run Tryz.prog w = .ok (.agg Z.toArray) w := fun w => by rw [hZ]; kernel_rfl
  have hzb : Tryz.prog.built 42 [] = some Z.toArray := by rw [hZ]; kernel_rfl
  have hZl : Z.length = 36 := by rw [hZ]; rfl
  have hZo : Z.toArray.all (·.oneCell') = true := by rw [hZ]; exact all_oneCell_toArray (chC_one _ _ _)
  obtain ⟨W0, hW0, hB0, g0⟩ : ∃ W1, W1 = w.alloc (.cells #[.int .i64 k, .slice ao n c] 24) ∧ Blk W1 w.heap.size 24 [.int .i64 k, .slice ao n c] ∧ w.grownBy W1 none := box_new w _ _
  obtain ⟨Wr, hWr, hBr, gr⟩ : ∃ W1, W1 = W0.alloc (.cells Z.toArray 42) ∧ Blk W1 W0.heap.size 42 Z ∧ W0.grownBy W1 none := box_new W0 _ _
  obtain ⟨W1, hW1, hB1, g1⟩ : ∃ W1, W1 = Wr.alloc (.cells Z.toArray 42) ∧ Blk W1 Wr.heap.size 42 Z ∧ Wr.grownBy W1 none := box_new Wr _ _
  have hs0 : W0.heap.size = w.heap.size + 1 := by rw [hW0]; simp
  have hsr : Wr.heap.size = w.heap.size + 2 := by rw [hWr, hW0]; simp
  rw [hs0] at hBr
  rw [hsr] at hB1
  have hBo := (hB0.kept gr (by simp)).kept g1 (by simp)
  have hBr1 := hBr.kept g1 (by simp)
  have c0 := hBo.cell 0
  have c1 := hBo.cell 1
  simp only [List.getElem?_cons_zero, List.getElem?_cons_succ] at c0 c1
  have G1 := tn (tn g0 gr) g1
  have hs1 : W1.heap.size = w.heap.size + 3 := by rw [hW1, hWr, hW0]; simp
  have hW : W1 = ((w.alloc (.cells #[.int .i64 k, .slice ao n c] 24)).alloc (.cells Z.toArray 42)).alloc (.cells Z.toArray 42) := by rw [hW1, hWr, hW0]
  have HW := hide hW
  have hiZ : (Tryz.prog.info? 42).map (·.size) = some Z.toArray.size := by rw [show Z.toArray.size = 36 by simpa using hZl]; exact info_chg
  have HIZ := hide hiZ
  have HZB := hide hzb
  have HZO := hide hZo
  have HBR := hide hBr1
  have HZ := hide hZ
  have HZL := hide hZl
  have HG1 := hide G1
  clear hiZ hzb hZo
  by_cases hk : k = 3
  · subst hk
    have cf := formed_C w W1 G1 ao c d hb (by omega) (w.heap.size + 2) 3 (ofChg (readC d)) (fun V => KeptC w (w.heap.size + 2) (readC d) V ∧ Blk V (w.heap.size + 1) 42 Z) (fun a b h g => ⟨h.1.none g, h.2.kept g (by simp)⟩)
      (fun V rb bc gu gw hrb hRd hbk => (cloC_any w V rb (w.heap.size + 2) d (by omega) _ hZl gu (by omega) (by omega) (by omega) hRd (hB1.kept gw (by simp)) W1.heap.size bc hbk (by omega) (by omega) (w.heap.size + 1) _ Z (hBr1.kept gw (by simp)) (by omega) (by omega)))
    rw [← hn] at cf
    rw [← hn]
    have hT : telC 3 d = (if ofChg (readC d) = (0, d) then (0, readC d) else (11, zeroCh)) := by simp [telC]
    obtain ⟨t, ht⟩ : ∃ t, t = telC 3 d := ⟨_, rfl⟩
    rw [← ht] at hT ⊢
    obtain ⟨y, hy⟩ : ∃ y : Int, y = (if ofChg (readC d) = (0, d) then 0 else 11) := ⟨_, rfl⟩
    rw [← hy] at cf
    have hyc : (y = 0 ∧ t = (0, readC d)) ∨ (y = 11 ∧ t = (11, zeroCh)) := by
      by_cases hq : ofChg (readC d) = (0, d)
      · left; rw [hT, hy, if_pos hq, if_pos hq]; exact ⟨rfl, rfl⟩
      · right; rw [hT, hy, if_neg hq, if_neg hq]; exact ⟨rfl, rfl⟩
    have hok := readC_ok d
    clear hW1 hW0 hW hB0 hB1 hBo g0 g1 hT hy hn ht hs0 hs1 hb hd hWr hBr hBr1 gr hsr hZ hZl G1
    rcases hyc with ⟨rfl, ht⟩ | ⟨rfl, ht⟩
    · have HT := hide ht
      clear ht
      go_enter Tryz.func9, Tryz.ntmps9
      go_wp2_with (rw [← unhide HW])
      refine cf.mono ?_
      rintro e w2 ⟨rfl, ⟨⟨po, pc, hB2, ho2⟩, hB3⟩, g2⟩
      obtain ⟨C, hC⟩ : ∃ C, C = chC (readC d) po pc := ⟨_, rfl⟩
      rw [← hC] at hB2
      have hCl : C.length = 36 := by rw [hC]; exact chC_len _ _ _ hok.1
      have hCo : C.toArray.all (·.oneCell') = true := by rw [hC]; exact all_oneCell_toArray (chC_one _ _ _)
      have hr2 := blk_all hB2
      have hiC : (Tryz.prog.info? 42).map (·.size) = some C.length := by rw [hCl]; exact info_chg
      have hiC2 : (Tryz.prog.info? 42).map (·.size) = some C.toArray.size := by simpa using hiC
      have hZC : Z.toArray.size = C.toArray.size := by have := unhide HZL; simp [this, hCl]
      have HIC := hide hiC
      have HIC2 := hide hiC2
      have HZC := hide hZC
      have HCO := hide hCo
      have HC := hide hC
      have HB2 := hide hB2
      clear cf c0 c1 hiC hiC2 hZC hCo hC hCl hB2 hok
      go_wp2_with (first
        | (refine wpList_load_mid rfl 42 _ rfl (w.heap.size + 2) 0 rfl C _ hr2 Tryz.underlying42 rfl (unhide HIC) ?_; clear hr2)
        | (refine wpList_store_row rfl 42 _ _ rfl (w.heap.size + 1) C.toArray rfl rfl _ _ hB3 (unhide HIC2) (unhide HZC) (unhide HCO) ?_))
      refine bodyPost_ret (results_row_tmp rfl _ _ _ _ _ _ _ rfl (hB3.row C) Tryz.underlying42 rfl (unhide HIC2)) rfl ?_
      have gF := gb_row g2 C.toArray (Or.inl (Nat.le_succ w.heap.size))
      rw [unhide HT]
      rw [unhide HC] at gF ⊢
      exact ⟨po, pc, 0, rfl, rfl, own_row_id ho2 hB3 (by decide) _, gF⟩
    · have HT := hide ht
      clear ht
      go_enter Tryz.func9, Tryz.ntmps9
      go_wp2_with (rw [← unhide HW])
      refine cf.mono ?_
      rintro e w2 ⟨rfl, ⟨hkp, hB3⟩, g2⟩
      clear cf hkp c0 c1 hok
      go_wp2_with (first
        | (refine wpList_built rfl 42 _ rfl Z.toArray ?hbs ?_)
        | (refine wpList_store_row rfl 42 _ _ rfl (w.heap.size + 1) Z.toArray rfl rfl _ _ hB3 (unhide HIZ) rfl (unhide HZO) ?_))
      case hbs => simpa using unhide HZB
      refine bodyPost_ret (results_row_tmp rfl _ _ _ _ _ _ _ rfl (hB3.row Z) Tryz.underlying42 rfl (unhide HIZ)) rfl ?_
      have gF := gb_row g2 Z.toArray (Or.inl (Nat.le_succ w.heap.size))
      rw [unhide HT]
      rw [unhide HZ] at gF ⊢
      exact ⟨none, 0, _, rfl, rfl, World.ownsRow_nil _ _ _ _, gF⟩
  · have cf := formed_no W1 k 3 (by simpa using hk) ao n c (.func (.func 35) #[] #[.pointer (some ⟨w.heap.size + 2, 0, none⟩)])
    rw [← hn]
    have ht : telC k d = (2, zeroCh) := by simp [telC, hk]
    have HT := hide ht
    clear hW1 hW0 hW hB0 hB1 hBo g0 g1 hn ht hs0 hs1 hb hd hWr hBr hBr1 gr hsr hZ hZl G1
    go_enter Tryz.func9, Tryz.ntmps9
    go_wp2_with (rw [← unhide HW])
    refine cf.mono ?_
    rintro e w2 ⟨rfl, g2a⟩
    have g2 := tn (unhide HG1) g2a
    have hB3 := (unhide HBR).kept g2a (by simp)
    clear cf c0 c1
    go_wp2_with (first
      | (refine wpList_built rfl 42 _ rfl Z.toArray ?hbs ?_)
      | (refine wpList_store_row rfl 42 _ _ rfl (w.heap.size + 1) Z.toArray rfl rfl _ _ hB3 (unhide HIZ) rfl (unhide HZO) ?_))
    case hbs => simpa using unhide HZB
    refine bodyPost_ret (results_row_tmp rfl _ _ _ _ _ _ _ rfl (hB3.row Z) Tryz.underlying42 rfl (unhide HIZ)) rfl ?_
    have gF := gb_row g2 Z.toArray (Or.inl (Nat.le_succ w.heap.size))
    rw [unhide HT]
    rw [unhide HZ] at gF ⊢
    exact ⟨none, 0, _, rfl, rfl, World.ownsRow_nil _ _ _ _, gF⟩

set_option maxRecDepth 100000 in
set_option maxHeartbeats 2000000 in
theorem markOf_any (w : World) (k : Int) (ao : Option Addr) (c : Nat) (d : List UInt8) (hb : Bts w ao c d) (hd : d.length ≤ 100000) :
    Calls Tryz.prog 11 #[.agg #[.int .i64 k, .slice ao d.length c]] w fun e w' => ∃ y, e = .returned (.tuple #[.agg (mkC (telM k d).2).toArray, .int .i64 y]) ∧ y = (telM k d).1 ∧ w.grownBy w' none := by
  obtain ⟨n, hn⟩ : ∃ n, n = d.length := ⟨_, rfl⟩
  obtain ⟨Z, hZ⟩ : ∃ Z : List Value, Z = mkC zeroMk := ⟨_, rfl⟩
  have hzv : ∀ w, (zeroValue 51).run Tryz.prog w = .ok (.agg Z.toArray) w := fun w => by rw [hZ]; kernel_rfl
  have hzb : Tryz.prog.built 51 [] = some Z.toArray := by rw [hZ]; kernel_rfl
  have hZl : Z.length = 34 := by rw [hZ]; rfl
  have hZo : Z.toArray.all (·.oneCell') = true := by rw [hZ]; exact all_oneCell_toArray (mkC_one _)
  obtain ⟨W0, hW0, hB0, g0⟩ : ∃ W1, W1 = w.alloc (.cells #[.int .i64 k, .slice ao n c] 24) ∧ Blk W1 w.heap.size 24 [.int .i64 k, .slice ao n c] ∧ w.grownBy W1 none := box_new w _ _
  obtain ⟨Wr, hWr, hBr, gr⟩ : ∃ W1, W1 = W0.alloc (.cells Z.toArray 51) ∧ Blk W1 W0.heap.size 51 Z ∧ W0.grownBy W1 none := box_new W0 _ _
  obtain ⟨W1, hW1, hB1, g1⟩ : ∃ W1, W1 = Wr.alloc (.cells Z.toArray 51) ∧ Blk W1 Wr.heap.size 51 Z ∧ Wr.grownBy W1 none := box_new Wr _ _
  have hs0 : W0.heap.size = w.heap.size + 1 := by rw [hW0]; simp
  have hsr : Wr.heap.size = w.heap.size + 2 := by rw [hWr, hW0]; simp
  rw [hs0] at hBr
  rw [hsr] at hB1
  have hBo := (hB0.kept gr (by simp)).kept g1 (by simp)
  have hBr1 := hBr.kept g1 (by simp)
  have c0 := hBo.cell 0
  have c1 := hBo.cell 1
  simp only [List.getElem?_cons_zero, List.getElem?_cons_succ] at c0 c1
  have G1 := tn (tn g0 gr) g1
  have hs1 : W1.heap.size = w.heap.size + 3 := by rw [hW1, hWr, hW0]; simp
  have hW : W1 = ((w.alloc (.cells #[.int .i64 k, .slice ao n c] 24)).alloc (.cells Z.toArray 51)).alloc (.cells Z.toArray 51) := by rw [hW1, hWr, hW0]
  have HW := hide hW
  have hiZ : (Tryz.prog.info? 51).map (·.size) = some Z.toArray.size := by rw [show Z.toArray.size = 34 by simpa using hZl]; exact info_mrk
  have HIZ := hide hiZ
  have HZB := hide hzb
  have HZO := hide hZo
  have HBR := hide hBr1
  have HZ := hide hZ
  have HZL := hide hZl
  have HG1 := hide G1
  clear hiZ hzb hZo
  by_cases hk : k = 4
  · subst hk
    have cf := formed_M w W1 G1 ao c d hb (by omega) (w.heap.size + 2) 4 (ofMrk (readM d)) (fun V => KeptM (w.heap.size + 2) (readM d) V ∧ Blk V (w.heap.size + 1) 51 Z) (fun a b h g => ⟨h.1.none g, h.2.kept g (by simp)⟩)
      (fun V rb bc gu gw hrb hRd hbk => (cloM_any w V rb (w.heap.size + 2) d (by omega) _ hZl gu (by omega) (by omega) (by omega) hRd (hB1.kept gw (by simp)) W1.heap.size bc hbk (by omega) (by omega) (w.heap.size + 1) _ Z (hBr1.kept gw (by simp)) (by omega) (by omega)))
    rw [← hn] at cf
    rw [← hn]
    have hT : telM 4 d = (if ofMrk (readM d) = (0, d) then (0, readM d) else (11, zeroMk)) := by simp [telM]
    obtain ⟨t, ht⟩ : ∃ t, t = telM 4 d := ⟨_, rfl⟩
    rw [← ht] at hT ⊢
    obtain ⟨y, hy⟩ : ∃ y : Int, y = (if ofMrk (readM d) = (0, d) then 0 else 11) := ⟨_, rfl⟩
    rw [← hy] at cf
    have hyc : (y = 0 ∧ t = (0, readM d)) ∨ (y = 11 ∧ t = (11, zeroMk)) := by
      by_cases hq : ofMrk (readM d) = (0, d)
      · left; rw [hT, hy, if_pos hq, if_pos hq]; exact ⟨rfl, rfl⟩
      · right; rw [hT, hy, if_neg hq, if_neg hq]; exact ⟨rfl, rfl⟩
    have hok := readM_ok d
    clear hW1 hW0 hW hB0 hB1 hBo g0 g1 hT hy hn ht hs0 hs1 hb hd hWr hBr hBr1 gr hsr hZ hZl G1
    rcases hyc with ⟨rfl, ht⟩ | ⟨rfl, ht⟩
    · have HT := hide ht
      clear ht
      go_enter Tryz.func11, Tryz.ntmps11
      go_wp2_with (rw [← unhide HW])
      refine cf.mono ?_
      rintro e w2 ⟨rfl, ⟨hB2, hB3⟩, g2⟩
      obtain ⟨C, hC⟩ : ∃ C, C = mkC (readM d) := ⟨_, rfl⟩
      unfold KeptM at hB2
      rw [← hC] at hB2
      have hCl : C.length = 34 := by rw [hC]; exact mkC_len _ hok.1
      have hCo : C.toArray.all (·.oneCell') = true := by rw [hC]; exact all_oneCell_toArray (mkC_one _)
      have hr2 := blk_all hB2
      have hiC : (Tryz.prog.info? 51).map (·.size) = some C.length := by rw [hCl]; exact info_mrk
      have hiC2 : (Tryz.prog.info? 51).map (·.size) = some C.toArray.size := by simpa using hiC
      have hZC : Z.toArray.size = C.toArray.size := by have := unhide HZL; simp [this, hCl]
      have HIC := hide hiC
      have HIC2 := hide hiC2
      have HZC := hide hZC
      have HCO := hide hCo
      have HC := hide hC
      have HB2 := hide hB2
      clear cf c0 c1 hiC hiC2 hZC hCo hC hCl hB2 hok
      go_wp2_with (first
        | (refine wpList_load_mid rfl 51 _ rfl (w.heap.size + 2) 0 rfl C _ hr2 Tryz.underlying51 rfl (unhide HIC) ?_; clear hr2)
        | (refine wpList_store_row rfl 51 _ _ rfl (w.heap.size + 1) C.toArray rfl rfl _ _ hB3 (unhide HIC2) (unhide HZC) (unhide HCO) ?_))
      refine bodyPost_ret (results_row_tmp rfl _ _ _ _ _ _ _ rfl (hB3.row C) Tryz.underlying51 rfl (unhide HIC2)) rfl ?_
      have gF := gb_row g2 C.toArray (Or.inl (Nat.le_succ w.heap.size))
      rw [unhide HT]
      rw [unhide HC] at gF ⊢
      exact ⟨0, rfl, rfl, gF⟩
    · have HT := hide ht
      clear ht
      go_enter Tryz.func11, Tryz.ntmps11
      go_wp2_with (rw [← unhide HW])
      refine cf.mono ?_
      rintro e w2 ⟨rfl, ⟨hkp, hB3⟩, g2⟩
      clear cf hkp c0 c1 hok
      go_wp2_with (first
        | (refine wpList_built rfl 51 _ rfl Z.toArray ?hbs ?_)
        | (refine wpList_store_row rfl 51 _ _ rfl (w.heap.size + 1) Z.toArray rfl rfl _ _ hB3 (unhide HIZ) rfl (unhide HZO) ?_))
      case hbs => simpa using unhide HZB
      refine bodyPost_ret (results_row_tmp rfl _ _ _ _ _ _ _ rfl (hB3.row Z) Tryz.underlying51 rfl (unhide HIZ)) rfl ?_
      have gF := gb_row g2 Z.toArray (Or.inl (Nat.le_succ w.heap.size))
      rw [unhide HT]
      rw [unhide HZ] at gF ⊢
      exact ⟨_, rfl, rfl, gF⟩
  · have cf := formed_no W1 k 4 (by simpa using hk) ao n c (.func (.func 39) #[] #[.pointer (some ⟨w.heap.size + 2, 0, none⟩)])
    rw [← hn]
    have ht : telM k d = (2, zeroMk) := by simp [telM, hk]
    have HT := hide ht
    clear hW1 hW0 hW hB0 hB1 hBo g0 g1 hn ht hs0 hs1 hb hd hWr hBr hBr1 gr hsr hZ hZl G1
    go_enter Tryz.func11, Tryz.ntmps11
    go_wp2_with (rw [← unhide HW])
    refine cf.mono ?_
    rintro e w2 ⟨rfl, g2a⟩
    have g2 := tn (unhide HG1) g2a
    have hB3 := (unhide HBR).kept g2a (by simp)
    clear cf c0 c1
    go_wp2_with (first
      | (refine wpList_built rfl 51 _ rfl Z.toArray ?hbs ?_)
      | (refine wpList_store_row rfl 51 _ _ rfl (w.heap.size + 1) Z.toArray rfl rfl _ _ hB3 (unhide HIZ) rfl (unhide HZO) ?_))
    case hbs => simpa using unhide HZB
    refine bodyPost_ret (results_row_tmp rfl _ _ _ _ _ _ _ rfl (hB3.row Z) Tryz.underlying51 rfl (unhide HIZ)) rfl ?_
    have gF := gb_row g2 Z.toArray (Or.inl (Nat.le_succ w.heap.size))
    rw [unhide HT]
    rw [unhide HZ] at gF ⊢
    exact ⟨_, rfl, rfl, gF⟩

end Go.Proofs.YtcemdlcimhoeeaaGreatDoor

/- What object's linked answers: what is wrong with an object, and the objects that it names. Of any object. -/
namespace Go.Proofs.YtcemdlcimhoeeaaGreatDoor
open Go.RowKit

/-- What linked tells. -/
def Linked (w w' : World) (k : Int) (d : List UInt8) (e : Ending) : Prop := ∃ v y, e = .returned (.tuple #[v, .int .i64 y]) ∧ y = checkL k d ∧ w'.ownsRow w.heap.size 38 32 v (linksL k d).length ((linksL k d).flatMap (·.map bv)) ∧ w.grownBy w' none

theorem Linked.bad {w w' : World} {k : Int} {d : List UInt8} {y : Int} (hy : checkL k d = y) (h0 : y ≠ 0) (g : w.grownBy w' none) : Linked w w' k d (.returned (.tuple #[.slice none 0 0, .int .i64 y])) := by
  have hl : linksL k d = [] := by unfold linksL; rw [hy, if_pos h0]
  exact ⟨_, y, rfl, hy.symm, by rw [hl]; exact World.ownsRow_nil _ _ _ _, g⟩

theorem check2 (d : List UInt8) (h : d.length ≤ 16384) : checkL 2 d = (telT 2 d).1 ∧ ((telT 2 d).1 = 0 → linksL 2 d = (telT 2 d).2.map (·.id)) ∧ ((telT 2 d).1 = 0 ∨ (telT 2 d).1 = 11 ∧ (telT 2 d).2 = []) := by
  have h1 : ¬ 16384 < d.length := by omega
  have hc : checkL 2 d = errO (treeOf d) := by simp [checkL, h1]
  by_cases hq : ofTree (readT d) = (0, d)
  · have e1 : treeOf d = some (readT d) := by simp [treeOf, hq]
    have e2 : telT 2 d = (0, readT d) := by simp [telT, hq]
    refine ⟨by rw [hc, e1, e2]; rfl, fun _ => ?_, by rw [e2]; exact Or.inl rfl⟩
    unfold linksL
    rw [hc, e1, e2]
    simp [errO]
  · have e1 : treeOf d = none := by simp [treeOf, hq]
    have e2 : telT 2 d = (11, []) := by simp [telT, hq]
    refine ⟨by rw [hc, e1, e2]; rfl, fun h => ?_, by rw [e2]; exact Or.inr ⟨rfl, rfl⟩⟩
    rw [e2] at h
    exact absurd h (by decide)
theorem check3 (d : List UInt8) (h : d.length ≤ 16384) : checkL 3 d = (telC 3 d).1 ∧ ((telC 3 d).1 = 0 → linksL 3 d = (telC 3 d).2.tree :: (telC 3 d).2.pars) ∧ ((telC 3 d).1 = 0 ∨ (telC 3 d).1 = 11) ∧ (telC 3 d).2.tree.length = 32 ∧ (∀ x ∈ (telC 3 d).2.pars, x.length = 32) ∧ (telC 3 d).2.pars.length ≤ 4 := by
  have h1 : ¬ 16384 < d.length := by omega
  have hc : checkL 3 d = errO (chgOf d) := by simp [checkL, h1]
  by_cases hq : ofChg (readC d) = (0, d)
  · have e1 : chgOf d = some (readC d) := by simp [chgOf, hq]
    have e2 : telC 3 d = (0, readC d) := by simp [telC, hq]
    have hok := readC_ok d
    refine ⟨by rw [hc, e1, e2]; rfl, fun _ => ?_, by rw [e2]; exact Or.inl rfl, by rw [e2]; exact hok.1, by rw [e2]; exact hok.2.1, by rw [e2]; exact hok.2.2.1⟩
    unfold linksL
    rw [hc, e1, e2]
    simp [errO]
  · have e1 : chgOf d = none := by simp [chgOf, hq]
    have e2 : telC 3 d = (11, zeroCh) := by simp [telC, hq]
    refine ⟨by rw [hc, e1, e2]; rfl, fun h => ?_, by rw [e2]; exact Or.inr rfl, by rw [e2]; rfl, by rw [e2]; intro x hx; simp [zeroCh] at hx, by rw [e2]; exact Nat.zero_le _⟩
    rw [e2] at h
    exact absurd h (by decide)
theorem check4 (d : List UInt8) (h : d.length ≤ 16384) : checkL 4 d = (telM 4 d).1 ∧ ((telM 4 d).1 = 0 → linksL 4 d = [(telM 4 d).2.target]) ∧ ((telM 4 d).1 = 0 ∨ (telM 4 d).1 = 11) ∧ (telM 4 d).2.target.length = 32 := by
  have h1 : ¬ 16384 < d.length := by omega
  have hc : checkL 4 d = errO (mrkOf d) := by simp [checkL, h1]
  by_cases hq : ofMrk (readM d) = (0, d)
  · have e1 : mrkOf d = some (readM d) := by simp [mrkOf, hq]
    have e2 : telM 4 d = (0, readM d) := by simp [telM, hq]
    refine ⟨by rw [hc, e1, e2]; rfl, fun _ => ?_, by rw [e2]; exact Or.inl rfl, by rw [e2]; exact (readM_ok d).1⟩
    unfold linksL
    rw [hc, e1, e2]
    simp [errO]
  · have e1 : mrkOf d = none := by simp [mrkOf, hq]
    have e2 : telM 4 d = (11, zeroMk) := by simp [telM, hq]
    refine ⟨by rw [hc, e1, e2]; rfl, fun h => ?_, by rw [e2]; exact Or.inr rfl, by rw [e2]; rfl⟩
    rw [e2] at h
    exact absurd h (by decide)

theorem linked_arg (w : World) (k : Int) (hk : k < 1 ∨ 4 < k) (ao : Option Addr) (c : Nat) (d : List UInt8) : Calls Tryz.prog 23 #[.agg #[.int .i64 k, .slice ao d.length c]] w fun e w' => Linked w w' k d e := by
  have hc : checkL k d = 2 := by unfold checkL; rw [if_pos hk]
  have HC := hide hc
  obtain ⟨n, hn⟩ : ∃ n, n = d.length := ⟨_, rfl⟩
  rw [← hn]
  clear hc hn
  by_cases h1 : k < 1
  · have g0 : w.grownBy (w.alloc (.cells #[.int .i64 k, .slice ao n c] 24)) none := gb_alloc (gb_refl _ _) _
    clear hk
    go_enter Tryz.func23, Tryz.ntmps23
    go_wp2
    refine bodyPost_ret (v := .tuple #[.slice none 0 0, .int .i64 2]) (by simp [results, Tryz.results23, go_sem]) rfl ?_
    exact Linked.bad (unhide HC) (by decide) g0
  · have h2 : 4 < k := by omega
    have g0 : w.grownBy (w.alloc (.cells #[.int .i64 k, .slice ao n c] 24)) none := gb_alloc (gb_refl _ _) _
    clear hk
    go_enter Tryz.func23, Tryz.ntmps23
    go_wp2
    refine bodyPost_ret (v := .tuple #[.slice none 0 0, .int .i64 2]) (by simp [results, Tryz.results23, go_sem]) rfl ?_
    exact Linked.bad (unhide HC) (by decide) g0

theorem linked_big (w : World) (k : Int) (h1 : ¬ k < 1) (h4 : ¬ 4 < k) (ao : Option Addr) (c : Nat) (d : List UInt8) (hd : 16384 < d.length) : Calls Tryz.prog 23 #[.agg #[.int .i64 k, .slice ao d.length c]] w fun e w' => Linked w w' k d e := by
  have hc : checkL k d = 3 := by unfold checkL; rw [if_neg (by omega), if_pos hd]
  have HC := hide hc
  obtain ⟨n, hn⟩ : ∃ n, n = d.length := ⟨_, rfl⟩
  have hd2 : (16384 : Int) < (n : Int) := by omega
  rw [← hn]
  clear hc hn hd
  have g0 : w.grownBy (w.alloc (.cells #[.int .i64 k, .slice ao n c] 24)) none := gb_alloc (gb_refl _ _) _
  go_enter Tryz.func23, Tryz.ntmps23
  go_wp2
  refine bodyPost_ret (v := .tuple #[.slice none 0 0, .int .i64 3]) (by simp [results, Tryz.results23, go_sem]) rfl ?_
  exact Linked.bad (unhide HC) (by decide) g0

theorem linked_blob (w : World) (ao : Option Addr) (c : Nat) (d : List UInt8) (hd : d.length ≤ 16384) : Calls Tryz.prog 23 #[.agg #[.int .i64 1, .slice ao d.length c]] w fun e w' => Linked w w' 1 d e := by
  have hc : checkL 1 d = 0 := by unfold checkL; rw [if_neg (by omega), if_neg (by omega)]; rfl
  have hl : linksL 1 d = [] := by unfold linksL; rw [hc]; rfl
  have HC := hide hc
  have HL := hide hl
  obtain ⟨n, hn⟩ : ∃ n, n = d.length := ⟨_, rfl⟩
  have hd2 : ¬ (16384 : Int) < (n : Int) := by omega
  rw [← hn]
  clear hc hn hd hl
  have g0 : w.grownBy (w.alloc (.cells #[.int .i64 1, .slice ao n c] 24)) none := gb_alloc (gb_refl _ _) _
  go_enter Tryz.func23, Tryz.ntmps23
  go_wp2
  refine bodyPost_ret (v := .tuple #[.slice none 0 0, .int .i64 0]) (by simp [results, Tryz.results23, go_sem]) rfl ?_
  exact ⟨_, 0, rfl, (unhide HC).symm, by rw [unhide HL]; exact World.ownsRow_nil _ _ _ _, g0⟩

/-- 'append(own, x...)', x names of objects that lie in memory. -/
theorem wpList_append_idl {w : World} {ops : Array Oper} {rest : List Oper} {o : Oper} {a : Act} {Q : Exit → Act → World → Prop} (hgd : o.guard = none) (s x : Operand)
    (ho : o.op = .call { callee := .builtin .append, args := #[s, x], argTypes := #[39, 39] })
    (base : Nat) (v : Value) (n : Nat) (xs : List Value) (hs : a.eval s = v) (hown : w.ownsRow base 38 32 v n xs)
    (ao : Option Addr) (c : Nat) (ps : List (List UInt8)) (hP : Ids w ao c ps) (hx : a.eval x = .slice ao ps.length c) (hn : n + ps.length ≤ 100000) (hbase : base ≤ w.heap.size)
    (h : ∀ v' w', w'.ownsRow base 38 32 v' (n + ps.length) (xs ++ ps.flatMap (·.map bv)) → w.grownBy w' v.ownBlock → wpList Tryz.prog ops Q rest (a.put o.dst v') w') : wpList Tryz.prog ops Q (o :: rest) a w := by
  obtain ⟨i0, hi, hz0, hz1, hz2⟩ := info_parts info_idp
  cases ao with
  | none =>
    have hz := hP.zip rfl
    have hx0 : ps = [] := List.eq_nil_of_length_eq_zero hz.1
    have hc0 := hz.2
    subst hx0 hc0
    exact wpList_append_own_none hgd s x 39 ho base 38 i0 32 Tryz.underlying39 hi v n xs hs hown hx (h v w (by simpa using hown) (gb_refl _ _))
  | some ad =>
    refine wpList_append_own w hgd s x 39 ho base 38 i0 _ 32 32 Tryz.underlying39 hi hz0 hz1 hz2 rfl (by decide) v n xs hs hown ad ps.length c (ps.flatMap (·.map bv)) hx (flat_len2 _ 32 ps (fun x hx => by simp [hP.ids x hx])) ?_ ?_ (by unfold maxLen; omega) (by omega) hbase (fun v' w' q1 q2 _ => h v' w' q1 q2)
    · intro j u hu
      have hl := flat_len2 (fun x : List UInt8 => x.map bv) 32 ps (fun x hx => by simp [hP.ids x hx])
      have hj := (List.getElem?_eq_some_iff.1 hu).1
      rw [hl] at hj
      have hq : j / 32 < ps.length := by omega
      have hs2 := hP.shape ad rfl (by omega)
      have hr := hP.row ad rfl (j / 32) hq
      rw [show j = j / 32 * 32 + j % 32 by omega, flat_at (fun x : List UInt8 => x.map bv) 32 ps (fun x hx => by simp [hP.ids x hx]) (j / 32) (j % 32) hq (by omega)] at hu
      have h5 := hr (j % 32) u hu
      obtain ⟨b, o, sp⟩ := ad
      simp only at hs2 h5
      subst hs2
      rw [Addr.add_lit]
      rw [show o + j = o + j / 32 * 32 + j % 32 by omega]
      exact h5
    · intro u hu
      obtain ⟨x, _, hx⟩ := List.mem_flatMap.1 hu
      exact bv_one _ u hx

end Go.Proofs.YtcemdlcimhoeeaaGreatDoor

/- What object's linked answers of trees, commits and notes; and Check. -/
namespace Go.Proofs.YtcemdlcimhoeeaaGreatDoor
open Go.RowKit

theorem ids_take (es : List EntL) (j : Nat) (hj : j < es.length) : ((es.take (j + 1)).map (·.id)).flatMap (·.map bv) = ((es.take j).map (·.id)).flatMap (·.map bv) ++ es[j].id.map bv := by
  rw [List.take_succ_eq_append_getElem hj, List.map_append, List.flatMap_append]
  simp only [List.map_cons, List.map_nil, List.flatMap_cons, List.flatMap_nil, List.append_nil]

theorem telT_len (k : Int) (d : List UInt8) : (telT k d).2.length ≤ 32 := by
  unfold telT
  split
  · split
    · unfold readT
      simp only [runE_len]
      exact Nat.min_le_right _ _
    · exact Nat.zero_le _
  · exact Nat.zero_le _

set_option maxRecDepth 100000 in
set_option maxHeartbeats 4000000 in
theorem linked_tree (w : World) (ao : Option Addr) (c : Nat) (d : List UInt8) (hb : Bts w ao c d) (hd : d.length ≤ 16384) : Calls Tryz.prog 23 #[.agg #[.int .i64 2, .slice ao d.length c]] w fun e w' => Linked w w' 2 d e := by
  obtain ⟨k1, k2, k3⟩ := check2 d hd
  obtain ⟨n, hn⟩ : ∃ n, n = d.length := ⟨_, rfl⟩
  have hd2 : ¬ (16384 : Int) < (n : Int) := by omega
  obtain ⟨W0, hW0, hB0, g0⟩ : ∃ W1, W1 = w.alloc (.cells #[.int .i64 2, .slice ao n c] 24) ∧ Blk W1 w.heap.size 24 [.int .i64 2, .slice ao n c] ∧ w.grownBy W1 none := box_new w _ _
  have c0 := hB0.cell 0
  have c1 := hB0.cell 1
  simp only [List.getElem?_cons_zero, List.getElem?_cons_succ] at c0 c1
  have ct := treeOf_any W0 2 ao c d (hb.kept g0 (fun _ e => by cases e)) (by omega)
  obtain ⟨t, ht⟩ : ∃ t, t = telT 2 d := ⟨_, rfl⟩
  rw [← ht] at ct k1 k2 k3
  rw [← hn] at ct ⊢
  have hids : ∀ e ∈ t.2, e.id.length = 32 := by
    rw [ht]
    unfold telT
    split
    · split
      · exact readT_ids d
      · intro e he; simp at he
    · intro e he; simp at he
  have HLN := hide (show t.2.length ≤ 32 by rw [ht]; exact telT_len 2 d)
  obtain ⟨Z, hZ, hzv⟩ := zero_ent
  have HW0 := hide hW0
  have HK1 := hide k1
  have HK2 := hide k2
  have HK3 := hide k3
  have HIDS := hide hids
  have HZ := hide hZ
  have HG0 := hide g0
  clear k1 k2 k3 hn hW0 hB0 g0 hb hd ht hids hZ
  go_enter Tryz.func23, Tryz.ntmps23
  go_wp2_with (rw [← unhide HW0])
  refine ct.mono ?_
  rintro e w1 ⟨v1, y, rfl, hy, ho1, g1⟩
  obtain ⟨eo, ec, hv1⟩ := own_sl ho1
  subst hv1
  have hE1 : Ens w1 eo ec t.2 := by
    obtain ⟨ao2, c2, e1, e2⟩ := Ens.own ho1 (unhide HIDS)
    injection e1 with e3 e4 e5
    subst e3 e5
    exact e2
  have G1 := tn (unhide HG0) g1
  obtain ⟨es, hes⟩ : ∃ es, es = t.2 := ⟨_, rfl⟩
  rw [← hes] at hE1
  rw [← hes]
  obtain ⟨m, hm⟩ : ∃ m, m = es.length := ⟨_, rfl⟩
  rw [← hm]
  have hm9 : m ≤ 32 := by rw [hm, hes]; exact unhide HLN
  have HE := hide hE1
  have HM := hide hm
  have HES := hide hes
  have HY := hide hy
  have HG1 := hide G1
  clear ct ho1 hE1 g1 hes hm hy c0 c1 G1
  go_wp2
  go_loopw [4, 34] (fun v i wr => ∃ j : Nat, i = .int .i64 j ∧ j ≤ m ∧ wr.ownsRow w1.heap.size 38 32 v j (((es.take j).map (·.id)).flatMap (·.map bv)) ∧ w1.grownBy wr none) (fun _ i _ => m - (intOf i).toNat)
  case atStart => exact ⟨0, rfl, Nat.zero_le _, World.ownsRow_nil _ _ _ _, gb_refl _ _⟩
  case round =>
    obtain ⟨j, rfl, hj, ho, hg⟩ := hrel
    by_cases hlt : j < m
    · have hlt' : j < es.length := by have := unhide HM; omega
      obtain ⟨b, o, hao, hrow⟩ := (unhide HE).at j hlt'
      have hr := range_kept (hrow j hlt') hg (by simp)
      have hid := (unhide HE).ids _ (List.getElem_mem hlt')
      have hnew := ids_take es j hlt'
      obtain ⟨E, hEE⟩ : ∃ E, E = es[j] := ⟨_, rfl⟩
      rw [← hEE] at hr hid hnew
      clear hrow hEE hlt'
      subst hao
      obtain ⟨nm, D, id⟩ := E
      simp only at hid hnew
      obtain ⟨EC, hEC⟩ : ∃ L, L = enC ⟨nm, D, id⟩ := ⟨_, rfl⟩
      have hEl : EC.length = 34 := by rw [hEC]; exact enC_len _ hid
      have hEo : EC.toArray.all (·.oneCell') = true := by rw [hEC]; exact all_oneCell_toArray (enC_one _)
      obtain ⟨W, hW, hB, gW⟩ := row_new wr 97 Z EC
      have hRI : W.rangeAt wr.heap.size 2 (id.map bv) := by
        have := blk_all hB
        rw [hEC] at this
        simpa using en_id this
      rw [← hEC] at hr
      obtain ⟨IC, hIC⟩ : ∃ I, I = id.map bv := ⟨_, rfl⟩
      have hbs := bs_id id hid W
      rw [← hIC] at hRI hbs hnew
      have hIl : IC.length = 32 := by rw [hIC, List.length_map, hid]
      have hI1 : ∀ u ∈ IC, u.oneCell' = true := by rw [hIC]; exact bv_one _
      obtain ⟨W5, hW5, hB5, g5⟩ := box_new W 38 IC
      have ho5 := own_id (own_id ho gW (fun x e => by cases e)) g5 (fun x e => by cases e)
      have G5 := tn (tn hg gW) g5
      have HW := hide hW
      have HW5 := hide hW5
      have HEO := hide hEo
      have HNW := hide hnew
      have HRI := hide hRI
      have HBS := hide hbs
      have HIL := hide hIl
      have HI1 := hide hI1
      have HB5 := hide hB5
      have HO5 := hide ho5
      have HG5 := hide G5
      have hiE : (Tryz.prog.info? 97).map (·.size) = some EC.length := by rw [hEl]; exact info_ent
      have HIE := hide hiE
      have hiI : (Tryz.prog.info? 38).map (·.size) = some IC.length := by rw [hIl]; exact info_id
      have HII := hide hiI
      have hZE : Z.size = EC.toArray.size := by rw [unhide HZ]; simp [hEl]
      have HZE := hide hZE
      have hj9 : j ≤ 100000 := by omega
      clear hW hB hEC hEo hnew hRI hIC hbs hIl hI1 hW5 hB5 g5 ho5 G5 hiE hiI hZE ho hg gW hid hEl
      go_wp2_with (first
        | (refine wpList_load_mid rfl 97 _ rfl b (o + j * 34) rfl EC _ hr Tryz.underlying97 rfl (unhide HIE) ?_; clear hr)
        | (refine wpList_store_row rfl 97 _ _ rfl wr.heap.size EC.toArray rfl rfl _ _ (heap_alloc_new _ _) (by simpa using unhide HIE) (unhide HZE) (unhide HEO) ?_; rw [← unhide HW])
        | (refine wpList_load_mid rfl 38 _ rfl wr.heap.size 2 rfl IC _ (unhide HRI) Tryz.underlying38 rfl (unhide HII) ?_)
        | (refine wpList_build1 rfl 39 _ rfl (.agg IC.toArray) _ rfl (unhide HBS) ?_; rw [← unhide HW5])
        | (refine wpList_append_id rfl _ _ rfl w1.heap.size _ _ _ rfl (unhide HO5) _ IC (unhide HB5) (unhide HIL) (unhide HI1) rfl hj9 (unhide HG5).size ?_; intro v6 w6 ho6 g6; have HO6 := hide ho6; have HG6 := hide (gb_trans (unhide HG5) g6 (fun x e => Or.inl ((unhide HO5).lt x e).1)); clear ho6 g6 HO5 HG5))
      go_roundw
      case rel =>
        refine ⟨j + 1, by go_num, by omega, ?_, unhide HG6⟩
        rw [unhide HNW]
        exact unhide HO6
      case measure => simp [intOf]; omega
    · have hjn : j = es.length := by have := unhide HM; omega
      have hfin : wr.ownsRow w.heap.size 38 32 u4 (es.map (·.id)).length ((es.map (·.id)).flatMap (·.map bv)) := by
        have h1 := own_low ho (unhide HG1).size
        rw [hjn, List.take_of_length_le (Nat.le_refl _)] at h1
        rw [List.length_map]; exact h1
      have HF := hide hfin
      have HG := hide (tn (unhide HG1) hg)
      clear hjn hfin ho hg
      rcases (unhide HK3) with h0 | ⟨h11, hnil⟩
      · have hy0 : y = 0 := by rw [unhide HY, h0]
        subst hy0
        have hl : linksL 2 d = es.map (·.id) := by rw [unhide HK2 h0, unhide HES]
        have hc : checkL 2 d = 0 := by rw [unhide HK1, h0]
        have HLL := hide hl
        have HCC := hide hc
        clear hl hc h0
        go_wp2
        refine bodyPost_ret (v := .tuple #[u4, .int .i64 0]) (by simp [results, Tryz.results23, go_sem]) rfl ?_
        exact ⟨u4, 0, rfl, (unhide HCC).symm, by rw [unhide HLL]; exact unhide HF, unhide HG⟩
      · have hy0 : y = 11 := by rw [unhide HY, h11]
        subst hy0
        have hc : checkL 2 d = 11 := by rw [unhide HK1, h11]
        have HCC := hide hc
        clear hc h11 hnil
        go_wp2
        refine bodyPost_ret (v := .tuple #[.slice none 0 0, .int .i64 11]) (by simp [results, Tryz.results23, go_sem]) rfl ?_
        exact Linked.bad (unhide HCC) (by decide) (unhide HG)

theorem own_made1 (V : World) (base : Nat) (IC : List Value) (hb : base ≤ V.heap.size) (hl : IC.length = 32) : (V.alloc (.cells IC.toArray 38)).ownsRow base 38 32 (.slice (some ⟨V.heap.size, 0, none⟩) 1 1) 1 IC :=
  ⟨by simp [hl], .inr ⟨V.heap.size, 1, IC.toArray, rfl, hb, heap_alloc_new V _, Nat.le_refl _, by decide, by simp [hl], by simp [hl, List.take_of_length_le]⟩⟩

set_option maxRecDepth 100000 in
set_option maxHeartbeats 4000000 in
theorem linked_chg (w : World) (ao : Option Addr) (c : Nat) (d : List UInt8) (hb : Bts w ao c d) (hd : d.length ≤ 16384) : Calls Tryz.prog 23 #[.agg #[.int .i64 3, .slice ao d.length c]] w fun e w' => Linked w w' 3 d e := by
  obtain ⟨k1, k2, k3, k4, k5, k6⟩ := check3 d hd
  obtain ⟨n, hn⟩ : ∃ n, n = d.length := ⟨_, rfl⟩
  have hd2 : ¬ (16384 : Int) < (n : Int) := by omega
  obtain ⟨Z, hZ⟩ : ∃ Z : List Value, Z = chC zeroCh none 0 := ⟨_, rfl⟩
  have hzv : ∀ w, (zeroValue 42).run Tryz.prog w = .ok (.agg Z.toArray) w := fun w => by rw [hZ]; kernel_rfl
  have hZl : Z.length = 36 := by rw [hZ]; rfl
  obtain ⟨W0, hW0, hB0, g0⟩ : ∃ W1, W1 = w.alloc (.cells #[.int .i64 3, .slice ao n c] 24) ∧ Blk W1 w.heap.size 24 [.int .i64 3, .slice ao n c] ∧ w.grownBy W1 none := box_new w _ _
  obtain ⟨W1, hW1, hB1, g1⟩ : ∃ W1, W1 = W0.alloc (.cells Z.toArray 42) ∧ Blk W1 W0.heap.size 42 Z ∧ W0.grownBy W1 none := box_new W0 _ _
  have hs0 : W0.heap.size = w.heap.size + 1 := by rw [hW0]; simp
  rw [hs0] at hB1
  have hBo := hB0.kept g1 (by simp)
  have b0 := hBo.cell 0
  have b1 := hBo.cell 1
  simp only [List.getElem?_cons_zero, List.getElem?_cons_succ] at b0 b1
  have G1 := tn g0 g1
  have ct := changeOf_any W1 3 ao c d (hb.kept G1 (fun _ e => by cases e)) (by omega)
  obtain ⟨t, ht⟩ : ∃ t, t = telC 3 d := ⟨_, rfl⟩
  rw [← ht] at ct k1 k2 k3 k4 k5 k6
  rw [← hn] at ct ⊢
  have hW : W1 = (w.alloc (.cells #[.int .i64 3, .slice ao n c] 24)).alloc (.cells Z.toArray 42) := by rw [hW1, hW0]
  have HW1 := hide hW
  have HK1 := hide k1
  have HK2 := hide k2
  have HK3 := hide k3
  have HK4 := hide k4
  have HK5 := hide k5
  have HK6 := hide k6
  have HB1 := hide hB1
  have HG1 := hide G1
  have HZL := hide hZl
  clear k1 k2 k3 k4 k5 k6 hn hW0 hB0 g0 hb hd ht hZ hW1 hW hBo g1 hs0 hB1 G1 hZl
  go_enter Tryz.func23, Tryz.ntmps23
  go_wp2_with (rw [← unhide HW1])
  refine ct.mono ?_
  rintro e w2 ⟨po, pc, y, rfl, hy, ho2, g2⟩
  have hBp := (unhide HB1).kept g2 (by simp)
  have G2 := tn (unhide HG1) g2
  obtain ⟨C, hC⟩ : ∃ C, C = chC t.2 po pc := ⟨_, rfl⟩
  rw [← hC]
  have hCl : C.length = 36 := by rw [hC]; exact chC_len _ _ _ (unhide HK4)
  have hCo : C.toArray.all (·.oneCell') = true := by rw [hC]; exact all_oneCell_toArray (chC_one _ _ _)
  obtain ⟨w3, hw3⟩ : ∃ V, V = w2.setRow (w.heap.size + 1) C.toArray := ⟨_, rfl⟩
  have hB3 : Blk w3 (w.heap.size + 1) 42 C := by rw [hw3]; exact hBp.row _
  have G3 : w.grownBy w3 none := by rw [hw3]; exact gb_row G2 _ (Or.inl (Nat.le_succ _))
  have hrT : w3.rangeAt (w.heap.size + 1) 0 (t.2.tree.map bv) := by
    have h1 := blk_all hB3
    rw [hC] at h1
    exact ch_tree h1
  obtain ⟨IC, hIC⟩ : ∃ I, I = t.2.tree.map bv := ⟨_, rfl⟩
  have hbs := bs_id t.2.tree (unhide HK4) w3
  rw [← hIC] at hrT hbs
  have hIl : IC.length = 32 := by rw [hIC, List.length_map, unhide HK4]
  obtain ⟨W5, hW5, hB5, g5⟩ := box_new w3 38 IC
  have ho5 : W5.ownsRow w3.heap.size 38 32 (.slice (some ⟨w3.heap.size, 0, none⟩) 1 1) 1 IC := by rw [hW5]; exact own_made1 w3 w3.heap.size IC (Nat.le_refl _) hIl
  have G5 := tn G3 g5
  have hiC : (Tryz.prog.info? 42).map (·.size) = some C.toArray.size := by rw [show C.toArray.size = 36 by simpa using hCl]; exact info_chg
  have hZC : Z.toArray.size = C.toArray.size := by have := unhide HZL; simp [this, hCl]
  have hiI : (Tryz.prog.info? 38).map (·.size) = some IC.length := by rw [hIl]; exact info_id
  have hcp : W5.cell? ⟨w.heap.size + 1, 32, none⟩ = some (.slice po t.2.pars.length pc) := by
    rw [(hB3.kept g5 (by simp)).cell 32, hC, (chC_at _ _ _ (unhide HK4)).1]
  have hO3 : w3.ownsRow w.heap.size 38 32 (.slice po t.2.pars.length pc) t.2.pars.length (t.2.pars.flatMap (·.map bv)) := by
    rw [hw3]; exact own_row_id (own_low ho2 (unhide HG1).size) hBp (by decide) _
  have hP5 : Ids W5 po pc t.2.pars := by
    obtain ⟨ao2, c2, e1, e2⟩ := Ids.own (own_id hO3 g5 (fun x e => by cases e)) (unhide HK5)
    injection e1 with e3 e4 e5
    subst e3 e5
    exact e2
  have hp9 : 1 + t.2.pars.length ≤ 100000 := by have := unhide HK6; omega
  obtain ⟨ps, hps⟩ : ∃ ps, ps = t.2.pars := ⟨_, rfl⟩
  rw [← hps] at hcp hP5 hp9
  have HPS := hide hps
  have HP5 := hide hP5
  have HIC := hide hiC
  have HZC := hide hZC
  have HII := hide hiI
  have HCO := hide hCo
  have HW3 := hide hw3
  have HW5 := hide hW5
  have HBP := hide hBp
  have HO5 := hide ho5
  have HG5 := hide G5
  have HS5 := hide g5.size
  have HIE := hide hIC
  have HY := hide hy
  have HBS := hide hbs
  have HS3 := hide G3.size
  clear hiC hZC hiI hCo hw3 hW5 hBp ho5 G5 hIC hy hbs hB5 g5 hIl hCl hC hB3 G3 G2 ct b0 b1 g2 ho2 hO3 hP5 hps
  rcases (unhide HK3) with h0 | h11
  · have hy0 : y = 0 := by rw [unhide HY, h0]
    subst hy0
    have hl : linksL 3 d = t.2.tree :: t.2.pars := unhide HK2 h0
    have hc : checkL 3 d = 0 := by rw [unhide HK1, h0]
    have HLL := hide hl
    have HCC := hide hc
    clear hl hc h0
    go_wp2_with (first
      | (refine wpList_store_row rfl 42 _ _ rfl (w.heap.size + 1) C.toArray rfl rfl _ _ (unhide HBP) (unhide HIC) (unhide HZC) (unhide HCO) ?_; rw [← unhide HW3])
      | (refine wpList_load_mid rfl 38 _ rfl (w.heap.size + 1) 0 rfl IC _ hrT Tryz.underlying38 rfl (unhide HII) ?_; clear hrT)
      | (refine wpList_build1 rfl 39 _ rfl (.agg IC.toArray) _ rfl (unhide HBS) ?_; rw [← unhide HW5])
      | (refine wpList_append_idl rfl _ _ rfl w3.heap.size _ _ _ rfl (unhide HO5) po pc ps (unhide HP5) rfl hp9 (unhide HS5) ?_; intro v6 w6 ho6 g6; have HO6 := hide ho6; have HG6 := hide (gb_trans (unhide HG5) g6 (fun x e => Or.inl (Nat.le_trans (unhide HS3) ((unhide HO5).lt x e).1))); clear ho6 g6))
    refine bodyPost_ret (v := .tuple #[v6, .int .i64 0]) (by simp [results, Tryz.results23, go_sem]) rfl ?_
    refine ⟨v6, 0, rfl, (unhide HCC).symm, ?_, unhide HG6⟩
    rw [unhide HLL, ← unhide HPS, List.length_cons, List.flatMap_cons, ← unhide HIE, Nat.add_comm]
    exact own_low (unhide HO6) (unhide HS3)
  · have hy0 : y = 11 := by rw [unhide HY, h11]
    subst hy0
    have hc : checkL 3 d = 11 := by rw [unhide HK1, h11]
    have HCC := hide hc
    clear hc h11
    go_wp2_with (first
      | (refine wpList_store_row rfl 42 _ _ rfl (w.heap.size + 1) C.toArray rfl rfl _ _ (unhide HBP) (unhide HIC) (unhide HZC) (unhide HCO) ?_; rw [← unhide HW3])
      | (refine wpList_load_mid rfl 38 _ rfl (w.heap.size + 1) 0 rfl IC _ hrT Tryz.underlying38 rfl (unhide HII) ?_; clear hrT)
      | (refine wpList_build1 rfl 39 _ rfl (.agg IC.toArray) _ rfl (unhide HBS) ?_; rw [← unhide HW5])
      | (refine wpList_append_idl rfl _ _ rfl w3.heap.size _ _ _ rfl (unhide HO5) po pc ps (unhide HP5) rfl hp9 (unhide HS5) ?_; intro v6 w6 ho6 g6; have HO6 := hide ho6; have HG6 := hide (gb_trans (unhide HG5) g6 (fun x e => Or.inl (Nat.le_trans (unhide HS3) ((unhide HO5).lt x e).1))); clear ho6 g6))
    refine bodyPost_ret (v := .tuple #[.slice none 0 0, .int .i64 11]) (by simp [results, Tryz.results23, go_sem]) rfl ?_
    exact Linked.bad (unhide HCC) (by decide) (unhide HG6)

set_option maxRecDepth 100000 in
set_option maxHeartbeats 4000000 in
theorem linked_mrk (w : World) (ao : Option Addr) (c : Nat) (d : List UInt8) (hb : Bts w ao c d) (hd : d.length ≤ 16384) : Calls Tryz.prog 23 #[.agg #[.int .i64 4, .slice ao d.length c]] w fun e w' => Linked w w' 4 d e := by
  obtain ⟨k1, k2, k3, k4⟩ := check4 d hd
  obtain ⟨n, hn⟩ : ∃ n, n = d.length := ⟨_, rfl⟩
  have hd2 : ¬ (16384 : Int) < (n : Int) := by omega
  obtain ⟨Z, hZ⟩ : ∃ Z : List Value, Z = mkC zeroMk := ⟨_, rfl⟩
  have hzv : ∀ w, (zeroValue 51).run Tryz.prog w = .ok (.agg Z.toArray) w := fun w => by rw [hZ]; kernel_rfl
  have hZl : Z.length = 34 := by rw [hZ]; rfl
  obtain ⟨W0, hW0, hB0, g0⟩ : ∃ W1, W1 = w.alloc (.cells #[.int .i64 4, .slice ao n c] 24) ∧ Blk W1 w.heap.size 24 [.int .i64 4, .slice ao n c] ∧ w.grownBy W1 none := box_new w _ _
  obtain ⟨W1, hW1, hB1, g1⟩ : ∃ W1, W1 = W0.alloc (.cells Z.toArray 51) ∧ Blk W1 W0.heap.size 51 Z ∧ W0.grownBy W1 none := box_new W0 _ _
  have hs0 : W0.heap.size = w.heap.size + 1 := by rw [hW0]; simp
  rw [hs0] at hB1
  have hBo := hB0.kept g1 (by simp)
  have b0 := hBo.cell 0
  have b1 := hBo.cell 1
  simp only [List.getElem?_cons_zero, List.getElem?_cons_succ] at b0 b1
  have G1 := tn g0 g1
  have ct := markOf_any W1 4 ao c d (hb.kept G1 (fun _ e => by cases e)) (by omega)
  obtain ⟨t, ht⟩ : ∃ t, t = telM 4 d := ⟨_, rfl⟩
  rw [← ht] at ct k1 k2 k3 k4
  rw [← hn] at ct ⊢
  have hW : W1 = (w.alloc (.cells #[.int .i64 4, .slice ao n c] 24)).alloc (.cells Z.toArray 51) := by rw [hW1, hW0]
  have HW1 := hide hW
  have HK1 := hide k1
  have HK2 := hide k2
  have HK3 := hide k3
  have HK4 := hide k4
  skip
  have HB1 := hide hB1
  have HG1 := hide G1
  have HZL := hide hZl
  clear k1 k2 k3 k4 hn hW0 hB0 g0 hb hd ht hZ hW1 hW hBo g1 hs0 hB1 G1 hZl
  go_enter Tryz.func23, Tryz.ntmps23
  go_wp2_with (rw [← unhide HW1])
  refine ct.mono ?_
  rintro e w2 ⟨y, rfl, hy, g2⟩
  have hBp := (unhide HB1).kept g2 (by simp)
  have G2 := tn (unhide HG1) g2
  obtain ⟨C, hC⟩ : ∃ C, C = mkC t.2 := ⟨_, rfl⟩
  rw [← hC]
  have hCl : C.length = 34 := by rw [hC]; exact mkC_len _ (unhide HK4)
  have hCo : C.toArray.all (·.oneCell') = true := by rw [hC]; exact all_oneCell_toArray (mkC_one _)
  obtain ⟨w3, hw3⟩ : ∃ V, V = w2.setRow (w.heap.size + 1) C.toArray := ⟨_, rfl⟩
  have hB3 : Blk w3 (w.heap.size + 1) 51 C := by rw [hw3]; exact hBp.row _
  have G3 : w.grownBy w3 none := by rw [hw3]; exact gb_row G2 _ (Or.inl (Nat.le_succ _))
  have hrT : w3.rangeAt (w.heap.size + 1) 0 (t.2.target.map bv) := by
    have h1 := blk_all hB3
    rw [hC] at h1
    exact mk_target h1
  obtain ⟨IC, hIC⟩ : ∃ I, I = t.2.target.map bv := ⟨_, rfl⟩
  have hbs := bs_id t.2.target (unhide HK4) w3
  rw [← hIC] at hrT hbs
  have hIl : IC.length = 32 := by rw [hIC, List.length_map, unhide HK4]
  obtain ⟨W5, hW5, hB5, g5⟩ := box_new w3 38 IC
  have ho5 : W5.ownsRow w3.heap.size 38 32 (.slice (some ⟨w3.heap.size, 0, none⟩) 1 1) 1 IC := by rw [hW5]; exact own_made1 w3 w3.heap.size IC (Nat.le_refl _) hIl
  have G5 := tn G3 g5
  have hiC : (Tryz.prog.info? 51).map (·.size) = some C.toArray.size := by rw [show C.toArray.size = 34 by simpa using hCl]; exact info_mrk
  have hZC : Z.toArray.size = C.toArray.size := by have := unhide HZL; simp [this, hCl]
  have hiI : (Tryz.prog.info? 38).map (·.size) = some IC.length := by rw [hIl]; exact info_id
  skip
  have HIC := hide hiC
  have HZC := hide hZC
  have HII := hide hiI
  have HCO := hide hCo
  have HW3 := hide hw3
  have HW5 := hide hW5
  have HBP := hide hBp
  have HO5 := hide ho5
  have HG5 := hide G5
  have HS5 := hide g5.size
  have HIE := hide hIC
  have HY := hide hy
  have HBS := hide hbs
  have HS3 := hide G3.size
  clear hiC hZC hiI hCo hw3 hW5 hBp ho5 G5 hIC hy hbs hB5 g5 hIl hCl hC hB3 G3 G2 ct b0 b1 g2 
  rcases (unhide HK3) with h0 | h11
  · have hy0 : y = 0 := by rw [unhide HY, h0]
    subst hy0
    have hl : linksL 4 d = [t.2.target] := unhide HK2 h0
    have hc : checkL 4 d = 0 := by rw [unhide HK1, h0]
    have HLL := hide hl
    have HCC := hide hc
    clear hl hc h0
    go_wp2_with (first
      | (refine wpList_store_row rfl 51 _ _ rfl (w.heap.size + 1) C.toArray rfl rfl _ _ (unhide HBP) (unhide HIC) (unhide HZC) (unhide HCO) ?_; rw [← unhide HW3])
      | (refine wpList_load_mid rfl 38 _ rfl (w.heap.size + 1) 0 rfl IC _ hrT Tryz.underlying38 rfl (unhide HII) ?_; clear hrT)
      | (refine wpList_build1 rfl 39 _ rfl (.agg IC.toArray) _ rfl (unhide HBS) ?_; rw [← unhide HW5]))
    refine bodyPost_ret (v := .tuple #[.slice (some ⟨w3.heap.size, 0, none⟩) 1 1, .int .i64 0]) (by simp [results, Tryz.results23, go_sem]) rfl ?_
    refine ⟨_, 0, rfl, (unhide HCC).symm, ?_, unhide HG5⟩
    rw [unhide HLL]
    simp only [List.length_cons, List.length_nil, List.flatMap_cons, List.flatMap_nil, List.append_nil, Nat.zero_add]
    rw [← unhide HIE]
    exact own_low (unhide HO5) (unhide HS3)
  · have hy0 : y = 11 := by rw [unhide HY, h11]
    subst hy0
    have hc : checkL 4 d = 11 := by rw [unhide HK1, h11]
    have HCC := hide hc
    clear hc h11
    go_wp2_with (first
      | (refine wpList_store_row rfl 51 _ _ rfl (w.heap.size + 1) C.toArray rfl rfl _ _ (unhide HBP) (unhide HIC) (unhide HZC) (unhide HCO) ?_; rw [← unhide HW3])
      | (refine wpList_load_mid rfl 38 _ rfl (w.heap.size + 1) 0 rfl IC _ hrT Tryz.underlying38 rfl (unhide HII) ?_; clear hrT)
      | (refine wpList_build1 rfl 39 _ rfl (.agg IC.toArray) _ rfl (unhide HBS) ?_; rw [← unhide HW5]))
    refine bodyPost_ret (v := .tuple #[.slice none 0 0, .int .i64 11]) (by simp [results, Tryz.results23, go_sem]) rfl ?_
    exact Linked.bad (unhide HCC) (by decide) (unhide HG5)

theorem linked_any (w : World) (k : Int) (ao : Option Addr) (c : Nat) (d : List UInt8) (hb : Bts w ao c d) : Calls Tryz.prog 23 #[.agg #[.int .i64 k, .slice ao d.length c]] w fun e w' => Linked w w' k d e := by
  by_cases hk : k < 1 ∨ 4 < k
  · exact linked_arg w k hk ao c d
  · by_cases hd : 16384 < d.length
    · exact linked_big w k (by omega) (by omega) ao c d hd
    · have h5 : k = 1 ∨ k = 2 ∨ k = 3 ∨ k = 4 := by omega
      rcases h5 with rfl | rfl | rfl | rfl
      · exact linked_blob w ao c d (by omega)
      · exact linked_tree w ao c d hb (by omega)
      · exact linked_chg w ao c d hb (by omega)
      · exact linked_mrk w ao c d hb (by omega)

set_option maxRecDepth 100000 in
theorem check_any (w : World) (k : Int) (ao : Option Addr) (c : Nat) (d : List UInt8) (hb : Bts w ao c d) : Calls Tryz.prog 4 #[.agg #[.int .i64 k, .slice ao d.length c]] w fun e w' => e = .returned (.int .i64 (checkL k d)) ∧ w.grownBy w' none := by
  obtain ⟨n, hn⟩ : ∃ n, n = d.length := ⟨_, rfl⟩
  have g0 : w.grownBy (w.alloc (.cells #[.int .i64 k, .slice ao n c] 24)) none := gb_alloc (gb_refl _ _) _
  have cl := linked_any (w.alloc (.cells #[.int .i64 k, .slice ao n c] 24)) k ao c d (hb.kept g0 (fun _ e => by cases e))
  rw [← hn] at cl ⊢
  obtain ⟨Y, hY⟩ : ∃ y, y = checkL k d := ⟨_, rfl⟩
  rw [← hY]
  have HY := hide hY
  clear hn hb hY
  go_enter Tryz.func4, Tryz.ntmps4
  go_wp2_with fail
  refine cl.mono ?_
  rintro e w2 ⟨v, y, rfl, hy, _, g2⟩
  rw [hy, ← unhide HY]
  clear hy cl
  go_wp2
  go_ret
  exact ⟨rfl, tn g0 g2⟩

end Go.Proofs.YtcemdlcimhoeeaaGreatDoor

/- What object's Put and Read answer. Of data of fewer than 2 to the 45 bytes, and bytes of at most 100000. -/
namespace Go.Proofs.YtcemdlcimhoeeaaGreatDoor
open Go.RowKit

theorem bts_b (w : World) (x : UInt8) : ∃ W, W = w.alloc (.cells #[.int .u8 ((x.toNat : Nat) : Int)] 5) ∧ Bts W (some ⟨w.heap.size, 0, none⟩) 1 [x] ∧ w.grownBy W none :=
  ⟨_, rfl, range_bts (l := [x]) (blk_all (Blk.new w 5 [bv x])) (by show 1 ≤ maxLen; decide), gb_alloc (gb_refl _ _) _⟩
theorem wrap_b (k : Int) : IntKind.u8.wrap k = (((UInt8.ofInt k).toNat : Nat) : Int) := by
  rw [IntKind.wrap_u8]
  unfold UInt8.ofInt
  rw [UInt8.toNat_ofNat']
  omega

set_option maxRecDepth 100000 in
theorem oput_any (w : World) (k : Int) (ao : Option Addr) (c : Nat) (d : List UInt8) (hb : Bts w ao c d) (hd : d.length ≤ 35184372088832) : Calls Tryz.prog 24 #[.agg #[.int .i64 k, .slice ao d.length c]] w fun e w' => ∃ v, e = .returned v ∧ NewB w w' v (putL k d) ∧ w.grownBy w' none := by
  obtain ⟨n, hn⟩ : ∃ n, n = d.length := ⟨_, rfl⟩
  obtain ⟨W0, hW0, hB0, g0⟩ : ∃ W1, W1 = w.alloc (.cells #[.int .i64 k, .slice ao n c] 24) ∧ Blk W1 w.heap.size 24 [.int .i64 k, .slice ao n c] ∧ w.grownBy W1 none := box_new w _ _
  obtain ⟨W1, hW1, hb1, g1⟩ := bts_b W0 (UInt8.ofInt k)
  have hcv := wrap_b k
  have cs := sizedl_any W1 _ ao 1 c [UInt8.ofInt k] d hb1 (hb.kept (tn g0 g1) (fun _ e => by cases e)) (by simp; omega)
  rw [show (([UInt8.ofInt k] : List UInt8)).length = 1 from rfl, ← hn] at cs
  rw [← hn]
  have hput : putL k d = [UInt8.ofInt k] ++ layS d := rfl
  rw [← hput] at cs
  obtain ⟨P, hP⟩ : ∃ P, P = putL k d := ⟨_, rfl⟩
  rw [← hP] at cs ⊢
  obtain ⟨z, hz⟩ : ∃ z : Int, z = (((UInt8.ofInt k).toNat : Nat) : Int) := ⟨_, rfl⟩
  rw [← hz] at hcv hW1
  have hs0 : W0.heap.size = w.heap.size + 1 := by rw [hW0]; simp
  rw [hs0] at cs
  have hW : W1 = (w.alloc (.cells #[.int .i64 k, .slice ao n c] 24)).alloc (.cells #[.int .u8 z] 5) := by rw [hW1, hW0]
  have c1 := (hB0.kept g1 (by simp)).cell 1
  simp only [List.getElem?_cons_zero, List.getElem?_cons_succ] at c1
  have HW := hide hW
  have G1 := tn g0 g1
  clear hW hW1 hW0 hz hP hput hb hb1 hB0 g0 g1 hs0 hd hn
  go_enter Tryz.func24, Tryz.ntmps24
  go_wp2_with (rw [← unhide HW])
  refine cs.mono ?_
  rintro e w2 ⟨v2, rfl, hN2, g2⟩
  have HN := hide hN2
  clear cs hN2 c1
  go_wp2
  go_ret
  exact ⟨_, rfl, NewB.later (unhide HN) G1.size, tn G1 g2⟩

/-- What Read tells: the error, the kind, the data. -/
def rdL (b : List UInt8) : Int × Int × List UInt8 :=
  let a := numS b 0 1
  let s := sizedS a.2.1 a.2.2
  if doneS s.2.1 s.2.2 = 0 ∧ checkL (a.1 : Int) s.1 = 0 then (0, (a.1 : Int), s.1) else (11, 0, [])

theorem numS_lt1 (l : List UInt8) (k : Int) : (numS l k 1).1 < 256 := by
  have hnb : nb 1 = 1 := by decide
  unfold numS
  rw [hnb]
  repeat' split
  · simp
  · have h1 := be_lt (l.take 1)
    have h2 : 256 ^ (l.take 1).length ≤ 256 ^ 1 := Nat.pow_le_pow_right (by omega) (by simp; omega)
    simp only
    omega
  · simp

set_option maxRecDepth 100000 in
set_option maxHeartbeats 2000000 in
theorem oread_any (w : World) (ao : Option Addr) (c : Nat) (b : List UInt8) (hb : Bts w ao c b) (hl : b.length ≤ 100000) : Calls Tryz.prog 25 #[.slice ao b.length c] w fun e w' => ∃ v y kk, e = .returned (.tuple #[.agg #[.int .i64 kk, v], .int .i64 y]) ∧ y = (rdL b).1 ∧ kk = (rdL b).2.1 ∧ NewB w w' v (rdL b).2.2 ∧ w.grownBy w' none := by
  obtain ⟨n, hn⟩ : ∃ n, n = b.length := ⟨_, rfl⟩
  obtain ⟨W0, hW0, hB0, g0⟩ : ∃ W1, W1 = w.alloc (.cells #[.int .i64 0, .slice none 0 0] 24) ∧ Blk W1 w.heap.size 24 [.int .i64 0, .slice none 0 0] ∧ w.grownBy W1 none := box_new w _ _
  have cn := new_any W0 ao c b (hb.kept g0 (fun _ e => by cases e)) (by omega)
  rw [← hn] at cn ⊢
  have hR : rdL b = (if doneS (sizedS (numS b 0 1).2.1 (numS b 0 1).2.2).2.1 (sizedS (numS b 0 1).2.1 (numS b 0 1).2.2).2.2 = 0 ∧ checkL ((numS b 0 1).1 : Int) (sizedS (numS b 0 1).2.1 (numS b 0 1).2.2).1 = 0 then (0, ((numS b 0 1).1 : Int), (sizedS (numS b 0 1).2.1 (numS b 0 1).2.2).1) else (11, 0, [])) := rfl
  have hv256 := numS_lt1 b 0
  have hl1 := numS_len b 0 1
  obtain ⟨⟨v1, l1, e1⟩, h1⟩ : ∃ a, numS b 0 1 = a := ⟨_, rfl⟩
  rw [h1] at hR hv256 hl1
  simp only at hR hv256 hl1
  have hdl := sizedS_le l1 e1
  obtain ⟨⟨x, l2, e2⟩, h2⟩ : ∃ a, sizedS l1 e1 = a := ⟨_, rfl⟩
  rw [h2] at hR hdl
  simp only at hR hdl
  obtain ⟨r, hr⟩ : ∃ r, r = rdL b := ⟨_, rfl⟩
  rw [← hr] at hR ⊢
  have hcv : IntKind.i64.wrap ((v1 : Nat) : Int) = ((v1 : Nat) : Int) := by rw [IntKind.wrap_i64]; omega
  have HW0 := hide hW0
  have HB0 := hide hB0
  have HG0 := hide g0
  have H1 := hide h1
  have H2 := hide h2
  have HR := hide hR
  have hl1a : l1.length ≤ 100000 := by omega
  have hxl : x.length ≤ 100000 := by omega
  clear hn hb hl hW0 hB0 g0 h1 h2 hr hR hl1 hdl
  go_enter Tryz.func25, Tryz.ntmps25
  go_wp2_with (rw [← unhide HW0])
  refine cn.mono ?_
  rintro e w1 ⟨rb, rfl, hrb, hRd, g1⟩
  have hws : w.heap.size < W0.heap.size := (unhide HB0).lt
  have hB1 := (unhide HB0).kept g1 (by simp)
  have G1 := tn (unhide HG0) g1
  have c1 := num_at w1 rb b 0 1 hRd
  rw [unhide H1] at c1
  simp only at c1
  clear cn hRd g1
  go_wp2_with fail
  refine c1.mono ?_
  rintro e w2 ⟨rfl, hR2, g2⟩
  have hB2 := hB1.kept g2 (by simp; omega)
  have G2 : w.grownBy w2 none := gb_trans G1 g2 (fun y e => by cases e; exact Or.inl (by omega))
  have c2 := sized_at w2 rb l1 e1 (by omega) hR2
  rw [unhide H2] at c2
  simp only at c2
  clear c1 hB1 G1 hR2 g2
  go_wp2_with fail
  refine c2.mono ?_
  rintro e w3 ⟨v3, rfl, hN3, hR3, g3⟩
  have hB3 := hB2.kept g3 (by simp; omega)
  have G3 : w.grownBy w3 none := gb_trans G2 g3 (fun y e => by cases e; exact Or.inl (by omega))
  have hN3' := NewB.later hN3 G2.size
  obtain ⟨a3, k3, hv3, hb3, hn3⟩ := hN3'
  subst hv3
  obtain ⟨m, hm⟩ : ∃ m, m = x.length := ⟨_, rfl⟩
  rw [← hm]
  obtain ⟨W4, hW4, hO4, g4⟩ : ∃ W1, W1 = w3.alloc (.cells #[.int .i64 (v1 : Int), .slice a3 m k3] 24) ∧ Blk W1 w3.heap.size 24 [.int .i64 (v1 : Int), .slice a3 m k3] ∧ w3.grownBy W1 none := box_new w3 _ _
  have G4 := tn G3 g4
  have hR4 := hR3.kept g4 (Or.inl rfl)
  have hB4 := hB3.kept g4 (by simp)
  have hb4 := hb3.kept g4 (fun _ e => by cases e)
  have cd := done_at W4 rb l2 e2 hR4
  have cc := check_any W4 (v1 : Int) a3 k3 x hb4
  rw [← hm] at cc
  have d0 := hO4.cell 0
  have d1 := hO4.cell 1
  simp only [List.getElem?_cons_zero, List.getElem?_cons_succ] at d0 d1
  have HW4 := hide hW4
  have HB4 := hide hB4
  have HN4 : Hid (NewB w W4 (.slice a3 m k3) x) := hide ⟨a3, k3, by rw [hm], hb4, fun ad e => ⟨(hn3 ad e).1, (hn3 ad e).2.kept g4 (by simp)⟩⟩
  have HO4 := hide hO4
  have HG4 := hide G4
  obtain ⟨D, hD⟩ : ∃ D, D = doneS l2 e2 := ⟨_, rfl⟩
  rw [← hD] at cd
  obtain ⟨C, hC⟩ : ∃ C, C = checkL (v1 : Int) x := ⟨_, rfl⟩
  rw [← hC] at cc
  have hR5 : r = (if D = 0 ∧ C = 0 then (0, (v1 : Int), x) else (11, 0, [])) := by rw [hD, hC]; exact unhide HR
  have HR5 := hide hR5
  clear c2 hB2 G2 hN3 hR3 g3 hB3 G3 hb3 hn3 hm hW4 hO4 g4 hR4 hB4 hb4 hD hC hR5 HR H1 H2 G4
  by_cases hD0 : D = 0
  · subst hD0
    by_cases hC0 : C = 0
    · subst hC0
      have hres : r = (0, (v1 : Int), x) := by have := unhide HR5; rw [if_pos ⟨rfl, rfl⟩] at this; exact this
      have HRS := hide hres
      clear hres HR5
      go_wp2_with (first
        | (rw [← unhide HW4]; go_at_call 49; refine cd.mono ?_; rintro e w5 ⟨rfl, hw5⟩; subst w5; clear cd)
        | (go_at_call 4; refine cc.mono ?_; rintro e w6 ⟨rfl, g6⟩; have HO6 := (unhide HO4).kept g6 (by simp); have HB6 := (unhide HB4).kept g6 (by simp); have e0 := HO6.cell 0; have e1 := HO6.cell 1; have f0 := HB6.cell 0; have f1 := HB6.cell 1; have z0 := HB6.fz 0; have z1 := HB6.fz 1; simp only [List.getElem?_cons_zero, List.getElem?_cons_succ] at e0 e1 f0 f1; clear cc))
      refine bodyPost_ret (results_row_tmp rfl _ _ _ _ _ _ _ rfl ((HB6.set 0 (.int .i64 (v1 : Int))).set 1 (.slice a3 m k3)) Tryz.underlying24 rfl info_obj) rfl ?_
      rw [unhide HRS]
      refine ⟨_, _, _, rfl, rfl, rfl, ?_, gb_setCell (gb_setCell (tn (unhide HG4) g6) _ _ (Or.inl (Nat.le_refl _))) _ _ (Or.inl (Nat.le_refl _))⟩
      obtain ⟨a', c', q1, q2, q3⟩ := unhide HN4
      have gs : w6.grownBy ((w6.setCell ⟨w.heap.size, 0, none⟩ (.int .i64 (v1 : Int))).setCell ⟨w.heap.size, 1, none⟩ (.slice a3 m k3)) (some w.heap.size) := gb_setCell (gb_set w6 w.heap.size 0 _) _ _ (Or.inr rfl)
      refine ⟨a', c', q1, (q2.kept g6 (fun _ e => by cases e)).kept gs ?_, fun ad e => ⟨(q3 ad e).1, ((q3 ad e).2.kept g6 (by simp)).kept gs ?_⟩⟩
      · intro y e ad e5 e4
        cases e
        exact HB6.typ (by decide) (e4 ▸ (q3 ad e5).2.kept g6 (by simp))
      · intro e4
        have e5 := Option.some.inj e4
        exact HB6.typ (by decide) (e5 ▸ (q3 ad e).2.kept g6 (by simp))
    · have hC1 : (C == 0) = false := by simpa using hC0
      have hres : r = (11, 0, []) := by have := unhide HR5; rw [if_neg (fun h => hC0 h.2)] at this; exact this
      have HRS := hide hres
      clear hres HR5
      go_wp2_with (first
        | (rw [← unhide HW4]; go_at_call 49; refine cd.mono ?_; rintro e w5 ⟨rfl, hw5⟩; subst w5; clear cd)
        | (go_at_call 4; refine cc.mono ?_; rintro e w6 ⟨rfl, g6⟩; have HO6 := (unhide HO4).kept g6 (by simp); have HB6 := (unhide HB4).kept g6 (by simp); have e0 := HO6.cell 0; have e1 := HO6.cell 1; have f0 := HB6.cell 0; have f1 := HB6.cell 1; have z0 := HB6.fz 0; have z1 := HB6.fz 1; simp only [List.getElem?_cons_zero, List.getElem?_cons_succ] at e0 e1 f0 f1; clear cc))
      refine bodyPost_ret (results_row_tmp rfl _ _ _ _ _ _ _ rfl ((HB6.set 0 (.int .i64 0)).set 1 (.slice none 0 0)) Tryz.underlying24 rfl info_obj) rfl ?_
      rw [unhide HRS]
      exact ⟨_, _, _, rfl, rfl, rfl, NewB.nil _ _, gb_setCell (gb_setCell (tn (unhide HG4) g6) _ _ (Or.inl (Nat.le_refl _))) _ _ (Or.inl (Nat.le_refl _))⟩
  · have hD1 : (D == 0) = false := by simpa using hD0
    have hres : r = (11, 0, []) := by have := unhide HR5; rw [if_neg (fun h => hD0 h.1)] at this; exact this
    have HRS := hide hres
    have hBF := unhide HB4
    have f0 := hBF.cell 0
    have f1 := hBF.cell 1
    have z0 := hBF.fz 0
    have z1 := hBF.fz 1
    simp only [List.getElem?_cons_zero, List.getElem?_cons_succ] at f0 f1
    clear hres HR5 cc
    go_wp2_with (rw [← unhide HW4]; go_at_call 49; refine cd.mono ?_; rintro e w5 ⟨rfl, hw5⟩; subst w5; clear cd)
    refine bodyPost_ret (results_row_tmp rfl _ _ _ _ _ _ _ rfl ((hBF.set 0 (.int .i64 0)).set 1 (.slice none 0 0)) Tryz.underlying24 rfl info_obj) rfl ?_
    rw [unhide HRS]
    exact ⟨_, _, _, rfl, rfl, rfl, NewB.nil _ _, gb_setCell (gb_setCell (unhide HG4) _ _ (Or.inl (Nat.le_refl _))) _ _ (Or.inl (Nat.le_refl _))⟩

end Go.Proofs.YtcemdlcimhoeeaaGreatDoor
